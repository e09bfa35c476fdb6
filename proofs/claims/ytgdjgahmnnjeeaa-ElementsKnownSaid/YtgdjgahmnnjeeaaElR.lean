/-
  Layer 4: elements in a row that the call makes; slices.Clip; cloneBytes.
  Conditions: none beyond that values read as elements.
-/
import Derived.Test.YtgdjgahmnnjeeaaElN
import Derived.Deep.AppendLies
import Derived.Deep.AppendSrc
namespace Go.Proofs.Ytgdjgahmnnjeeaa
open Go.RowKit

/-- Cells that read as elements, five each. -/
def RowE (x : Bool) (S : Nat → Prop) (w : World) : List El → List Value → Prop
  | [], cs => cs = []
  | e :: es, cs => ∃ v rest, cs = v.cells.toList ++ rest ∧ RdE x S w e v ∧ RowE x S w es rest
section
variable {x : Bool} {S T : Nat → Prop} {w w' : World}
theorem RdE.form {e : El} {v : Value} (h : RdE x S w e v) : ∃ c n k A l q A2 l2 q2, v = elV c n k (.slice A l q) (.slice A2 l2 q2) := by
  obtain ⟨c, n, k, bs, ss⟩ := e
  obtain ⟨_, _, _, A, ca, B, cb, rfl, _⟩ := h
  exact ⟨_, _, _, _, _, _, _, _, _, rfl⟩
theorem RdE.five_ {e : El} {v : Value} (h : RdE x S w e v) : v.cells.toList.length = 5 := by
  obtain ⟨c, n, k, A, l, q, A2, l2, q2, rfl⟩ := h.form; rfl
theorem RdE.ones {e : El} {v : Value} (h : RdE x S w e v) : ∀ u ∈ v.cells.toList, u.oneCell' = true := by
  obtain ⟨c, n, k, A, l, q, A2, l2, q2, rfl⟩ := h.form
  intro u hu
  have : u = .int .u8 (c : Int) ∨ u = .bool k ∨ u = .int .u32 (n : Int) ∨ u = .slice A l q ∨ u = .slice A2 l2 q2 := by simpa [Value.cells] using hu
  rcases this with rfl | rfl | rfl | rfl | rfl <;> rfl
theorem RowE.keep (hz : w.heap.size ≤ w'.heap.size) (hk : ∀ k, S k → k < w.heap.size → w'.heap[k]? = w.heap[k]?) (hT : ∀ k, S k → k < w.heap.size → T k) : ∀ {es : List El} {cs : List Value}, RowE x S w es cs → RowE x T w' es cs
  | [], _, h => h
  | _ :: _, _, ⟨v, rest, h1, h2, h3⟩ => ⟨v, rest, h1, RdE.keep hz hk hT _ v h2, RowE.keep hz hk hT h3⟩
theorem RowE.snoc {e : El} {v : Value} (hv : RdE x S w e v) : ∀ {es : List El} {cs : List Value}, RowE x S w es cs → RowE x S w (es ++ [e]) (cs ++ v.cells.toList)
  | [], cs, h => by
    obtain rfl : cs = [] := h
    exact ⟨v, [], by simp, hv, rfl⟩
  | _ :: _, _, ⟨u, rest, h1, h2, h3⟩ => ⟨u, rest ++ v.cells.toList, by rw [h1, List.append_assoc], h2, RowE.snoc hv h3⟩
theorem RowE.len : ∀ {es : List El} {cs : List Value}, RowE x S w es cs → cs.length = es.length * 5
  | [], cs, h => by
    obtain rfl : cs = [] := h
    rfl
  | _ :: _, _, ⟨u, rest, h1, h2, h3⟩ => by rw [h1, List.length_append, h2.five_, RowE.len h3, List.length_cons]; omega
theorem RowE.rds {b : Nat} (hb : b < w.heap.size) (hTb : T b) (hST : ∀ i, S i → T i) : ∀ {es : List El} {cs : List Value} {off : Nat}, RowE x S w es cs → (∀ j u, cs[j]? = some u → w.cell? ⟨b, off + j, none⟩ = some u) → RdS x T w (some ⟨b, off, none⟩) es
  | [], _, _, _, _ => trivial
  | e :: es, cs, off, ⟨v, rest, h1, h2, h3⟩, hc => by
    subst h1
    refine ⟨b, off, v, rfl, hb, hTb, fun j u hu => hc j u ?_, RdE.keep (Nat.le_refl _) (fun _ _ _ => rfl) (fun i hi _ => hST i hi) _ _ h2, RowE.rds hb hTb hST h3 fun j u hu => ?_⟩
    · rw [List.getElem?_append_left]
      · exact hu
      · exact (List.getElem?_eq_some_iff.1 hu).1
    · rw [show off + 5 + j = off + (5 + j) by omega]
      refine hc (5 + j) u ?_
      rw [List.getElem?_append_right (by rw [h2.five_]; omega), h2.five_, show 5 + j - 5 = j by omega]
      exact hu
end
theorem infoE : (Try.prog.info? 29).map (fun i => (i.zero, i.size, i.bytes)) = some (some (elV 0 0 false (.slice none 0 0) (.slice none 0 0)), 5, 56) := by kernel_rfl

/-- 'append(v, e)' of one element, to what the call has built. -/
theorem row_app {x : Bool} {S : Nat → Prop} {w : World} {B : Nat} {v : Value} {es : List El} {cs : List Value} (hown : w.ownsRow B 29 5 v es.length cs) (hrow : RowE x S w es cs) (hS : ∀ i, S i → v.ownBlock ≠ some i)
    {e : El} {u : Value} (hu : RdE x S w e u) (hn : es.length + 1 ≤ 1000000) (hB : B ≤ w.heap.size) (n : Nat) (hln : es.length = n) :
    ∃ g cap w2, (Builtin.append_ #[27, 27] 27 #[v, .slice (some ⟨w.heap.size, 0, none⟩) 1 1]).run Try.prog (w.alloc (.cells u.cells 29)) = .ok (.slice (some ⟨g, 0, none⟩) (n + 1) cap) w2 ∧
      w2.ownsRow B 29 5 (.slice (some ⟨g, 0, none⟩) (n + 1) cap) (es ++ [e]).length (cs ++ u.cells.toList) ∧ RowE x (fun i => S i ∧ i ≠ g) w2 (es ++ [e]) (cs ++ u.cells.toList) ∧ w.grownBy w2 v.ownBlock ∧ B ≤ g ∧ g < w2.heap.size ∧ (v.ownBlock = some g ∨ g = w.heap.size + 1) ∧ n + 1 ≤ cap ∧ cap ≤ maxLen := by
  subst hln
  obtain ⟨i, hi, hz0, hz1, hz2⟩ := info_parts infoE
  have hb := bel1 w (.cells u.cells 29)
  have hown1 := hown.alloc (.cells u.cells 29)
  have hcell : ∀ j y, u.cells.toList[j]? = some y → (w.alloc (.cells u.cells 29)).cell? ((⟨w.heap.size, 0, none⟩ : Addr).add j) = some y := by
    intro j y hy
    have := (Bk.new w 29 u.cells.toList).cell j
    rw [addr_add, Nat.zero_add]
    simp only [Array.toArray_toList] at this
    rw [this]; exact hy
  obtain ⟨g, cap, w2, hrun, h2, h3, h4, h5⟩ := run_append_lies (P := Try.prog) (w := w.alloc (.cells u.cells 29)) 27 27 B 29 i _ 5 56 Try.underlying27 hi hz0 hz1 hz2 rfl (by decide) v es.length cs hown1 ⟨w.heap.size, 0, none⟩ 1 1 u.cells.toList (by rw [hu.five_]) hcell hu.ones (by decide) (by unfold maxLen; omega) (by omega) (by simp; omega) (w.heap.size + 1) (by simp)
  have hgw : w.grownBy w2 v.ownBlock := ⟨h3.os, h3.tape, h3.output, Nat.le_trans hb.size h3.size, fun k hk hne => (h3.block k (Nat.lt_of_lt_of_le hk hb.size) hne).trans (hb.block k hk)⟩
  have hSg : ∀ i, S i → i < w.heap.size → S i ∧ i ≠ g := by
    intro i hs hl
    refine ⟨hs, ?_⟩
    rintro rfl
    rcases h4 with h4 | h4
    · exact hS _ hs h4
    · omega
  refine ⟨g, cap, w2, hrun, by rw [List.length_append]; exact h2, RowE.snoc (RdE.keep hgw.size (fun k hs hl => hgw.block k hl (fun e => hS k hs e.symm)) hSg _ _ hu) (RowE.keep hgw.size (fun k hs hl => hgw.block k hl (fun e => hS k hs e.symm)) hSg hrow), hgw, ?_, h5, h4, ?_, ?_⟩
  · exact (h2.lt g rfl).1
  · rcases h2.2 with ⟨h, _⟩ | ⟨g', cap', cur, h, _, _, hle, _⟩
    · cases h
    · injection h with h1 h2 h3; subst h3; exact hle
  · rcases h2.2 with ⟨h, _⟩ | ⟨g', cap', cur, h, _, _, _, hm, _⟩
    · cases h
    · injection h with h1 h2 h3; subst h3; exact hm

set_option maxRecDepth 100000 in
theorem clipE (b n c : Nat) (w : World) (h : n ≤ c) (_hc : c ≤ maxLen) : Calls Try.prog 68 #[.slice (some ⟨b, 0, none⟩) n c] w fun e w' => e = .returned (.slice (some ⟨b, 0, none⟩) n n) ∧ w = w' := by
  unfold maxLen at _hc
  have h1 : (n : Int) ≤ (c : Int) := by omega
  go_enter Try.func68, Try.ntmps68
  go_wp2_with fail
  go_ret
  exact ⟨rfl, rfl⟩
set_option maxRecDepth 100000 in
theorem clipE_nil (w : World) : Calls Try.prog 68 #[.slice none 0 0] w fun e w' => e = .returned (.slice none 0 0) ∧ w = w' := by
  go_enter Try.func68, Try.ntmps68
  go_wp2_with fail
  go_ret
  exact ⟨rfl, rfl⟩
set_option maxRecDepth 100000 in
theorem clipB (b n c : Nat) (w : World) (h : n ≤ c) (_hc : c ≤ maxLen) : Calls Try.prog 81 #[.slice (some ⟨b, 0, none⟩) n c] w fun e w' => e = .returned (.slice (some ⟨b, 0, none⟩) n n) ∧ w = w' := by
  unfold maxLen at _hc
  have h1 : (n : Int) ≤ (c : Int) := by omega
  go_enter Try.func81, Try.ntmps81
  go_wp2_with fail
  go_ret
  exact ⟨rfl, rfl⟩
set_option maxRecDepth 100000 in
theorem clipB_nil (w : World) : Calls Try.prog 81 #[.slice none 0 0] w fun e w' => e = .returned (.slice none 0 0) ∧ w = w' := by
  go_enter Try.func81, Try.ntmps81
  go_wp2_with fail
  go_ret
  exact ⟨rfl, rfl⟩

/-- 'append([]byte(nil), b...)'. -/
theorem app_nil {w : World} {A : Option Addr} {l : List Nat} (h : Rb w A l) (hl : l.length ≤ 1000000000) (c N : Nat) (hN : l.length = N) :
    (l = [] ∧ (Builtin.append_ #[26, 26] 26 #[.slice none 0 0, .slice A N c]).run Try.prog w = .ok (.slice none 0 0) w) ∨
    ∃ g cap w', (Builtin.append_ #[26, 26] 26 #[.slice none 0 0, .slice A N c]).run Try.prog w = .ok (.slice (some ⟨g, 0, none⟩) N cap) w' ∧ N ≤ cap ∧ cap ≤ maxLen ∧ RdX (fun i => w.heap.size ≤ i) w' (some ⟨g, 0, none⟩) (cs8 l) ∧ Below w.heap.size w w' := by
  subst hN
  obtain ⟨i, hi, hz0, hz1, hz2⟩ := info_parts Len.info5
  rcases Nat.eq_zero_or_pos l.length with h0 | h0
  · obtain rfl := List.eq_nil_of_length_eq_zero h0
    left
    have hs : Src Try.prog i.size 26 (.slice A 0 c) 0 [] w := by
      cases A with
      | none => exact Src.ofNil (e' := 5) w Try.underlying26 c
      | some a => exact Src.ofSlice (e' := 5) w Try.underlying26 a 0 c [] (by simp) (fun j u hu => by simp at hu) (fun u hu => by simp at hu)
    exact ⟨rfl, run_append_nothing (P := Try.prog) w 26 26 26 5 i Try.underlying26 hi none 0 0 (Nat.le_refl _) (.slice A 0 c) hs⟩
  · right
    obtain ⟨b, off, rfl, hbz, hc⟩ := h.1.all_ (by rw [cs8_len]; exact h0)
    obtain ⟨g, cap, w', hrun, h2, h3, h4, h5⟩ := run_append_lies (P := Try.prog) (w := w) 26 26 w.heap.size 5 i _ 1 1 Try.underlying26 hi hz0 hz1 hz2 rfl (by decide) (.slice none 0 0) 0 [] (World.ownsRow_nil w w.heap.size 5 1) ⟨b, off, none⟩ l.length c (cs8 l) (by rw [cs8_len, Nat.mul_one])
      (fun j u hj => by
        obtain ⟨hj1, rfl⟩ := List.getElem?_eq_some_iff.1 hj
        rw [addr_add]; exact hc j hj1) (cs8_ones l) h0 (by unfold maxLen; omega) (by omega) (Nat.le_refl _) w.heap.size rfl
    have hgs : g = w.heap.size := by
      rcases h4 with h4 | h4
      · cases h4
      · exact h4
    simp only [Nat.zero_add, List.nil_append] at hrun h2
    refine ⟨g, cap, w', hrun, ?_, ?_, fun _ => ⟨g, 0, rfl, h5, by omega, fun j u hu => ?_⟩, ⟨h3.os, h3.tape, h3.output, h3.size, fun k hk => h3.block k hk (by intro e; cases e)⟩⟩
    · rcases h2.2 with ⟨h, _⟩ | ⟨g', cap', cur, h, _, _, hle, _⟩
      · cases h
      · injection h with h1 h2 h3; subst h3; exact hle
    · rcases h2.2 with ⟨h, _⟩ | ⟨g', cap', cur, h, _, _, _, hm, _⟩
      · cases h
      · injection h with h1 h2 h3; subst h3; exact hm
    · have := h2.cells (g := g) rfl j u hu
      rwa [addr_add] at this

set_option maxHeartbeats 1000000 in
set_option maxRecDepth 100000 in
theorem clone8_any (A : Option Addr) (l : List Nat) (c : Nat) (w : World) (h : Rb w A l) (hl : l.length ≤ 1000000000) :
    Calls Try.prog 67 #[.slice A l.length c] w fun e w' => ∃ A', e = .returned (.slice A' l.length l.length) ∧ RdX (fun i => w.heap.size ≤ i) w' A' (cs8 l) ∧ Below w.heap.size w w' := by
  obtain ⟨N, hN⟩ : ∃ N, l.length = N := ⟨_, rfl⟩
  have hNl : N ≤ 1000000000 := by omega
  rcases app_nil h hl c N hN with ⟨rfl, hr⟩ | ⟨g, cap, w', hr, h1, h2, h3, h4⟩
  · have HR := Lib.hid hr
    obtain rfl : 0 = N := hN
    clear h hr hl
    go_enter Try.func67, Try.ntmps67
    go_wp2_with (at_builtin; refine Len.wpList_app (o := ⟨some 4, _, _, _, _, _⟩) rfl _ _ _ _ rfl _ _ rfl rfl HR.out ?_)
    refine (clipB_nil w).mono ?_
    rintro e w1 ⟨rfl, rfl⟩
    go_wp2_with fail
    go_ret
    exact ⟨none, rfl, RdX.nil, Below.refl _ _⟩
  · have HR := Lib.hid hr
    have H3 := Lib.hid h3
    have H4 := Lib.hid h4
    rw [hN]
    clear h hr hl h3 h4 hN
    go_enter Try.func67, Try.ntmps67
    go_wp2_with (at_builtin; refine Len.wpList_app (o := ⟨some 4, _, _, _, _, _⟩) rfl _ _ _ _ rfl _ _ rfl rfl HR.out ?_)
    refine (clipB g N cap w' h1 h2).mono ?_
    rintro e w1 ⟨rfl, rfl⟩
    go_wp2_with fail
    go_ret
    exact ⟨some ⟨g, 0, none⟩, rfl, H3.out, H4.out⟩
end Go.Proofs.Ytgdjgahmnnjeeaa
