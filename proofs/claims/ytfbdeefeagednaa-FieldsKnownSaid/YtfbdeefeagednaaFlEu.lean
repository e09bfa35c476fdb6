/-
  Layer 12: what few finds small is short when encoded; a part of a row of elements; the answers of At, in one form each.
  Conditions: none beyond that values read as what they are.
-/
import Derived.Test.YtfbdeefeagednaaFlFx
import Derived.Test.YtfbdeefeagednaaFlYv
import Derived.Test.YtfbdeefeagednaaFlRa
import Derived.Test.YtfbdeefeagednaaFlBk
import Derived.Test.YtfbdeefeagednaaFlQ
namespace Go.Proofs.Ytfbdeefeagednaa.Fl
open Go.RowKit

theorem chk_n {c n : Nat} {k : Bool} (h : chk c n k = 0) : n < 268435456 := by
  rcases Nat.lt_or_ge n 268435456 with h1 | h1
  · exact h1
  · unfold chk at h
    rw [if_pos (.inr (by omega))] at h
    exact absurd h (by decide)
mutual
theorem it_enc : ∀ (e : El), valE e → itE e + 9 * cntE e ≤ 1048576 → (encE e).length ≤ itE e + 9 * cntE e
  | .mk c n k bs ss, hv, h => by
    rw [itE, cntE] at h ⊢
    obtain ⟨h1, _, _, h4⟩ := hv
    have hs := it_encS ss h4 (by omega)
    have := enc_le (c := c) (k := k) (bs := bs) (ss := ss) (chk_n h1) (by omega)
    omega
theorem it_encS : ∀ (ss : List El), valS ss → itS ss + 9 * cntS ss ≤ 1048576 → (encS ss).length ≤ itS ss + 9 * cntS ss
  | [], _, _ => by rw [encS]; simp
  | e :: t, hv, h => by
    rw [itS, cntS] at h ⊢
    have h1 := it_enc e hv.1 (by omega)
    have h2 := it_encS t hv.2 (by omega)
    rw [encS, List.length_append]
    omega
end
theorem chk_val {e : El} (h : (chkE e 1 0).1 = 0) : valE e ∧ depE e ≤ 16 ∧ cntE e ≤ 8192 := by
  have := (chkE_zero e 1 0).1 h
  exact ⟨this.1, by have := this.2.1; omega, by have := this.2.2; omega⟩
theorem sm_con {e : El} (h : itE e + 9 * cntE e ≤ 1048576) : conOk e := fun hz => Nat.le_trans conL_le (Nat.le_trans (it_enc e (chk_val hz).1 h) h)
theorem sm_ok {e : El} (h : itE e + 9 * cntE e ≤ 1048576) (hz : (chkE e 1 0).1 = 0) : OKe e :=
  ⟨(chk_val hz).1, (chk_val hz).2.1, (chk_val hz).2.2, Nat.le_trans (it_enc e (chk_val hz).1 h) h⟩
theorem it_mem {ss : List El} {e : El} (h : e ∈ ss) : itE e ≤ itS ss := by
  induction ss with
  | nil => simp at h
  | cons x t ih => rw [itS]; rcases List.mem_cons.1 h with rfl | h; · omega
                   · have := ih h; omega
theorem dep_mem {ss : List El} {e : El} (h : e ∈ ss) : depE e ≤ depS ss := by
  induction ss with
  | nil => simp at h
  | cons x t ih => rw [depS]; rcases List.mem_cons.1 h with rfl | h; · omega
                   · have := ih h; omega
/-- What few finds small. -/
theorem few_tiny {e : El} {L' : Int} (h : fewE e 60 0 = (true, L')) : itE e + 9 * cntE e ≤ 1048576 ∧ depE e ≤ 10000 ∧ tinE e ∧ SMe e := by
  have h0 := fewE_sm e 60 0 (by omega) (by rw [h])
  obtain ⟨h1, h2, h3⟩ := few_small h
  exact ⟨by have := h0.2.2.2.2; omega, h2.2.1, h1, h2⟩
theorem few_subs {c n : Nat} {k : Bool} {bs : List Nat} {ss : List El} (h : itE (.mk c n k bs ss) + 9 * cntE (.mk c n k bs ss) ≤ 1048576) (hd : depE (.mk c n k bs ss) ≤ 10000) : ∀ e ∈ ss, depE e ≤ 10000 ∧ conOk e ∧ ((chkE e 1 0).1 = 0 → OKe e) := by
  rw [itE, cntE] at h
  rw [depE] at hd
  intro e he
  have h1 := it_mem he
  have h2 := cntE_mem he
  have h3 := dep_mem he
  exact ⟨by omega, sm_con (by omega), sm_ok (by omega)⟩
theorem gb_of {w w' : World} (r : Option Nat) (hb : Below w.heap.size w w') : w.grownBy w' r := ⟨hb.os, hb.tape, hb.output, hb.size, fun i hi _ => hb.block i hi⟩
theorem gb_set {a w : World} {r : Option Nat} (h : a.grownBy w r) {g : Nat} (hg : a.heap.size ≤ g) (i : Nat) (u : Value) : a.grownBy (w.setCell ⟨g, i, none⟩ u) r :=
  ⟨h.os, h.tape, h.output, by rw [World.size_setCell]; exact h.size, fun k hk hne => (Below.heap_setCell w ⟨g, i, none⟩ u k (by show k ≠ g; omega)).trans (h.block k hk hne)⟩
theorem rds_take {x : Bool} {S : Nat → Prop} {w : World} : ∀ {ss : List El} {A : Option Addr} (d : Nat), RdS x S w A ss → RdS x S w A (ss.take d)
  | [], _, _, _ => by rw [List.take_nil]; trivial
  | e :: t, A, 0, _ => by rw [List.take_zero]; trivial
  | e :: t, A, d + 1, h => by
    obtain ⟨b, off, v, h1, h2, h3, h4, h5, h6⟩ := h
    rw [List.take_succ_cons]
    exact ⟨b, off, v, h1, h2, h3, h4, h5, rds_take d h6⟩
theorem slE_mid (A : Option Addr) (n c k d j : Nat) (h : k + d = j) (hj : j ≤ n) (hc : n ≤ c) :
    ∃ A' c', d ≤ c' ∧ (∀ W, (Instr.slice 27 (.slice A n c) (some (.int .i64 (k : Int))) (some (.int .i64 (j : Int))) none).run Try.prog W = .ok (.slice A' d c') W) ∧
      ∀ (x : Bool) (S : Nat → Prop) (W : World) (ss : List El), ss.length = n → RdS x S W A ss → RdS x S W A' ((ss.drop k).take d) := by
  have hsz : ∀ W, (sizeOf (Try.prog.elem 27)).run Try.prog W = .ok 5 W := fun W => by kernel_rfl
  refine ⟨if c = k then A else A.map (·.add (k * 5)), c - k, by omega, fun W => ?_, fun x S W ss hl hr => ?_⟩
  · rw [run_slice_lh (P := Try.prog) W 27 A n c (by kernel_rfl) .i64 .i64 (k : Int) (j : Int) (by omega) (by omega) (by omega), hsz]
    simp only [Result.andThen, Int.toNat_natCast, sliced]
    rw [show j - k = d by omega]
  · by_cases hk : c = k
    · rw [if_pos hk, List.drop_eq_nil_of_le (by omega), List.take_nil]
      trivial
    · rw [if_neg hk]
      cases ss with
      | nil => rw [List.drop_nil, List.take_nil]; trivial
      | cons e t =>
        have hr2 := hr
        obtain ⟨b, off, v, rfl, _⟩ := hr2
        show RdS x S W (some ((⟨b, off, none⟩ : Addr).add (k * 5))) _
        rw [addr_add]
        exact rds_take d (RdS.drop_ k hr)
theorem pair_at {ss : List El} {p q : Nat} (hpq : p + 1 = q) (hq : q < ss.length) : (ss.drop p).take 2 = [ss[p]'(by omega), ss[q]'hq] := by
  subst hpq
  rw [List.drop_eq_getElem_cons (show p < ss.length by omega), List.drop_eq_getElem_cons hq]
  rfl
/-- The order of a pair, and of a row from a pair on. -/
theorem ord_pair {q : Nat} {X Y : El} {t : List El} {P : List Int} {f : Nat} (hX : (chkE X 1 0).1 = 0) (hY : (chkE Y 1 0).1 = 0) (h : ordS q (some X) (Y :: t) = (P, f)) :
    (ordS 0 none [X, Y] = ([], 0) ∧ ordS (q + 1) (some Y) t = (P, f)) ∨ (ordS 0 none [X, Y] = ([1], f) ∧ f ≠ 0 ∧ P = [(q : Int)]) := by
  rw [ordS_cons, hY, if_neg (by simp)] at h
  rw [ordS_cons, hX, if_neg (by simp)]
  dsimp only at h ⊢
  rw [ordS_cons, hY, if_neg (by simp)]
  dsimp only
  split at h
  · rename_i h1
    injection h with h2 h3
    subst h2 h3
    rw [if_pos h1]
    exact .inr ⟨rfl, by decide, rfl⟩
  · rename_i h1
    rw [if_neg h1]
    split at h
    · rename_i h4
      injection h with h2 h3
      subst h2 h3
      rw [if_pos h4]
      exact .inr ⟨rfl, by decide, rfl⟩
    · rename_i h4
      rw [if_neg h4, ordS]
      exact .inl ⟨rfl, h⟩
theorem offU_none {e : El} {p : List Int} (hok : OKe e) (h : atE e p = none) : offR e p = (0, 19) := by
  unfold offR; rw [if_neg (by rw [hok.siz]; simp), h]
theorem offU_some {e d : El} {p : List Int} (hok : OKe e) (h : atE e p = some d) : offR e p = (offE e p, 0) := by
  unfold offR; rw [if_neg (by rw [hok.siz]; simp), h]
/-- At, in one form. -/
theorem at_uni {x : Bool} {S : Nat → Prop} (e : El) (v : Value) (path : List Int) (P : Option Addr) (N pc : Nat) (w : World) (hE : RdE x S w e v) (hsm : SMe e) (hP : Rd w P (csZ path)) (hN : path.length = N) (hN1 : N ≤ 1000000) (r : Option El) (hR : atE e path = r) :
    Calls Try.prog 15 #[v, .slice P N pc] w fun e w' => ∃ (c n : Nat) (k : Bool) (A : Option Addr) (l ca : Nat) (B : Option Addr) (m cb F : Nat), e = .returned (.tuple #[elV c n k (.slice A l ca) (.slice B m cb), .int .i64 (F : Int)]) ∧ (r = none → F = 19) ∧ (∀ d, r = some d → F = 0) ∧ (∀ d, r = some d → RdE true (fun i => w.heap.size ≤ i ∧ i < w'.heap.size) w' d (elV c n k (.slice A l ca) (.slice B m cb))) ∧ Below w.heap.size w w' := by
  refine (at_any e v path P N pc w hE hsm hP hN hN1 r hR).mono ?_
  intro e' w' h
  cases r with
  | none => exact ⟨0, 0, false, none, 0, 0, none, 0, 0, 19, h.1, (fun _ => rfl), (fun d h => by cases h), (fun d h => by cases h), h.2⟩
  | some d =>
    obtain ⟨u, rfl, hu, _, hb⟩ := h
    obtain ⟨c5, n5, k5, A5, l5, q5, A6, l6, q6, rfl⟩ := hu.form
    exact ⟨c5, n5, k5, A5, l5, q5, A6, l6, q6, 0, rfl, (fun h => by cases h), (fun _ _ => rfl), (fun d' h' => by injection h' with h'; subst h'; exact hu), hb⟩
/-- The reference's At, in one form. -/
theorem rat_uni {x : Bool} {S : Nat → Prop} (e : El) (v : Value) (path : List Int) (P : Option Addr) (N pc : Nat) (w : World) (hE : RdE x S w e v) (hP : Rd w P (csZ path)) (hN : path.length = N) (hN1 : N ≤ 1000000) (r : Option El) (hR : atE e path = r) :
    Calls Try.prog 16 #[v, .slice P N pc] w fun e w' => ∃ (c n : Nat) (k : Bool) (A : Option Addr) (l ca : Nat) (B : Option Addr) (m cb : Nat) (z : Bool), e = .returned (.tuple #[elV c n k (.slice A l ca) (.slice B m cb), .bool z]) ∧ (r = none → z = false) ∧ (∀ d, r = some d → z = true) ∧ (∀ d, r = some d → RdE x (· < w.heap.size) w d (elV c n k (.slice A l ca) (.slice B m cb))) ∧ Below w.heap.size w w' := by
  refine (rat_any e v path P N pc w hE hP hN hN1 r hR).mono ?_
  intro e' w' h
  cases r with
  | none => exact ⟨0, 0, false, none, 0, 0, none, 0, 0, false, h.1, (fun _ => rfl), (fun d h => by cases h), (fun d h => by cases h), h.2⟩
  | some d =>
    obtain ⟨u, rfl, hu, hb⟩ := h
    obtain ⟨c5, n5, k5, A5, l5, q5, A6, l6, q6, rfl⟩ := hu.form
    exact ⟨c5, n5, k5, A5, l5, q5, A6, l6, q6, true, rfl, (fun h => by cases h), (fun _ _ => rfl), (fun d' h' => by injection h' with h'; subst h'; exact hu), hb⟩
end Go.Proofs.Ytfbdeefeagednaa.Fl
