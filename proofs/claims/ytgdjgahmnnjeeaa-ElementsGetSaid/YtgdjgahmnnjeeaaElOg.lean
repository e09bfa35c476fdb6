/-
  Layer 4: elements in rows: append of several; what the pile of E.Of keeps.
  Conditions: none beyond that values read as elements.
-/
import Derived.Test.YtgdjgahmnnjeeaaElR
import Derived.Test.YtgdjgahmnnjeeaaElD
import Derived.Test.YtgdjgahmnnjeeaaElS
namespace Go.Proofs.Ytgdjgahmnnjeeaa
open Go.RowKit

section
variable {x : Bool} {S : Nat → Prop} {w : World}
theorem RowE.cat : ∀ {es es2 : List El} {cs cs2 : List Value}, RowE x S w es cs → RowE x S w es2 cs2 → RowE x S w (es ++ es2) (cs ++ cs2)
  | [], _, cs, _, h, h2 => by
    obtain rfl : cs = [] := h
    exact h2
  | _ :: _, _, _, cs2, ⟨v, rest, h1, h2, h3⟩, h4 => ⟨v, rest ++ cs2, by rw [h1, List.append_assoc], h2, RowE.cat h3 h4⟩
theorem RowE.one : ∀ {es : List El} {cs : List Value}, RowE x S w es cs → ∀ u ∈ cs, u.oneCell' = true
  | [], cs, h, u, hu => by
    obtain rfl : cs = [] := h
    simp at hu
  | _ :: _, _, ⟨v, rest, h1, h2, h3⟩, u, hu => by
    subst h1
    rcases List.mem_append.1 hu with hu | hu
    · exact h2.ones u hu
    · exact RowE.one h3 u hu
theorem RowE.drop : ∀ {es : List El} {cs : List Value} (i : Nat), RowE x S w es cs → RowE x S w (es.drop i) (cs.drop (i * 5))
  | _, _, 0, h => by simpa using h
  | [], cs, i + 1, h => by
    obtain rfl : cs = [] := h
    simp [RowE]
  | _ :: es, _, i + 1, ⟨v, rest, h1, h2, h3⟩ => by
    subst h1
    rw [List.drop_succ_cons, show (i + 1) * 5 = v.cells.toList.length + i * 5 by rw [h2.five_]; omega, ← List.drop_drop, List.drop_left]
    exact RowE.drop i h3
theorem RowE.take : ∀ {es : List El} {cs : List Value} (i : Nat), RowE x S w es cs → RowE x S w (es.take i) (cs.take (i * 5))
  | _, _, 0, _ => by simp [RowE]
  | [], cs, i + 1, h => by
    obtain rfl : cs = [] := h
    simp [RowE]
  | _ :: es, _, i + 1, ⟨v, rest, h1, h2, h3⟩ => by
    subst h1
    rw [List.take_succ_cons, show (i + 1) * 5 = v.cells.toList.length + i * 5 by rw [h2.five_]; omega, List.take_length_add_append]
    exact ⟨v, _, rfl, h2, RowE.take i h3⟩
end
/-- 'append(v, s...)' of several elements, to what the call has built. -/
theorem rows_app {x : Bool} {S : Nat → Prop} {w : World} {B : Nat} {v : Value} {es es2 : List El} {cs cs2 : List Value} (hown : w.ownsRow B 29 5 v es.length cs) (hrow : RowE x S w es cs) (hS : ∀ i, S i → v.ownBlock ≠ some i) (hSl : ∀ i, S i → i < w.heap.size)
    (hrow2 : RowE x S w es2 cs2) (a : Addr) (c : Nat) (hsrc : ∀ j y, cs2[j]? = some y → w.cell? (a.add j) = some y) (hn : es.length + es2.length ≤ 1000000) (hB : B ≤ w.heap.size) :
    ∃ v2 w2, (Builtin.append_ #[27, 27] 27 #[v, .slice (some a) es2.length c]).run Try.prog w = .ok v2 w2 ∧
      w2.ownsRow B 29 5 v2 (es ++ es2).length (cs ++ cs2) ∧ RowE x S w2 (es ++ es2) (cs ++ cs2) ∧ (∀ i, S i → v2.ownBlock ≠ some i) ∧ w.grownBy w2 v.ownBlock := by
  obtain ⟨i, hi, hz0, hz1, hz2⟩ := info_parts infoE
  obtain ⟨v2, w2, hrun, h2, h3, _, h5⟩ := run_append_own_at (P := Try.prog) w B 27 27 29 i _ 5 56 Try.underlying27 hi hz0 hz1 hz2 rfl (by decide) v es.length cs hown a es2.length c cs2 (by rw [hrow2.len]) hsrc hrow2.one (by unfold maxLen; omega) (by omega) hB
  refine ⟨v2, w2, hrun, by rw [List.length_append]; exact h2, RowE.keep h3.size (fun k hs hl => h3.block k hl (fun e => hS k hs e.symm)) (fun _ hs _ => hs) (hrow.cat hrow2), fun i hs e => ?_, h3⟩
  rcases h5 with h5 | h5
  · exact hS i hs (by rw [← h5, e])
  · rw [h5] at e
    have := hSl i hs
    simp only [Option.some.injEq] at e
    omega
/-- What each element of the pile is. -/
def okE (e : El) : Prop := valE e ∧ depE e ≤ 15 ∧ bndE e = true
/-- The pile, after so many steps. -/
def okP (es : List El) (i : Nat) : Prop := (∀ e ∈ es, okE e) ∧ cntS es ≤ i
theorem bndS_of {ss : List El} (h : ∀ e, e ∈ ss → bndE e = true) : bndS ss = true := by
  induction ss with
  | nil => rw [bndS]
  | cons x ss ih => rw [bndS, h x (by simp), ih fun e he => h e (by simp [he])]; rfl
theorem depS_of {ss : List El} {m : Nat} (h : ∀ e, e ∈ ss → depE e ≤ m) : depS ss ≤ m := by
  induction ss with
  | nil => rw [depS]; omega
  | cons x ss ih =>
    rw [depS]
    have := h x (by simp)
    have := ih fun e he => h e (by simp [he])
    omega
theorem okE_prim {c n : Nat} (bs : List Nat) (h : chk c n false = 0) (hb : bs.length ≤ 20) : okE (.mk c n false bs []) := by
  refine ⟨⟨h, fun h => (by cases h), fun _ => rfl, trivial⟩, by rw [depE, depS]; omega, ?_⟩
  rw [bndE, bndS, cntS]
  simp
  omega
theorem okE_cons {c n : Nat} {ss : List El} (h : chk c n true = 0) (hs : ∀ e ∈ ss, okE e) (hc : cntS ss ≤ 59) (hd : depE (.mk c n true [] ss) ≤ 15) : okE (.mk c n true [] ss) := by
  refine ⟨⟨h, fun _ => rfl, fun h => (by cases h), valS_of fun e he => (hs e he).1⟩, hd, ?_⟩
  rw [bndE, bndS_of fun e he => (hs e he).2.2]
  simp
  omega
theorem okP_nil : okP [] 0 := ⟨fun _ h => absurd h (by simp), by rw [cntS]; omega⟩
theorem okP_step {es : List El} {i : Nat} (h : okP es i) : okP es (i + 1) := ⟨h.1, by have := h.2; omega⟩
theorem okP_push {es : List El} {i : Nat} {e : El} (h : okP es i) (he : okE e) (h1 : cntE e = 1) : okP (es ++ [e]) (i + 1) := by
  refine ⟨fun x hx => ?_, ?_⟩
  · rcases List.mem_append.1 hx with hx | hx
    · exact h.1 x hx
    · rw [List.mem_singleton.1 hx]; exact he
  · have := h.2
    rw [cntS_append, cntS, cntS]
    omega
/-- The last ones become one. -/
theorem okP_fold {es : List El} {i j c n : Nat} (h : okP es i) (hi : i < 40) (hc : chk c n true = 0) (hd : depE (.mk c n true [] (es.drop j)) ≤ 15) : okP (es.take j ++ [.mk c n true [] (es.drop j)]) (i + 1) := by
  have h1 : cntS (es.take j) + cntS (es.drop j) = cntS es := by rw [← cntS_append, List.take_append_drop]
  have h2 := h.2
  refine ⟨fun x hx => ?_, ?_⟩
  · rcases List.mem_append.1 hx with hx | hx
    · exact h.1 x (List.mem_of_mem_take hx)
    · rw [List.mem_singleton.1 hx]
      exact okE_cons hc (fun e he => h.1 e (List.mem_of_mem_drop he)) (by omega) hd
  · rw [cntS_append, cntS, cntS, cntE]
    omega
/-- What E.Of gives in the end is a valid element, not too large. -/
theorem okP_end {es : List El} {i : Nat} (h : okP es i) (hi : i < 40) : valE (.mk 0 16 true [] es) ∧ depE (.mk 0 16 true [] es) ≤ 16 ∧ bndE (.mk 0 16 true [] es) = true := by
  have h2 := h.2
  refine ⟨⟨by decide, fun _ => rfl, fun h => (by cases h), valS_of fun e he => (h.1 e he).1⟩, ?_, ?_⟩
  · have := depS_of (m := 15) fun e he => (h.1 e he).2.1
    rw [depE]
    omega
  · rw [bndE, bndS_of fun e he => (h.1 e he).2.2]
    simp
    omega
end Go.Proofs.Ytgdjgahmnnjeeaa

/-!  Layer 4: what a step of E.Of does to its pile.
  Conditions: none beyond that values read as elements. -/
namespace Go.Proofs.Ytgdjgahmnnjeeaa
open Go.RowKit

/-- append of nothing. -/
theorem app0 {w : World} {B : Nat} {v : Value} {n : Nat} {cs : List Value} (hown : w.ownsRow B 29 5 v n cs) (A : Option Addr) (c : Nat) :
    (Builtin.append_ #[27, 27] 27 #[v, .slice A 0 c]).run Try.prog w = .ok v w := by
  obtain ⟨i, hi, hz0, hz1, hz2⟩ := info_parts infoE
  rcases hown.2 with ⟨rfl, h0⟩ | ⟨g, cap, cur, rfl, _, _, hnc, _⟩
  · cases A <;> simp [Builtin.append_, run_underlying Try.underlying27, sizeOf, typeInfo, hi, Builtin.lenOf, Builtin.firstCells, loadCells, loadCellsFrom]
  · cases A <;> simp [Builtin.append_, run_underlying Try.underlying27, sizeOf, typeInfo, hi, Builtin.lenOf, Builtin.firstCells, hnc, storeCells, loadCells, loadCellsFrom]
theorem slE (A : Option Addr) (n c k : Nat) (h : k ≤ n) (W : World) : (Instr.slice 27 (.slice A n c) (some (.int .i64 (k : Int))) none none).run Try.prog W = .ok (sliced A k n c 5) W := by
  have hsz : (sizeOf (Try.prog.elem 27)).run Try.prog W = .ok 5 W := by kernel_rfl
  rw [run_slice_l (P := Try.prog) W 27 A n c (by kernel_rfl) .i64 (k : Int) (by omega) (by omega), hsz]
  simp only [Result.andThen, Int.toNat_natCast]
theorem sl0 (A : Option Addr) (h m s : Nat) : sliced A 0 h m s = .slice A h m := by
  unfold sliced
  rw [Nat.zero_mul, Nat.sub_zero, Nat.sub_zero]
  have : A.map (·.add 0) = A := by cases A <;> rfl
  rw [this, ite_self]
theorem slT (A : Option Addr) (n c k : Nat) (h : k ≤ c) (W : World) : (Instr.slice 27 (.slice A n c) none (some (.int .i64 (k : Int))) none).run Try.prog W = .ok (.slice A k c) W := by
  have hsz : (sizeOf (Try.prog.elem 27)).run Try.prog W = .ok 5 W := by kernel_rfl
  rw [run_slice_h (P := Try.prog) W 27 A n c (by kernel_rfl) .i64 (k : Int) (by omega) (by omega), hsz]
  simp only [Result.andThen, Int.toNat_natCast, sl0]

/-- The pile. -/
structure Pl (B : Nat) (S : Nat → Prop) (es : List El) (cs : List Value) (v : Value) (w : World) : Prop where
  sb : ∀ j, S j → B ≤ j
  sl : ∀ j, S j → j < w.heap.size
  so : ∀ j, S j → v.ownBlock ≠ some j
  own : w.ownsRow B 29 5 v es.length cs
  row : RowE false S w es cs
  bz : B ≤ w.heap.size
section
variable {B : Nat} {S T : Nat → Prop} {es : List El} {cs : List Value} {v : Value} {w w' : World}
theorem Pl.below (h : Pl B S es cs v w) (hb : Below w.heap.size w w') : Pl B S es cs v w' :=
  ⟨h.sb, fun j hj => Nat.lt_of_lt_of_le (h.sl j hj) hb.size, h.so, own_kept h.own fun g hg => hb.block g (h.own.lt g hg).2, RowE.keep hb.size (fun k _ hl => hb.block k hl) (fun _ hs _ => hs) h.row, Nat.le_trans h.bz hb.size⟩
theorem Pl.widen (h : Pl B S es cs v w) (hST : ∀ j, S j → T j) (hT : ∀ j, T j → B ≤ j ∧ j < w.heap.size ∧ v.ownBlock ≠ some j) : Pl B T es cs v w :=
  ⟨fun j hj => (hT j hj).1, fun j hj => (hT j hj).2.1, fun j hj => (hT j hj).2.2, h.own, RowE.keep (Nat.le_refl _) (fun _ _ _ => rfl) (fun i hi _ => hST i hi) h.row, h.bz⟩
theorem Pl.form (h : Pl B S es cs v w) : ∃ A c, v = .slice A es.length c ∧ es.length ≤ c ∧ c ≤ maxLen ∧ ((A = none ∧ c = 0 ∧ es = []) ∨ ∃ g, A = some ⟨g, 0, none⟩ ∧ v.ownBlock = some g ∧ B ≤ g ∧ g < w.heap.size ∧ ∀ j u, cs[j]? = some u → w.cell? ⟨g, j, none⟩ = some u) := by
  have ho := h.own
  rcases ho.2 with ⟨hv, h0⟩ | ⟨g, cap, cur, hv, hg, hh, hn, hm, _⟩
  · exact ⟨none, 0, by rw [hv, h0], by omega, by unfold maxLen; omega, .inl ⟨rfl, rfl, List.eq_nil_of_length_eq_zero h0⟩⟩
  · have hob : v.ownBlock = some g := by rw [hv]; rfl
    exact ⟨_, cap, hv, hn, hm, .inr ⟨g, rfl, hob, hg, (ho.lt g hob).2, fun j u hu => by
      have := ho.cells hob j u hu
      rw [addr_add] at this
      rw [← this]; congr 2; omega⟩⟩
theorem Pl.ob (h : Pl B S es cs v w) {g : Nat} (hg : v.ownBlock = some g) : B ≤ g ∧ g < w.heap.size := h.own.lt g hg
/-- An element is laid behind the others. -/
theorem Pl.push (h : Pl B S es cs v w) (hl : es.length ≤ 1000) {w1 : World} (hb : Below w.heap.size w w1) {e : El} {u : Value} (hu : RdE false (fun j => w.heap.size ≤ j ∧ j < w1.heap.size) w1 e u) :
    ∃ g cap S' cs' w2, (Builtin.append_ #[27, 27] 27 #[v, .slice (some ⟨w1.heap.size, 0, none⟩) 1 1]).run Try.prog (w1.alloc (.cells u.cells 29)) = .ok (.slice (some ⟨g, 0, none⟩) (es.length + 1) cap) w2 ∧
      Pl B S' (es ++ [e]) cs' (.slice (some ⟨g, 0, none⟩) (es.length + 1) cap) w2 ∧ Below B w1 w2 := by
  have h1 := h.below hb
  have hS1 : ∀ i, (S i ∨ (w.heap.size ≤ i ∧ i < w1.heap.size)) → v.ownBlock ≠ some i := by
    rintro i (hi | hi) e
    · exact h.so i hi e
    · have := (h.own.lt i e).2; omega
  obtain ⟨g, cap, w2, hrun, ho, hr, hg, hBg, hglt, _, _, _⟩ := row_app h1.own (RowE.keep (T := fun i => S i ∨ (w.heap.size ≤ i ∧ i < w1.heap.size)) (Nat.le_refl _) (fun _ _ _ => rfl) (fun i hi _ => .inl hi) h1.row) hS1
    (RdE.keep (Nat.le_refl _) (fun _ _ _ => rfl) (fun i hi _ => .inr hi) _ _ hu) (by omega) h1.bz es.length rfl
  refine ⟨g, cap, fun i => (S i ∨ (w.heap.size ≤ i ∧ i < w1.heap.size)) ∧ i ≠ g, _, w2, hrun, ⟨?_, ?_, ?_, ho, hr, Nat.le_trans h1.bz hg.size⟩, (Below.refl B w1).grown hg h1.bz (fun k hk => (h1.own.lt k hk).1)⟩
  · rintro j ⟨hj | hj, _⟩
    · exact h.sb j hj
    · have := h.bz; omega
  · rintro j ⟨hj | hj, _⟩
    · exact Nat.lt_of_lt_of_le (h1.sl j hj) hg.size
    · exact Nat.lt_of_lt_of_le hj.2 hg.size
  · rintro j ⟨_, hj⟩ e
    simp only [Value.ownBlock, Option.some.injEq] at e
    exact hj e.symm
/-- The last of the pile, in a row of their own. -/
theorem Pl.last (h : Pl B S es cs v w) (hl : es.length ≤ 1000) {k m : Nat} (hk : k + m = es.length) {A : Option Addr} {c : Nat} (hv : v = .slice A es.length c) :
    ∃ s cap w2, (Builtin.append_ #[27, 27] 27 #[.slice none 0 0, sliced A k es.length c 5]).run Try.prog w = .ok (.slice s m cap) w2 ∧ w.grownBy w2 none ∧ m ≤ cap ∧ cap ≤ maxLen ∧
      RdS false (fun j => S j ∨ (w.heap.size ≤ j ∧ j < w2.heap.size)) w2 s (es.drop k) := by
  by_cases hm : m = 0
  · subst hm
    have e0 : es.drop k = [] := List.drop_eq_nil_of_le (by omega)
    refine ⟨none, 0, w, ?_, World.grownBy.refl w none, Nat.le_refl _, Nat.zero_le _, by rw [e0]; trivial⟩
    unfold sliced
    rw [show es.length - k = 0 by omega]
    exact app0 (World.ownsRow_nil w w.heap.size _ _) _ _
  · obtain ⟨A', c', e, hc1, hc2, hcase⟩ := h.form
    rw [hv] at e
    injection e with e1 e2 e3
    subst e1 e3
    rcases hcase with ⟨_, _, h0⟩ | ⟨g, rfl, hob, hBg, hgl, hcell⟩
    · rw [h0] at hk; simp at hk; omega
    · have hlen : (es.drop k).length = m := by rw [List.length_drop]; omega
      have hsl : sliced (some (⟨g, 0, none⟩ : Addr)) k es.length c 5 = .slice (some ((⟨g, 0, none⟩ : Addr).add (k * 5))) (es.drop k).length (c - k) := by
        unfold sliced
        rw [if_neg (by omega), List.length_drop]; rfl
      obtain ⟨v2, w2, hrun, ho, hr, hso, hg⟩ := rows_app (World.ownsRow_nil w w.heap.size _ _) (es := []) (x := false) (S := S) (by rfl) (fun i _ e => by cases e) h.sl (h.row.drop k) ((⟨g, 0, none⟩ : Addr).add (k * 5)) (c - k)
        (fun j y hy => by
          rw [List.getElem?_drop] at hy
          rw [addr_add, addr_add, Nat.zero_add]
          exact hcell _ _ hy) (by rw [hlen]; simp; omega) (Nat.le_refl _)
      rw [List.nil_append, List.nil_append] at hr ho
      rw [hsl]
      rcases ho.2 with ⟨_, h0⟩ | ⟨g2, cap2, cur2, hv2, hg2, hh2, hn2, hm2, _⟩
      · omega
      · have hob2 : v2.ownBlock = some g2 := by rw [hv2]; rfl
        have hlt2 := (ho.lt g2 hob2).2
        refine ⟨_, cap2, w2, by rw [hrun, hv2, hlen], hg, by omega, hm2, RowE.rds (S := S) hlt2 (.inr ⟨hg2, hlt2⟩) (fun i hi => .inl hi) hr fun j u hu => ?_⟩
        have := ho.cells hob2 j u hu
        rwa [addr_add] at this
/-- The first of the pile, in a row begun anew. -/
theorem Pl.first (h : Pl B S es cs v w) (hl : es.length ≤ 1000) {k : Nat} (hk : k ≤ es.length) {A : Option Addr} {c : Nat} (hv : v = .slice A es.length c) {b : Nat} (hb : Bk w b 29 []) (hBb : B ≤ b) (hSb : ¬ S b) :
    ∃ v2 w2, (Builtin.append_ #[27, 27] 27 #[.slice (some ⟨b, 0, none⟩) 0 0, .slice A k c]).run Try.prog w = .ok v2 w2 ∧ Pl B S (es.take k) (cs.take (k * 5)) v2 w2 ∧ w.grownBy w2 (some b) ∧ ∀ q, v2.ownBlock = some q → b ≤ q := by
  have ho0 : w.ownsRow B 29 5 (.slice (some ⟨b, 0, none⟩) 0 0) 0 [] := ⟨rfl, .inr ⟨b, 0, #[], rfl, hBb, hb, Nat.le_refl _, Nat.zero_le _, rfl, rfl⟩⟩
  have hso0 : ∀ i, S i → (Value.slice (some ⟨b, 0, none⟩) 0 0).ownBlock ≠ some i := fun i hi e => by
    simp only [Value.ownBlock, Option.some.injEq] at e
    exact hSb (e ▸ hi)
  by_cases hk0 : k = 0
  · subst hk0
    refine ⟨_, w, app0 ho0 _ _, ⟨h.sb, h.sl, hso0, by simpa using ho0, by simp [RowE], h.bz⟩, World.grownBy.refl w _, fun q hq => by simp only [Value.ownBlock, Option.some.injEq] at hq; omega⟩
  · obtain ⟨A', c', e, hc1, hc2, hcase⟩ := h.form
    rw [hv] at e
    injection e with e1 e2 e3
    subst e1 e3
    rcases hcase with ⟨_, _, h0⟩ | ⟨g, rfl, hob, hBg, hgl, hcell⟩
    · rw [h0] at hk; simp at hk; omega
    · have hlen : (es.take k).length = k := by rw [List.length_take]; omega
      obtain ⟨v2, w2, hrun, ho, hr, hso, hg⟩ := rows_app (show w.ownsRow b 29 5 (.slice (some ⟨b, 0, none⟩) 0 0) 0 [] from ⟨rfl, .inr ⟨b, 0, #[], rfl, Nat.le_refl _, hb, Nat.le_refl _, Nat.zero_le _, rfl, rfl⟩⟩) (es := []) (x := false) (S := S) (by rfl) hso0 h.sl (h.row.take k) ⟨g, 0, none⟩ c
        (fun j y hy => by
          rw [addr_add, Nat.zero_add]
          exact hcell _ _ (by
            rcases Nat.lt_or_ge j (k * 5) with hj | hj
            · rwa [List.getElem?_take, if_pos hj] at hy
            · rw [List.getElem?_take, if_neg (by omega)] at hy; cases hy)) (by rw [hlen]; simp; omega) (Nat.le_of_lt hb.lt)
      rw [List.nil_append, List.nil_append] at hr ho
      rw [hlen] at hrun
      have hbq : ∀ q, v2.ownBlock = some q → b ≤ q := fun q hq => (ho.lt q hq).1
      have ho' : w2.ownsRow B 29 5 v2 (es.take k).length (cs.take (k * 5)) := ⟨ho.1, ho.2.imp id fun ⟨g, cap, cur, h1, h2, r⟩ => ⟨g, cap, cur, h1, Nat.le_trans hBb h2, r⟩⟩
      exact ⟨v2, w2, hrun, ⟨h.sb, fun j hj => Nat.lt_of_lt_of_le (h.sl j hj) hg.size, hso, ho', hr, Nat.le_trans h.bz hg.size⟩, hg, hbq⟩
/-- One more, from a block of its own. -/
theorem Pl.one (h : Pl B S es cs v w) (hl : es.length ≤ 1000) {b : Nat} {e : El} {u : Value} (hk : Bk w b 29 u.cells.toList) (hu : RdE false S w e u) :
    ∃ v2 cs2 w2, (Builtin.append_ #[27, 27] 27 #[v, .slice (some ⟨b, 0, none⟩) 1 1]).run Try.prog w = .ok v2 w2 ∧ Pl B S (es ++ [e]) cs2 v2 w2 ∧ w.grownBy w2 v.ownBlock := by
  obtain ⟨v2, w2, hrun, ho, hr, hso, hg⟩ := rows_app h.own h.row h.so h.sl (es2 := [e]) (cs2 := u.cells.toList) ⟨u, [], by simp, hu, rfl⟩ ⟨b, 0, none⟩ 1
    (fun j y hy => by rw [addr_add, Nat.zero_add, hk.cell]; exact hy) (by simp; omega) h.bz
  exact ⟨v2, _, w2, hrun, ⟨h.sb, fun j hj => Nat.lt_of_lt_of_le (h.sl j hj) hg.size, hso, ho, hr, Nat.le_trans h.bz hg.size⟩, hg⟩
end
end Go.Proofs.Ytgdjgahmnnjeeaa
