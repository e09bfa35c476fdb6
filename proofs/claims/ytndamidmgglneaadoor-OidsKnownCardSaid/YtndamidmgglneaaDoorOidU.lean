/-
  Package oids: what stands between two rounds of Parse; its results.
-/
import Derived.Test.YtndamidmgglneaaDoorOidT
namespace Go.Proofs.YtndamidmgglneaaDoor
open Go.RowKit Go.Shelf
attribute [local go_sem] Oper.semAt_some

/-- An OID's cells and an error's cell are returned. -/
theorem res_oe {fn : Func} {p q : Tmp} (h : fn.results = #[.cell p 26, .cell q 41]) (tmps : Array Value) (W : World) {g g' m : Nat} {l : List Nat} {f : Int} (hp : tmps.getD p undef = .pointer (some ⟨g, 0, none⟩)) (hq : tmps.getD q undef = .pointer (some ⟨g', 0, none⟩))
    (hg : Bk W g 26 (oc m l)) (hl : l.length = 16) (hb : Boxed W g' 41 (.int .i64 f)) : (results fn tmps).run Tryd.prog W = .ok (.tuple #[oV m l, .int .i64 f]) W := by
  have hc := hb.cell
  have hload := run_loadVar_mid (P := Tryd.prog) W g 0 _ (oc m l) _ (range25 hg) Tryd.underlying26 rfl (by rw [oc_length, hl]; exact info25)
  have hp' : tmps[p]?.getD undef = .pointer (some ⟨g, 0, none⟩) := by simpa using hp
  have hq' : tmps[q]?.getD undef = .pointer (some ⟨g', 0, none⟩) := by simpa using hq
  have hl2 : (loadVar 41 ⟨g', 0, none⟩).run Tryd.prog W = .ok (.int .i64 f) W := by simp [go_sem, hc]
  simp only [results, h]
  simp [Sem.run_bind, Result.andThen, hp', hq', asAddr, hload, hl2]
theorem own32 {w : World} {base : Nat} {v : Value} {l : List Nat} (h : w.ownsRow base 23 1 v l.length (cs32 l)) : ∃ A c, v = .slice A l.length c ∧ R32 w A l ∧ l.length ≤ c ∧ c ≤ maxLen := by
  have := own_open (e := 23) (base := base) (w := w) (v := v) (xs := cs32 l) (by rw [cs32_length]; exact h)
  rw [cs32_length] at this
  exact this
theorem keeps_below {W W' : World} (h : Below W.heap.size W W') : KeepsOthers W W' := ⟨h.size, fun k _ hk _ => (h.block k (Array.getElem?_eq_some_iff.1 hk).1).trans hk⟩

/-- What stands between two rounds. -/
def ParW (w2 : World) (base g4 : Nat) (zl ys : List Nat) (W : World) : Prop :=
  (∃ v, Boxed W g4 32 v ∧ W.ownsRow w2.heap.size 23 1 v ys.length (cs32 ys) ∧ True) ∧ (Bk W base 26 (oc 0 zl) ∧ Boxed W (base + 1) 41 (.int .i64 0)) ∧ Below base w2 W
theorem ParW.below {w2 : World} {base g4 : Nat} {zl ys : List Nat} {W W' : World} (h : ParW w2 base g4 zl ys W) (hb : Below W.heap.size W W') (hB : base ≤ w2.heap.size) : ParW w2 base g4 zl ys W' := by
  obtain ⟨⟨v, h1, h2, -⟩, ⟨h3, h4⟩, h5⟩ := h
  refine ⟨⟨v, (hb.block g4 h1.lt).trans h1, own_below h2 hb, trivial⟩, ⟨h3.below hb h3.lt, (hb.block _ h4.lt).trans h4⟩, h5.trans (hb.mono (Nat.le_trans hB h5.size))⟩
theorem ParW.cell {w2 : World} {base g4 b : Nat} {zl ys : List Nat} {W : World} (h : ParW w2 base g4 zl ys W) (h1 : g4 < b) (h2 : base + 1 < g4) (h3 : b < w2.heap.size) (u : Value) : ParW w2 base g4 zl ys (W.setCell ⟨b, 0, none⟩ u) := by
  obtain ⟨⟨v, k1, k2, -⟩, ⟨k3, k4⟩, k5⟩ := h
  exact ⟨⟨v, k1.other (by omega) _, ownsRow_setCell_below k2 (a := ⟨b, 0, none⟩) h3 u, trivial⟩, ⟨k3.far (p := ⟨b, 0, none⟩) (by show base ≠ b; omega) _, k4.other (by omega) _⟩, k5.setCell (p := ⟨b, 0, none⟩) (by show base ≤ b; omega) _⟩
theorem parW_own (w2 : World) (base g4 : Nat) (zl : List Nat) (B : Nat) (h1 : base ≤ w2.heap.size) (h2 : base ≤ B) (f : List (List Nat) → List Nat) : OwnFrom B (fun s W => ParW w2 base g4 zl (f s) W) :=
  OwnFrom.and (Own.from (holdsRow_own w2.heap.size g4 32 23 1 (fun s => (f s).length) (fun s => cs32 (f s)) (fun _ _ => True)) B)
    (OwnFrom.and (OwnFrom.and (Own.from (own_bk base 26 _) B) (Own.from (own_box (base + 1) 41 _) B)) (ownFrom_below h1 h2))
/-- A round ends. -/
theorem parW_end {w2 W w3 : World} {base g4 y : Nat} {zl ys : List Nat} {v v' : Value} {tmp : Obj} {bs : List Nat} (hbs : ∀ i ∈ bs, g4 < i ∧ i < w2.heap.size) (h2 : base + 1 < g4) (hg4 : g4 < w2.heap.size) (hP : ParW w2 base g4 zl ys W) (hv : Boxed W g4 32 v) (hrow : W.ownsRow w2.heap.size 23 1 v ys.length (cs32 ys))
    (hown : w3.ownsRow w2.heap.size 23 1 v' (ys ++ [y]).length (cs32 (ys ++ [y]))) (hg : (W.alloc tmp).grownBy w3 v.ownBlock) :
    KeepsOthers W (w3.setCell ⟨g4, 0, none⟩ v') ∧ KeepH bs W (w3.setCell ⟨g4, 0, none⟩ v') ∧ ParW w2 base g4 zl (ys ++ [y]) (w3.setCell ⟨g4, 0, none⟩ v') := by
  obtain ⟨-, ⟨k3, k4⟩, k5⟩ := hP
  have hsz := k5.size
  have hlow : ∀ i, i < w2.heap.size → w3.heap[i]? = W.heap[i]? := fun i hi =>
    (hg.block i (by simp; omega) (fun e => by have := (hrow.lt i e.symm).1; omega)).trans (Below.heap_alloc W tmp i (by omega))
  refine ⟨?_, fun i hi => ?_, ⟨⟨v', ?_, ownsRow_setCell_below hown (a := ⟨g4, 0, none⟩) hg4 v', trivial⟩, ⟨?_, ?_⟩, ?_⟩⟩
  · refine ((KeepsOthers.alloc W tmp).trans (KeepsOthers.of_grownBy hg fun j o ej hj => ?_)).trans (KeepsOthers.setCell _ _ _)
    rcases (hrow.alloc tmp).2 with ⟨rfl, _⟩ | ⟨g, cap, cur, rfl, _, hgb, _⟩
    · simp [Value.ownBlock] at ej
    · obtain rfl : g = j := by simpa [Value.ownBlock] using ej
      rw [hgb] at hj; cases hj; rfl
  · exact (setCell_heap (by have := hbs i hi; omega) _).trans (hlow i (hbs i hi).2)
  · exact (show Boxed w3 g4 32 v from (hlow g4 hg4).trans hv).set v'
  · exact (show Bk w3 base 26 (oc 0 zl) from (hlow base (by omega)).trans k3).far (p := ⟨g4, 0, none⟩) (by show base ≠ g4; omega) _
  · exact (show Boxed w3 (base + 1) 41 _ from (hlow _ (by omega)).trans k4).other (by omega) _
  · exact ((k5.alloc (by omega) tmp).grown hg (by simp; omega) (fun k e => by have := (hrow.lt k e).1; omega)).setCell (p := ⟨g4, 0, none⟩) (by show base ≤ g4; omega) _
theorem fits_false {ps qs : List (List Nat)} (h : ps <+: qs) (hp : fits ps = false) : fits qs = false := by
  obtain ⟨t, rfl⟩ := h
  unfold fits at hp ⊢
  rw [Bool.and_eq_false_iff] at hp ⊢
  rcases hp with hp | hp
  · left; simp at hp ⊢; omega
  · right; rw [List.all_append, hp]; rfl
theorem fits_snoc {ps : List (List Nat)} {x : List Nat} (h : fits ps = true) : fits (ps ++ [x]) = (decide (ps.length ≠ 16) && decide (vd x ≤ 4294967295)) := by
  unfold fits at h ⊢
  rw [Bool.and_eq_true, decide_eq_true_eq] at h
  rw [List.all_append, h.2, List.length_append, List.length_singleton, Bool.true_and, List.all_cons, List.all_nil, Bool.and_true]
  congr 1
  rw [decide_eq_decide]; omega
end Go.Proofs.YtndamidmgglneaaDoor
