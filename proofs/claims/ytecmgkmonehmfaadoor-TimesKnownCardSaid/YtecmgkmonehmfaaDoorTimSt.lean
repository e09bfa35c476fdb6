/-
  Layer 10: what a law keeps from call to call.
  Conditions: none.
-/
import Derived.Test.YtecmgkmonehmfaaDoorTimZc
namespace Go.Proofs.YtecmgkmonehmfaaDoor.Tim
open Go.RowKit Go.Shelf

/-- What a law keeps: slices that read as cells, blocks that hold structs. -/
structure St (w0 : World) (rows : List (Option Addr × List Value)) (bks : List (Nat × TypeId × List Value)) (W : World) : Prop where
  b : Below w0.heap.size w0 W
  t : Env W
  r : ∀ r ∈ rows, Rd W r.1 r.2
  k : ∀ x ∈ bks, Bk W x.1 x.2.1 x.2.2
section
variable {w0 W W' : World} {rows : List (Option Addr × List Value)} {bks : List (Nat × TypeId × List Value)}
theorem St.start (hT : Env W) : St W [] [] W := ⟨Below.refl _ _, hT, fun _ h => absurd h (by simp), fun _ h => absurd h (by simp)⟩
theorem St.below (h : St w0 rows bks W) (hb : Below W.heap.size W W') : St w0 rows bks W' := ⟨h.b.trans (hb.mono h.b.size), h.t.below hb, fun r hr => (h.r r hr).below hb, fun x hx => (h.k x hx).below hb (h.k x hx).lt⟩
theorem St.add (h : St w0 rows bks W) {A : Option Addr} {vs : List Value} (hi : Rd W A vs) : St w0 ((A, vs) :: rows) bks W := ⟨h.b, h.t, fun r hr => by
  rcases List.mem_cons.1 hr with rfl | hr
  · exact hi
  · exact h.r r hr, h.k⟩
theorem St.blk (h : St w0 rows bks W) {g : Nat} {ty : TypeId} {vs : List Value} (hi : Bk W g ty vs) : St w0 rows ((g, ty, vs) :: bks) W := ⟨h.b, h.t, h.r, fun r hr => by
  rcases List.mem_cons.1 hr with rfl | hr
  · exact hi
  · exact h.k r hr⟩
/-- A block of the call's own has been stored into: what is left. -/
theorem St.put (h : St w0 rows bks W) (hT : Env w0) {g : Nat} (hg : w0.heap.size ≤ g) (k : W.grownBy W' (some g)) : St w0 [] [] W' :=
  have hb : Below w0.heap.size w0 W' := h.b.grown k h.b.size (fun j e => by injection e with e; omega)
  ⟨hb, hT.below hb, fun _ h => absurd h (by simp), fun _ h => absurd h (by simp)⟩
end
theorem kp {w0 W W' : World} {rows : List (Option Addr × List Value)} {bks : List (Nat × TypeId × List Value)} (h : Hid (St w0 rows bks W)) (hb : Hid (Below W.heap.size W W')) : Hid (St w0 rows bks W') := Lib.hid (h.out.below hb.out)
theorem ka {w0 W : World} {rows : List (Option Addr × List Value)} {bks : List (Nat × TypeId × List Value)} (h : Hid (St w0 rows bks W)) {A : Option Addr} {vs : List Value} (hi : Hid (Rd W A vs)) : Hid (St w0 ((A, vs) :: rows) bks W) := Lib.hid (h.out.add hi.out)
theorem kb {w0 W : World} {rows : List (Option Addr × List Value)} {bks : List (Nat × TypeId × List Value)} (h : Hid (St w0 rows bks W)) {g : Nat} {ty : TypeId} {vs : List Value} (hi : Hid (Bk W g ty vs)) : Hid (St w0 rows ((g, ty, vs) :: bks) W) := Lib.hid (h.out.blk hi.out)
theorem range3 {w : World} {g : Nat} {ty : TypeId} {a b c : Value} {cs : List Value} (h : Bk w g ty (a :: b :: c :: cs)) : w.rangeAt g 0 [a, b, c] := fun i u hu => by
  have := rangeB h i u
  match i, hu with
  | 0, hu => exact this (by simpa using hu)
  | 1, hu => exact this (by simpa using hu)
  | 2, hu => exact this (by simpa using hu)
  | i + 3, hu => simp at hu
theorem infoPt : (Tryd.prog.info? 44).map (·.size) = some 6 := by kernel_rfl
theorem elC_one (n : Nat) (A : Option Addr) (N c : Nat) : (elC n (.slice A N c)).all (·.oneCell') = true := rfl
theorem lt_lit {l : List Nat} (h : l.all (fun x => decide (x < 256)) = true) : All8 l := fun x hx => by simpa using List.all_eq_true.1 h x hx
theorem ob {w w' : World} (h : w = w') : Hid (Below w.heap.size w w') := Lib.hid (h ▸ Below.refl _ _)
end Go.Proofs.YtecmgkmonehmfaaDoor.Tim
