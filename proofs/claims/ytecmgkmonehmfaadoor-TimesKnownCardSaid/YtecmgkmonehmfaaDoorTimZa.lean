/-
  Layer 10: Of, of the program, where it refuses by the tag or the subs.
  Conditions: none.
-/
import Derived.Test.YtecmgkmonehmfaaDoorTimZ
namespace Go.Proofs.YtecmgkmonehmfaaDoor.Tim
open Go.RowKit
attribute [local go_sem] Oper.semAt_some

/-- Any element as cells. -/
def elF (c : Nat) (k : Bool) (n : Nat) (v u : Value) : List Value := [.int .u8 (c : Int), .bool k, .int .u32 (n : Int), v, u]
theorem rangeF {w : World} {g c n : Nat} {k : Bool} {v u : Value} {t : TypeId} (h : Bk w g t (elF c k n v u)) : w.rangeAt g 0 (tgC c k n) := fun j x hj => by
  obtain ⟨hlt, rfl⟩ := List.getElem?_eq_some_iff.1 hj
  have h3 : j < 3 := hlt
  rw [Nat.zero_add, h.cell]
  rcases (show j = 0 ∨ j = 1 ∨ j = 2 by omega) with rfl | rfl | rfl <;> rfl
set_option linter.unusedSimpArgs false in
set_option linter.unusedVariables false in
set_option maxHeartbeats 4000000 in
set_option maxRecDepth 100000 in
theorem of_tag (c : Nat) (k : Bool) (n : Nat) (v : Value) (B : Option Addr) (M cb : Nat) (hk : layK c k n = 0) (w : World) :
    Calls Tryd.prog 26 #[.agg (elF c k n v (.slice B M cb)).toArray] w fun e w' => e = .returned (.tuple #[.agg (tL 0 0 0 0 0 0).toArray, .int .i64 9]) ∧ Below w.heap.size w w' := by
  have Z := zTm
  obtain ⟨g, hg⟩ : ∃ g, w.heap.size = g := ⟨_, rfl⟩
  obtain ⟨g2, hg2⟩ : ∃ g2, g + 1 = g2 := ⟨_, rfl⟩
  obtain ⟨w1, hw1⟩ : ∃ w1, (w.alloc (.cells (elF c k n v (.slice B M cb)).toArray 37)).alloc (.cells (tL 0 0 0 0 0 0).toArray 23) = w1 := ⟨_, rfl⟩
  have B1 : Hid (Below w.heap.size w w1) := Lib.hid (by rw [← hw1]; exact (bel1 w _).alloc (by simp) _)
  have K1 : Hid (Bk w1 g 37 (elF c k n v (.slice B M cb))) := Lib.hid (by rw [← hw1, ← hg]; exact (Bk.new w _ _).alloc _)
  have R1 : Hid (Bk w1 g2 23 (tL 0 0 0 0 0 0)) := Lib.hid (by
    rw [← hw1, ← hg2, ← hg]
    have := Bk.new (w.alloc (.cells (elF c k n v (.slice B M cb)).toArray 37)) 23 (tL 0 0 0 0 0 0)
    rwa [World.size_alloc] at this)
  have HW1 := Lib.hid hw1
  have HG := Lib.hid hg
  have HG2 := Lib.hid hg2
  have CL := Lib.hid (fun W => layout_any c k n W)
  rw [show decide (layK c k n ≠ 0) = false by rw [hk]; rfl] at CL
  generalize layS (layK c k n) = SL at *
  have RT := Lib.hid (rangeF K1.out)
  have hi : (Tryd.prog.info? 33).map (·.size) = some (tgC c k n).length := infoTg
  generalize tgC c k n = LT at *
  clear hw1 hg hg2
  go_enter Tryd.func26, Tryd.ntmps26
  go_upto_region 1 with fail
  rw [HW1.out, HG.out, HG2.out]
  go_wp2_with (refine wpList_loadG rfl (.tmp 10) rfl rfl RT.out Tryd.underlying33 rfl hi ?_)
  refine (CL.out _).mono ?_
  rintro e w3 ⟨rfl, hb⟩
  have B3 := bt B1 (Lib.hid hb)
  have K3 := kt K1 (Lib.hid hb)
  have R3 := kt R1 (Lib.hid hb)
  have c4 : w3.cell? ⟨g, 4, none⟩ = some (.slice B M cb) := by rw [K3.out.cell]; rfl
  clear hb B1 K1 R1
  go_wp2_with (refine wpList_storeG rfl (.tmp 2) (.tmp 17) rfl rfl (ds := tL 0 0 0 0 0 0) rfl R3.out infoTm rfl (tL_one _ _ _ _ _ _) ?_; intro w9 hr9 hg9 hz9; have B9 := Lib.hid (B3.out.grown hg9 B3.out.size (fun k e => by injection e with e; have := HG.out; have := HG2.out; omega)); have R9 := Lib.hid hr9; clear hr9 hg9 hz9)
  exact retG2 rfl rfl rfl (loadTm R9.out) rfl ⟨rfl, B9.out⟩
set_option linter.unusedSimpArgs false in
set_option linter.unusedVariables false in
set_option maxHeartbeats 4000000 in
set_option maxRecDepth 100000 in
theorem of_subs (c : Nat) (k : Bool) (n : Nat) (v : Value) (B : Option Addr) (M cb : Nat) (hk : layK c k n ≠ 0) (hM : 0 < M) (w : World) :
    Calls Tryd.prog 26 #[.agg (elF c k n v (.slice B M cb)).toArray] w fun e w' => e = .returned (.tuple #[.agg (tL 0 0 0 0 0 0).toArray, .int .i64 1]) ∧ Below w.heap.size w w' := by
  have Z := zTm
  obtain ⟨g, hg⟩ : ∃ g, w.heap.size = g := ⟨_, rfl⟩
  obtain ⟨g2, hg2⟩ : ∃ g2, g + 1 = g2 := ⟨_, rfl⟩
  obtain ⟨w1, hw1⟩ : ∃ w1, (w.alloc (.cells (elF c k n v (.slice B M cb)).toArray 37)).alloc (.cells (tL 0 0 0 0 0 0).toArray 23) = w1 := ⟨_, rfl⟩
  have B1 : Hid (Below w.heap.size w w1) := Lib.hid (by rw [← hw1]; exact (bel1 w _).alloc (by simp) _)
  have K1 : Hid (Bk w1 g 37 (elF c k n v (.slice B M cb))) := Lib.hid (by rw [← hw1, ← hg]; exact (Bk.new w _ _).alloc _)
  have R1 : Hid (Bk w1 g2 23 (tL 0 0 0 0 0 0)) := Lib.hid (by
    rw [← hw1, ← hg2, ← hg]
    have := Bk.new (w.alloc (.cells (elF c k n v (.slice B M cb)).toArray 37)) 23 (tL 0 0 0 0 0 0)
    rwa [World.size_alloc] at this)
  have HW1 := Lib.hid hw1
  have HG := Lib.hid hg
  have HG2 := Lib.hid hg2
  have CL := Lib.hid (fun W => layout_any c k n W)
  rw [show decide (layK c k n ≠ 0) = true from decide_eq_true hk] at CL
  have hMi : (0 : Int) < (M : Int) := by omega
  generalize layS (layK c k n) = SL at *
  have RT := Lib.hid (rangeF K1.out)
  have hi : (Tryd.prog.info? 33).map (·.size) = some (tgC c k n).length := infoTg
  generalize tgC c k n = LT at *
  clear hw1 hg hg2
  go_enter Tryd.func26, Tryd.ntmps26
  go_upto_region 1 with fail
  rw [HW1.out, HG.out, HG2.out]
  go_wp2_with (refine wpList_loadG rfl (.tmp 10) rfl rfl RT.out Tryd.underlying33 rfl hi ?_)
  refine (CL.out _).mono ?_
  rintro e w3 ⟨rfl, hb⟩
  have B3 := bt B1 (Lib.hid hb)
  have K3 := kt K1 (Lib.hid hb)
  have R3 := kt R1 (Lib.hid hb)
  have c4 : w3.cell? ⟨g, 4, none⟩ = some (.slice B M cb) := by rw [K3.out.cell]; rfl
  clear hb B1 K1 R1
  go_wp2_with (refine wpList_storeG rfl (.tmp 2) (.tmp 22) rfl rfl (ds := tL 0 0 0 0 0 0) rfl R3.out infoTm rfl (tL_one _ _ _ _ _ _) ?_; intro w9 hr9 hg9 hz9; have B9 := Lib.hid (B3.out.grown hg9 B3.out.size (fun k e => by injection e with e; have := HG.out; have := HG2.out; omega)); have R9 := Lib.hid hr9; clear hr9 hg9 hz9)
  exact retG2 rfl rfl rfl (loadTm R9.out) rfl ⟨rfl, B9.out⟩
end Go.Proofs.YtecmgkmonehmfaaDoor.Tim
