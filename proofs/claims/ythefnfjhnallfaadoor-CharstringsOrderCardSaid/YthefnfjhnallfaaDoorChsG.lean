/-
  Layer 9: the contract of Compare.
-/
import Derived.Test.YthefnfjhnallfaaDoorChsF
import Derived.Deep.RegionHeld3
namespace Go.Proofs.YthefnfjhnallfaaDoor.Chs
open Go.RowKit Go.Shelf

/-- The order of two numbers. -/
def cmpN (a b : Nat) : Int := if a < b then -1 else if b < a then 1 else 0
theorem cmpN_lt {a b : Nat} (h : a < b) : cmpN a b = -1 := if_pos h
theorem cmpN_gt {a b : Nat} (h : b < a) : cmpN a b = 1 := by unfold cmpN; rw [if_neg (by omega), if_pos h]
theorem cmpN_eq (a : Nat) : cmpN a a = 0 := by unfold cmpN; rw [if_neg (by omega), if_neg (by omega)]
/-- What Or answers at two numbers. -/
def or2 (x y : Int) : Int := if x ≠ 0 then x else y

set_option maxHeartbeats 400000 in
theorem nan32 (a : Nat) (w : World) : Calls Tryd.prog 56 #[.int .u32 (a : Int)] w fun e w' => e = .returned (.bool false) ∧ w = w' := by
  go_enter Tryd.func56, Tryd.ntmps56
  go_wp2_with fail
  go_ret
  exact ⟨by simp, rfl⟩
set_option maxHeartbeats 400000 in
theorem cmp32 (a b : Nat) (w : World) : Calls Tryd.prog 42 #[.int .u32 (a : Int), .int .u32 (b : Int)] w fun e w' => e = .returned (.int .i64 (cmpN a b)) ∧ w = w' := by
  rcases Nat.lt_trichotomy a b with h | rfl | h
  · rw [cmpN_lt h]
    go_enter Tryd.func42, Tryd.ntmps42
    go_wp2_with (go_at_call 56; refine (nan32 _ _).mono ?_; rintro e w1 ⟨rfl, rfl⟩)
    go_ret
    exact ⟨rfl, rfl⟩
  · rw [cmpN_eq]
    go_enter Tryd.func42, Tryd.ntmps42
    go_wp2_with (go_at_call 56; refine (nan32 _ _).mono ?_; rintro e w1 ⟨rfl, rfl⟩)
    go_ret
    exact ⟨rfl, rfl⟩
  · rw [cmpN_gt h]
    go_enter Tryd.func42, Tryd.ntmps42
    go_wp2_with (go_at_call 56; refine (nan32 _ _).mono ?_; rintro e w1 ⟨rfl, rfl⟩)
    go_ret
    exact ⟨rfl, rfl⟩

set_option linter.unusedSimpArgs false in
set_option maxHeartbeats 1000000 in
theorem or_any (x y : Int) (b : Nat) (w : World) (hb : Bk w b 3 [.int .i64 x, .int .i64 y]) : Calls Tryd.prog 40 #[.slice (some ⟨b, 0, none⟩) 2 2] w fun e w' => e = .returned (.int .i64 (or2 x y)) ∧ w' = w := by
  have c0 : w.cell? ⟨b, 0, none⟩ = some (.int .i64 x) := by rw [hb.cell]; rfl
  have c1 : w.cell? ⟨b, 1, none⟩ = some (.int .i64 y) := by rw [hb.cell]; rfl
  clear hb
  go_enter Tryd.func40, Tryd.ntmps40
  go_upto_region 3 with fail
  go_loopw [8] (fun i wr => ∃ p : Nat, p ≤ 2 ∧ i = .int .i64 (p : Int) ∧ (0 < p → x = 0) ∧ (1 < p → y = 0) ∧ w = wr) (fun i _ => 2 - (intOf i).toNat)
  case atStart => exact ⟨0, Nat.zero_le _, rfl, fun h => by omega, fun h => by omega, rfl⟩
  case round =>
    obtain ⟨p, hp, rfl, hx, hy, rfl⟩ := hrel
    have HX := Lib.hid hx
    have HY := Lib.hid hy
    clear hx hy
    obtain rfl | rfl | rfl : p = 0 ∨ p = 1 ∨ p = 2 := by omega
    · by_cases h : x = 0
      · subst h
        go_wp2_with fail
        exact ⟨⟨1, by omega, rfl, fun _ => trivial, fun h => by omega, trivial⟩, by simp [intOf]⟩
      · have HE := Lib.hid (show or2 x y = x from if_pos h)
        have hb : (x != 0) = true := by rw [bne_iff_ne]; exact h
        clear h
        go_wp2_with fail
        go_ret
        rw [HE.out]
        exact ⟨rfl, rfl⟩
    · have hx := HX.out (by omega)
      subst hx
      by_cases h : y = 0
      · subst h
        go_wp2_with fail
        exact ⟨⟨2, by omega, rfl, fun _ => trivial, fun _ => trivial, trivial⟩, by simp [intOf]⟩
      · have HE := Lib.hid (show or2 0 y = y from if_neg (by simp))
        have hb : (y != 0) = true := by rw [bne_iff_ne]; exact h
        clear h
        go_wp2_with fail
        go_ret
        rw [HE.out]
        exact ⟨rfl, rfl⟩
    · have hx := HX.out (by omega)
      have hy := HY.out (by omega)
      subst hx
      subst hy
      go_wp2_with fail
      go_ret
      exact ⟨rfl, rfl⟩

/-- What Compare answers. -/
def cmpC (k : Nat) (l : List Nat) (k2 : Nat) (l2 : List Nat) : Int := or2 (Lib.compareBytes (bstr l).data.toList (bstr l2).data.toList) (cmpN k k2)
set_option linter.unusedSimpArgs false in
set_option maxHeartbeats 4000000 in
set_option maxRecDepth 100000 in
theorem compare_any (k : Nat) (l : List Nat) (k2 : Nat) (l2 : List Nat) (w : World) :
    Calls Tryd.prog 28 #[chV k (bstr l), chV k2 (bstr l2)] w fun e w' => e = .returned (.int .i64 (cmpC k l k2 l2)) ∧ Below w.heap.size w w' := by
  unfold cmpC
  generalize bstr l = S
  generalize bstr l2 = S2
  have CS := Lib.hid (fun W => Tryd.strings_Compare S S2 W)
  generalize Lib.compareBytes S.data.toList S2.data.toList = X at *
  have CN := Lib.hid (fun W => cmp32 k k2 W)
  generalize cmpN k k2 = Y at *
  obtain ⟨w1, hw1⟩ : ∃ w1, (w.alloc (.cells #[.int .u32 (k : Int), .string S] 24)).alloc (.cells #[.int .u32 (k2 : Int), .string S2] 24) = w1 := ⟨_, rfl⟩
  have B1 : Hid (Below w.heap.size w w1) := Lib.hid (by rw [← hw1]; exact (bel1 w _).alloc (by simp) _)
  obtain ⟨g, hg⟩ : ∃ g, w.heap.size = g := ⟨_, rfl⟩
  obtain ⟨g2, hg2⟩ : ∃ g2, g + 1 = g2 := ⟨_, rfl⟩
  have K1 : Hid (Bk w1 g 24 (chL k S)) := Lib.hid (by rw [← hw1, ← hg]; exact (Bk.new w _ (chL k S)).alloc _)
  have R1 : Hid (Bk w1 g2 24 (chL k2 S2)) := Lib.hid (by
    rw [← hw1, ← hg2, ← hg]
    have := Bk.new (w.alloc (.cells (chL k S).toArray 24)) 24 (chL k2 S2)
    rwa [World.size_alloc] at this)
  have HW1 := Lib.hid hw1
  have HG := Lib.hid hg
  have HG2 := Lib.hid hg2
  have a0 : w1.cell? ⟨g, 0, none⟩ = some (.int .u32 (k : Int)) := by rw [K1.out.cell]; rfl
  have a1 : w1.cell? ⟨g, 1, none⟩ = some (.string S) := by rw [K1.out.cell]; rfl
  have b0 : w1.cell? ⟨g2, 0, none⟩ = some (.int .u32 (k2 : Int)) := by rw [R1.out.cell]; rfl
  have b1 : w1.cell? ⟨g2, 1, none⟩ = some (.string S2) := by rw [R1.out.cell]; rfl
  clear hw1 hg hg2
  go_enter Tryd.func28, Tryd.ntmps28
  go_upto_region 1 with fail
  rw [HW1.out, HG.out, HG2.out]
  have hs1 := K1.out.lt
  have hs2 := R1.out.lt
  have hn := (bel1 w1 (.cells #[.int .i64 X, .int .i64 Y] 3)).drew
  have hk := kt (Lib.hid (Bk.new w1 3 [.int .i64 X, .int .i64 Y])) (Lib.hid (Below.refl _ _).drew)
  clear K1 R1 HW1
  go_region_held3 (fun w' => w'.cell? ⟨g, 0, none⟩ = some (.int .u32 (k : Int)) ∧ w'.cell? ⟨g, 1, none⟩ = some (.string S) ∧ w'.cell? ⟨g2, 0, none⟩ = some (.int .u32 (k2 : Int)) ∧ w'.cell? ⟨g2, 1, none⟩ = some (.string S2))
    (first | exact ⟨a0, a1, b0, b1⟩ | exact ⟨(hn.cell (p := ⟨g, 0, none⟩) hs1).trans a0, (hn.cell (p := ⟨g, 1, none⟩) hs1).trans a1, (hn.cell (p := ⟨g2, 0, none⟩) hs2).trans b0, (hn.cell (p := ⟨g2, 1, none⟩) hs2).trans b1⟩)
    (first | (go_at_call 41; refine (CS.out _).mono ?_; rintro e w1 ⟨rfl, rfl⟩) | (go_at_call 42; refine (CN.out _).mono ?_; rintro e w1 ⟨rfl, rfl⟩) | (go_at_call 40; refine (or_any X Y _ _ hk.out).mono ?_; rintro e w1 ⟨rfl, rfl⟩))
  have B2 := bt B1 (Lib.hid hn)
  go_wp2_with fail
  go_ret
  exact ⟨rfl, B2.out⟩
end Go.Proofs.YthefnfjhnallfaaDoor.Chs
