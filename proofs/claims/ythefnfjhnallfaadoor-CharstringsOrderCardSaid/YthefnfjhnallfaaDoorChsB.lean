/-
  Layer 9: the characters of each kind.
  Conditions: a character is below 2^31.
-/
import Derived.Test.YthefnfjhnallfaaDoorChsA
import Derived.Test.YthefnfjhnallfaaDoorShelf
import Derived.Lib.IndexLaws
namespace Go.Proofs.YthefnfjhnallfaaDoor.Chs
open Go.RowKit Go.Shelf

/-- A character of any kind. -/
def chO (c : Nat) : Bool := decide (c ≠ 0) && scal c
def othL : List Nat := [32, 39, 40, 41, 43, 44, 45, 46, 47, 58, 61, 63]
def prB (c : Nat) : Bool := (decide (65 ≤ c) && decide (c ≤ 90)) || (decide (97 ≤ c) && decide (c ≤ 122)) || (decide (48 ≤ c) && decide (c ≤ 57)) || othL.contains c
/-- A character of a kind. -/
def hasN (k c : Nat) : Bool := if k = 12 then chO c else if k = 22 then decide (0 < c) && decide (c ≤ 127) else if k = 26 then decide (32 ≤ c) && decide (c ≤ 126) else if k = 30 then chO c && decide (c ≤ 65535) else prB c
theorem validRune_eq (c : Nat) : Lib.validRune (c : Int) = scal c := by
  unfold Lib.validRune scal
  rw [Bool.eq_iff_iff]
  simp only [decide_eq_true_eq, Bool.or_eq_true, Bool.and_eq_true]
  omega
set_option maxRecDepth 100000 in
theorem isChar_any (c : Nat) (hc : c ≤ 2147483647) (w : World) : Calls Tryd.prog 44 #[.int .i32 (c : Int)] w fun e w' => e = .returned (.bool (chO c)) ∧ w = w' := by
  have CV := Lib.hid (fun W => Tryd.utf8_ValidRune (c : Int) W)
  rw [validRune_eq] at CV
  have HC := Lib.hid (show chO c = (decide (c ≠ 0) && scal c) from rfl)
  by_cases h0 : c = 0
  · subst h0
    go_enter Tryd.func44, Tryd.ntmps44
    go_wp2_with fail
    go_ret
    exact ⟨rfl, rfl⟩
  · have hb : ((c : Int) != 0) = true := by rw [bne_iff_ne]; omega
    have HR : Hid (chO c = scal c) := Lib.hid (by rw [HC.out, decide_eq_true (by exact h0), Bool.true_and])
    generalize scal c = s at *
    go_enter Tryd.func44, Tryd.ntmps44
    go_wp2_with fail
    refine (CV.out _).mono ?_
    rintro e w' ⟨rfl, rfl⟩
    go_wp2_with fail
    go_ret
    exact ⟨by rw [HR.out]; rfl, rfl⟩
set_option maxRecDepth 100000 in
theorem isASCII_any (c : Nat) (hc : c ≤ 2147483647) (w : World) : Calls Tryd.prog 50 #[.int .i32 (c : Int)] w fun e w' => e = .returned (.bool (decide (0 < c) && decide (c ≤ 127))) ∧ w = w' := by
  obtain ⟨b1, h1⟩ : ∃ b, decide (0 < c) = b := ⟨_, rfl⟩
  obtain ⟨b2, h2⟩ : ∃ b, decide (c ≤ 127) = b := ⟨_, rfl⟩
  have i1 : decide ((0 : Int) < (c : Int)) = b1 := by rw [← h1]; exact decide_eq_decide.2 (by omega)
  have i2 : decide ((c : Int) ≤ 127) = b2 := by rw [← h2]; exact decide_eq_decide.2 (by omega)
  rw [h1, h2]
  cases b1 <;> cases b2
  all_goals
    have g1 := i1
    have g2 := i2
    simp only [decide_eq_true_eq, decide_eq_false_iff_not] at g1 g2
    go_enter Tryd.func50, Tryd.ntmps50
    go_wp2_with fail
    go_ret
    exact ⟨rfl, rfl⟩
set_option maxRecDepth 100000 in
theorem isVis_any (c : Nat) (hc : c ≤ 2147483647) (w : World) : Calls Tryd.prog 51 #[.int .i32 (c : Int)] w fun e w' => e = .returned (.bool (decide (32 ≤ c) && decide (c ≤ 126))) ∧ w = w' := by
  obtain ⟨b1, h1⟩ : ∃ b, decide (32 ≤ c) = b := ⟨_, rfl⟩
  obtain ⟨b2, h2⟩ : ∃ b, decide (c ≤ 126) = b := ⟨_, rfl⟩
  have i1 : decide ((32 : Int) ≤ (c : Int)) = b1 := by rw [← h1]; exact decide_eq_decide.2 (by omega)
  have i2 : decide ((c : Int) ≤ 126) = b2 := by rw [← h2]; exact decide_eq_decide.2 (by omega)
  rw [h1, h2]
  cases b1 <;> cases b2
  all_goals
    have g1 := i1
    have g2 := i2
    simp only [decide_eq_true_eq, decide_eq_false_iff_not] at g1 g2
    go_enter Tryd.func51, Tryd.ntmps51
    go_wp2_with fail
    go_ret
    exact ⟨rfl, rfl⟩
set_option maxRecDepth 100000 in
theorem isBMP_any (c : Nat) (hc : c ≤ 2147483647) (w : World) : Calls Tryd.prog 52 #[.int .i32 (c : Int)] w fun e w' => e = .returned (.bool (chO c && decide (c ≤ 65535))) ∧ w = w' := by
  have CV := Lib.hid (fun W => isChar_any c hc W)
  obtain ⟨b1, h1⟩ : ∃ b, chO c = b := ⟨_, rfl⟩
  obtain ⟨b2, h2⟩ : ∃ b, decide (c ≤ 65535) = b := ⟨_, rfl⟩
  have i2 : decide ((c : Int) ≤ 65535) = b2 := by rw [← h2]; exact decide_eq_decide.2 (by omega)
  rw [h1] at CV ⊢
  rw [h2]
  clear h1 h2
  cases b1 <;> cases b2
  all_goals
    have g2 := i2
    simp only [decide_eq_true_eq, decide_eq_false_iff_not] at g2
    go_enter Tryd.func52, Tryd.ntmps52
    go_wp2_with fail
    refine (CV.out _).mono ?_
    rintro e w' ⟨rfl, rfl⟩
    go_wp2_with fail
    go_ret
    exact ⟨rfl, rfl⟩
end Go.Proofs.YthefnfjhnallfaaDoor.Chs
