/-
  Layer 9: the characters of a printable string; what each kind has, by its function's value.
  Conditions: a character is below 2^31.
-/
import Derived.Test.YthefnfjhnallfaaDoorChsC
namespace Go.Proofs.YthefnfjhnallfaaDoor.Chs
open Go.RowKit Go.Shelf

theorem oth_high {c : Nat} (h : 128 ≤ c) : othL.contains c = false := by
  rw [← Bool.not_eq_true, List.contains_iff_mem]
  intro hm
  unfold othL at hm
  simp at hm
  omega
theorem idxr_any (c : Nat) (hc : 128 ≤ c) (hm : c ≤ 2147483647) (w : World) : Calls Tryd.prog 63 #[.string S12, .int .i32 (c : Int)] w fun e w' => e = .returned (.int .i64 (-1)) ∧ Below w.heap.size w w' := by
  by_cases hn : c = 65533
  · subst hn; exact idxr_err w
  · cases hv : scal c
    · exact idxr_bad c hc hm hn hv w
    · exact idxr_ok c hc hn hv w
set_option maxRecDepth 100000 in
theorem contains_any (c : Nat) (hm : c ≤ 2147483647) (w : World) : Calls Tryd.prog 60 #[.string S12, .int .i32 (c : Int)] w fun e w' => e = .returned (.bool (othL.contains c)) ∧ Below w.heap.size w w' := by
  rcases Nat.lt_or_ge c 128 with h | h
  · refine (Tryd.strings_ContainsRune_ascii S12 (c : Int) w (by omega) (by omega)).mono ?_
    rintro e w' ⟨h1, rfl⟩
    rw [idx12 c h] at h1
    exact ⟨h1, Below.refl _ _⟩
  · have CI := Lib.hid (fun W => idxr_any c h hm W)
    rw [oth_high h]
    generalize S12 = S at *
    go_enter Tryd.func60, Tryd.ntmps60
    go_wp2_with fail
    refine (CI.out _).mono ?_
    rintro e w' ⟨rfl, hb⟩
    have HB := Lib.hid hb
    clear hb
    go_wp2_with fail
    go_ret
    exact ⟨rfl, HB.out⟩
theorem dec_le {a b : Nat} {v : Bool} (h : decide (a ≤ b) = v) : decide ((a : Int) ≤ (b : Int)) = v := by rw [← h]; exact decide_eq_decide.2 (by omega)
set_option linter.unusedSimpArgs false in
set_option maxHeartbeats 4000000 in
set_option maxRecDepth 100000 in
theorem isPr_any (c : Nat) (hc : c ≤ 2147483647) (w : World) : Calls Tryd.prog 47 #[.int .i32 (c : Int)] w fun e w' => e = .returned (.bool (prB c)) ∧ Below w.heap.size w w' := by
  have CC := Lib.hid (fun W => contains_any c hc W)
  obtain ⟨r, hr⟩ : ∃ r, othL.contains c = r := ⟨_, rfl⟩
  rw [hr] at CC
  unfold S12 at CC
  by_cases hA : 65 ≤ c ∧ c ≤ 90
  · have e : prB c = true := by unfold prB; rw [decide_eq_true hA.1, decide_eq_true hA.2]; rfl
    rw [e]
    have g1 : (65 : Int) ≤ (c : Int) := by omega
    have g2 : (c : Int) ≤ 90 := by omega
    go_enter Tryd.func47, Tryd.ntmps47
    have g3 : ¬ (48 : Int) ≤ (c : Int) ∨ ¬ (c : Int) ≤ 57 := by omega
    obtain ⟨b, hb⟩ : ∃ b, decide ((c : Int) ≤ 57) = b := ⟨_, rfl⟩
    have g4 : ¬ (c : Int) ≤ 57 := by omega
    clear hb g3
    go_wp2_with fail
    go_ret
    exact ⟨rfl, Below.refl _ _⟩
  · by_cases hB : 97 ≤ c ∧ c ≤ 122
    · have e : prB c = true := by unfold prB; rw [decide_eq_true hB.1, decide_eq_true hB.2]; simp
      rw [e]
      have g1 : (65 : Int) ≤ (c : Int) := by omega
      have g2 : ¬ (c : Int) ≤ 90 := by omega
      have g3 : (97 : Int) ≤ (c : Int) := by omega
      have g4 : (c : Int) ≤ 122 := by omega
      have g5 : ¬ (c : Int) ≤ 57 := by omega
      go_enter Tryd.func47, Tryd.ntmps47
      go_wp2_with fail
      go_ret
      exact ⟨rfl, Below.refl _ _⟩
    · by_cases hD : 48 ≤ c ∧ c ≤ 57
      · have e : prB c = true := by unfold prB; rw [decide_eq_true hD.1, decide_eq_true hD.2]; simp
        rw [e]
        have g1 : ¬ (65 : Int) ≤ (c : Int) := by omega
        have g3 : ¬ (97 : Int) ≤ (c : Int) := by omega
        have g4 : (48 : Int) ≤ (c : Int) := by omega
        have g5 : (c : Int) ≤ 57 := by omega
        go_enter Tryd.func47, Tryd.ntmps47
        go_wp2_with fail
        go_ret
        exact ⟨rfl, Below.refl _ _⟩
      · have e : prB c = r := by
          unfold prB
          rw [hr, show (decide (65 ≤ c) && decide (c ≤ 90)) = false by rw [Bool.and_eq_false_iff]; simp only [decide_eq_false_iff_not]; omega,
            show (decide (97 ≤ c) && decide (c ≤ 122)) = false by rw [Bool.and_eq_false_iff]; simp only [decide_eq_false_iff_not]; omega,
            show (decide (48 ≤ c) && decide (c ≤ 57)) = false by rw [Bool.and_eq_false_iff]; simp only [decide_eq_false_iff_not]; omega]
          rfl
        rw [e]
        clear hr e
        rcases (show c < 48 ∨ (57 < c ∧ c < 65) ∨ (90 < c ∧ c < 97) ∨ 122 < c by omega) with h | ⟨h, h'⟩ | ⟨h, h'⟩ | h
        · have g1 : ¬ (65 : Int) ≤ (c : Int) := by omega
          have g3 : ¬ (97 : Int) ≤ (c : Int) := by omega
          have g4 : ¬ (48 : Int) ≤ (c : Int) := by omega
          go_enter Tryd.func47, Tryd.ntmps47
          go_wp2_with fail
          refine (CC.out _).mono ?_
          rintro e w' ⟨rfl, hb⟩
          have HB := Lib.hid hb
          clear hb
          go_wp2_with fail
          go_ret
          exact ⟨rfl, HB.out⟩
        · have g1 : ¬ (65 : Int) ≤ (c : Int) := by omega
          have g3 : ¬ (97 : Int) ≤ (c : Int) := by omega
          have g4 : (48 : Int) ≤ (c : Int) := by omega
          have g5 : ¬ (c : Int) ≤ 57 := by omega
          go_enter Tryd.func47, Tryd.ntmps47
          go_wp2_with fail
          refine (CC.out _).mono ?_
          rintro e w' ⟨rfl, hb⟩
          have HB := Lib.hid hb
          clear hb
          go_wp2_with fail
          go_ret
          exact ⟨rfl, HB.out⟩
        · have g1 : (65 : Int) ≤ (c : Int) := by omega
          have g2 : ¬ (c : Int) ≤ 90 := by omega
          have g3 : ¬ (97 : Int) ≤ (c : Int) := by omega
          have g5 : ¬ (c : Int) ≤ 57 := by omega
          go_enter Tryd.func47, Tryd.ntmps47
          go_wp2_with fail
          refine (CC.out _).mono ?_
          rintro e w' ⟨rfl, hb⟩
          have HB := Lib.hid hb
          clear hb
          go_wp2_with fail
          go_ret
          exact ⟨rfl, HB.out⟩
        · have g1 : (65 : Int) ≤ (c : Int) := by omega
          have g2 : ¬ (c : Int) ≤ 90 := by omega
          have g3 : (97 : Int) ≤ (c : Int) := by omega
          have g4 : ¬ (c : Int) ≤ 122 := by omega
          have g5 : ¬ (c : Int) ≤ 57 := by omega
          go_enter Tryd.func47, Tryd.ntmps47
          go_wp2_with fail
          refine (CC.out _).mono ?_
          rintro e w' ⟨rfl, hb⟩
          have HB := Lib.hid hb
          clear hb
          go_wp2_with fail
          go_ret
          exact ⟨rfl, HB.out⟩
/-- A kind's function 'has'. -/
def hasF (k : Nat) : FuncId := if k = 12 then 44 else if k = 19 then 47 else if k = 22 then 50 else if k = 26 then 51 else 52
def putF (k : Nat) : FuncId := if k = 12 then 45 else if k = 30 then 53 else 48
def getF (k : Nat) : FuncId := if k = 12 then 46 else if k = 30 then 54 else 49
theorem isK_cases {k : Nat} (h : isK k = true) : k = 12 ∨ k = 19 ∨ k = 22 ∨ k = 26 ∨ k = 30 := by
  unfold isK at h
  simp at h
  omega
theorem alOf_form {k : Nat} (h : isK k = true) : alOf k = [.int .u32 (k : Int), fv (hasF k), fv (putF k), fv (getF k)] := by
  rcases isK_cases h with rfl | rfl | rfl | rfl | rfl <;> rfl
theorem has_enter {k : Nat} (h : isK k = true) (args : Array Value) (W : World) : (callFunc (hasF k) args).run Tryd.prog W = .ok (.enter (hasF k) args) W := by
  rcases isK_cases h with rfl | rfl | rfl | rfl | rfl
  all_goals simp [go_sem, hasF]
theorem has_any {k : Nat} (h : isK k = true) (c : Nat) (hc : c ≤ 2147483647) (w : World) : Calls Tryd.prog (hasF k) #[.int .i32 (c : Int)] w fun e w' => e = .returned (.bool (hasN k c)) ∧ Below w.heap.size w w' := by
  rcases isK_cases h with rfl | rfl | rfl | rfl | rfl
  · exact (isChar_any c hc w).mono fun e w' ⟨h1, h2⟩ => ⟨h1, h2 ▸ Below.refl _ _⟩
  · exact isPr_any c hc w
  · exact (isASCII_any c hc w).mono fun e w' ⟨h1, h2⟩ => ⟨h1, h2 ▸ Below.refl _ _⟩
  · exact (isVis_any c hc w).mono fun e w' ⟨h1, h2⟩ => ⟨h1, h2 ▸ Below.refl _ _⟩
  · exact (isBMP_any c hc w).mono fun e w' ⟨h1, h2⟩ => ⟨h1, h2 ▸ Below.refl _ _⟩
end Go.Proofs.YthefnfjhnallfaaDoor.Chs
