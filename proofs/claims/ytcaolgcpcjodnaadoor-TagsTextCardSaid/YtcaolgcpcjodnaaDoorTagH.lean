/-
  Package tags: the contract of Compare.
  Conditions: none.
-/
import Derived.Test.YtcaolgcpcjodnaaDoorTagG
namespace Go.Proofs.YtcaolgcpcjodnaaDoor
open Go.RowKit

/-- The order of two numbers. -/
def cmpN (a b : Nat) : Int := if a < b then -1 else if b < a then 1 else 0
/-- The order of two tags. -/
def cmpT (c n : Nat) (k : Bool) (c' n' : Nat) (k' : Bool) : Int := if cmpN c c' ≠ 0 then cmpN c c' else if cmpN n n' ≠ 0 then cmpN n n' else if k = k' then 0 else if k' = true then -1 else 1
theorem cmpN_lt {a b : Nat} (h : a < b) : cmpN a b = -1 := if_pos h
theorem cmpN_gt {a b : Nat} (h : b < a) : cmpN a b = 1 := by unfold cmpN; rw [if_neg (by omega), if_pos h]
theorem cmpN_eq (a : Nat) : cmpN a a = 0 := by unfold cmpN; rw [if_neg (by omega), if_neg (by omega)]

set_option maxHeartbeats 400000 in
theorem nan8 (a : Nat) (w : World) : Calls Tryd.prog 41 #[.int .u8 (a : Int)] w fun e w' => e = .returned (.bool false) ∧ w = w' := by
  go_enter Tryd.func41, Tryd.ntmps41
  go_wp2_with fail
  go_ret
  exact ⟨by simp, rfl⟩
set_option maxHeartbeats 400000 in
theorem nan32 (a : Nat) (w : World) : Calls Tryd.prog 42 #[.int .u32 (a : Int)] w fun e w' => e = .returned (.bool false) ∧ w = w' := by
  go_enter Tryd.func42, Tryd.ntmps42
  go_wp2_with fail
  go_ret
  exact ⟨by simp, rfl⟩
set_option maxHeartbeats 400000 in
theorem cmp8 (a b : Nat) (w : World) : Calls Tryd.prog 30 #[.int .u8 (a : Int), .int .u8 (b : Int)] w fun e w' => e = .returned (.int .i64 (cmpN a b)) ∧ w = w' := by
  rcases Nat.lt_trichotomy a b with h | rfl | h
  · rw [cmpN_lt h]
    go_enter Tryd.func30, Tryd.ntmps30
    go_wp2_with (go_at_call 41; refine (nan8 _ _).mono ?_; rintro e w1 ⟨rfl, rfl⟩)
    go_ret
    exact ⟨rfl, rfl⟩
  · rw [cmpN_eq]
    go_enter Tryd.func30, Tryd.ntmps30
    go_wp2_with (go_at_call 41; refine (nan8 _ _).mono ?_; rintro e w1 ⟨rfl, rfl⟩)
    go_ret
    exact ⟨rfl, rfl⟩
  · rw [cmpN_gt h]
    go_enter Tryd.func30, Tryd.ntmps30
    go_wp2_with (go_at_call 41; refine (nan8 _ _).mono ?_; rintro e w1 ⟨rfl, rfl⟩)
    go_ret
    exact ⟨rfl, rfl⟩
set_option maxHeartbeats 400000 in
theorem cmp32 (a b : Nat) (w : World) : Calls Tryd.prog 31 #[.int .u32 (a : Int), .int .u32 (b : Int)] w fun e w' => e = .returned (.int .i64 (cmpN a b)) ∧ w = w' := by
  rcases Nat.lt_trichotomy a b with h | rfl | h
  · rw [cmpN_lt h]
    go_enter Tryd.func31, Tryd.ntmps31
    go_wp2_with (go_at_call 42; refine (nan32 _ _).mono ?_; rintro e w1 ⟨rfl, rfl⟩)
    go_ret
    exact ⟨rfl, rfl⟩
  · rw [cmpN_eq]
    go_enter Tryd.func31, Tryd.ntmps31
    go_wp2_with (go_at_call 42; refine (nan32 _ _).mono ?_; rintro e w1 ⟨rfl, rfl⟩)
    go_ret
    exact ⟨rfl, rfl⟩
  · rw [cmpN_gt h]
    go_enter Tryd.func31, Tryd.ntmps31
    go_wp2_with (go_at_call 42; refine (nan32 _ _).mono ?_; rintro e w1 ⟨rfl, rfl⟩)
    go_ret
    exact ⟨rfl, rfl⟩

set_option maxHeartbeats 1000000 in
theorem compare_any (c n : Nat) (k : Bool) (c' n' : Nat) (k' : Bool) (w : World) :
    Calls Tryd.prog 21 #[tagV c n k, tagV c' n' k'] w fun e w' => e = .returned (.int .i64 (cmpT c n k c' n' k')) ∧ Below w.heap.size w w' := by
  obtain ⟨x, hx⟩ : ∃ x, cmpN c c' = x := ⟨_, rfl⟩
  obtain ⟨y, hy⟩ : ∃ y, cmpN n n' = y := ⟨_, rfl⟩
  have HX := Lib.hid hx
  have HY := Lib.hid hy
  clear hx hy
  by_cases h0 : x = 0
  · subst h0
    by_cases h1 : y = 0
    · subst h1
      have HC := Lib.hid (show cmpT c n k c' n' k' = if k = k' then 0 else if k' = true then -1 else 1 by unfold cmpT; rw [HX.out, HY.out]; rfl)
      cases k <;> cases k'
      all_goals
        go_enter Tryd.func21, Tryd.ntmps21
        go_wp2_with (first | (go_at_call 30; refine (cmp8 _ _ _).mono ?_; rintro e w1 ⟨rfl, rfl⟩; rw [HX.out]) | (go_at_call 31; refine (cmp32 _ _ _).mono ?_; rintro e w1 ⟨rfl, rfl⟩; rw [HY.out]))
        go_ret
        exact ⟨by rw [HC.out]; rfl, ((Below.refl _ _).alloc (Nat.le_refl _) _).alloc (by simp) _⟩
    · have HC := Lib.hid (show cmpT c n k c' n' k' = y by unfold cmpT; rw [HX.out, HY.out, if_neg (by simp), if_pos h1])
      have hb : (y != 0) = true := by rw [bne_iff_ne]; exact h1
      clear h1
      go_enter Tryd.func21, Tryd.ntmps21
      go_wp2_with (first | (go_at_call 30; refine (cmp8 _ _ _).mono ?_; rintro e w1 ⟨rfl, rfl⟩; rw [HX.out]) | (go_at_call 31; refine (cmp32 _ _ _).mono ?_; rintro e w1 ⟨rfl, rfl⟩; rw [HY.out]))
      go_ret
      exact ⟨by rw [HC.out]; rfl, ((Below.refl _ _).alloc (Nat.le_refl _) _).alloc (by simp) _⟩
  · have HC := Lib.hid (show cmpT c n k c' n' k' = x by unfold cmpT; rw [HX.out, if_pos h0])
    have hb : (x != 0) = true := by rw [bne_iff_ne]; exact h0
    clear h0
    go_enter Tryd.func21, Tryd.ntmps21
    go_wp2_with (go_at_call 30; refine (cmp8 _ _ _).mono ?_; rintro e w1 ⟨rfl, rfl⟩; rw [HX.out])
    go_ret
    exact ⟨by rw [HC.out]; rfl, ((Below.refl _ _).alloc (Nat.le_refl _) _).alloc (by simp) _⟩
end Go.Proofs.YtcaolgcpcjodnaaDoor
