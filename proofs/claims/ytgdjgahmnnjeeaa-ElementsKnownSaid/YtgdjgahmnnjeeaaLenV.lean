/-
  Layer 3: what Get answers to the octets that Put returns, and the other way round (no program is walked here).
  Conditions: none.
-/
import Derived.Test.YtgdjgahmnnjeeaaLenG0
namespace Go.Proofs.Ytgdjgahmnnjeeaa.Len
open Go.RowKit

theorem szI_of {v : Nat} (hv : v ≤ 16777215) : szI (v : Int) = if v < 128 then 1 else if v < 256 then 2 else if v < 65536 then 3 else 4 := by
  unfold szI
  rw [if_neg (by omega), if_neg (by omega)]
  repeat (first | omega | split)
theorem val1 (a : Nat) : val [a] = a := by simp [val, vl]
theorem val2 (a b : Nat) : val [a, b] = a * 256 + b := by simp [val, vl]; omega
theorem val3 (a b c : Nat) : val [a, b, c] = a * 65536 + b * 256 + c := by simp [val, vl]; omega
/-- Get at the octets of each size. -/
theorem getL_1 (a : Nat) (t : List Nat) (ha : a < 256) : getL (129 :: a :: t) = if 128 ≤ a then (a, 2, 0) else (0, 0, 10) := by
  have hv : a ≤ 16777215 := by omega
  unfold getL
  dsimp only
  rw [if_neg (by omega), if_neg (by omega), if_neg (by omega), if_neg (by simp)]
  simp only [show 129 - 128 = 1 from rfl, show 129 - 127 = 2 from rfl, List.take_succ_cons, List.take_zero, val1]
  by_cases h : 128 ≤ a
  · have e : szI ((a : Nat) : Int) = 2 := by
      rw [szI_of hv]
      repeat (first | omega | split)
    rw [if_pos h, if_pos e]
  · have e : ¬ szI ((a : Nat) : Int) = 2 := by
      rw [szI_of hv]
      repeat (first | omega | split)
    rw [if_neg h, if_neg e]
theorem getL_2 (a b : Nat) (t : List Nat) (ha : a < 256) (hb : b < 256) : getL (130 :: a :: b :: t) = if 1 ≤ a then (a * 256 + b, 3, 0) else (0, 0, 10) := by
  have hv : a * 256 + b ≤ 16777215 := by omega
  unfold getL
  dsimp only
  rw [if_neg (by omega), if_neg (by omega), if_neg (by omega), if_neg (by simp)]
  simp only [show 130 - 128 = 2 from rfl, show 130 - 127 = 3 from rfl, List.take_succ_cons, List.take_zero, val2]
  by_cases h : 1 ≤ a
  · have e : szI ((a * 256 + b : Nat) : Int) = 3 := by
      rw [szI_of hv]
      repeat (first | omega | split)
    rw [if_pos h, if_pos e]
  · have e : ¬ szI ((a * 256 + b : Nat) : Int) = 3 := by
      rw [szI_of hv]
      repeat (first | omega | split)
    rw [if_neg h, if_neg e]
theorem getL_3 (a b c : Nat) (t : List Nat) (ha : a < 256) (hb : b < 256) (hc : c < 256) : getL (131 :: a :: b :: c :: t) = if 1 ≤ a then (a * 65536 + b * 256 + c, 4, 0) else (0, 0, 10) := by
  have hv : a * 65536 + b * 256 + c ≤ 16777215 := by omega
  unfold getL
  dsimp only
  rw [if_neg (by omega), if_neg (by omega), if_neg (by omega), if_neg (by simp)]
  simp only [show 131 - 128 = 3 from rfl, show 131 - 127 = 4 from rfl, List.take_succ_cons, List.take_zero, val3]
  by_cases h : 1 ≤ a
  · have e : szI ((a * 65536 + b * 256 + c : Nat) : Int) = 4 := by
      rw [szI_of hv]
      repeat (first | omega | split)
    rw [if_pos h, if_pos e]
  · have e : ¬ szI ((a * 65536 + b * 256 + c : Nat) : Int) = 4 := by
      rw [szI_of hv]
      repeat (first | omega | split)
    rw [if_neg h, if_neg e]
theorem getL_back {n : Nat} (hn : n ≤ 16777215) (t : List Nat) : getL (putL n ++ t) = (n, (putL n).length, 0) := by
  unfold putL
  by_cases h1 : n < 128
  · rw [if_pos h1]; unfold getL; simp [h1]
  rw [if_neg h1]
  by_cases h2 : n < 256
  · rw [if_pos h2]
    show getL (129 :: n :: t) = _
    rw [getL_1 _ _ h2, if_pos (by omega)]; rfl
  rw [if_neg h2]
  by_cases h3 : n < 65536
  · rw [if_pos h3]
    show getL (130 :: (n / 256) :: (n % 256) :: t) = _
    rw [getL_2 _ _ _ (by omega) (by omega), if_pos (by omega), show n / 256 * 256 + n % 256 = n by omega]; rfl
  · rw [if_neg h3]
    show getL (131 :: (n / 65536) :: (n / 256 % 256) :: (n % 256) :: t) = _
    rw [getL_3 _ _ _ _ (by omega) (by omega) (by omega), if_pos (by omega), show n / 65536 * 65536 + n / 256 % 256 * 256 + n % 256 = n by omega]; rfl
theorem getL_short {n m : Nat} (hm : m < (putL n).length) : getL ((putL n).take m) = (0, 0, 7) := by
  revert hm
  unfold putL
  split
  · intro hm
    obtain rfl : m = 0 := by simpa using hm
    rfl
  split
  · intro hm
    match m, hm with
    | 0, _ => rfl
    | 1, _ => rfl
    | m + 2, hm => exact absurd hm (by simp)
  split
  · intro hm
    match m, hm with
    | 0, _ => rfl
    | 1, _ => rfl
    | 2, _ => rfl
    | m + 3, hm => exact absurd hm (by simp)
  · intro hm
    match m, hm with
    | 0, _ => rfl
    | 1, _ => rfl
    | 2, _ => rfl
    | 3, _ => rfl
    | m + 4, hm => exact absurd hm (by simp)
/-- What is read is what would be put. -/
theorem getL_ok {l : List Nat} (h8 : All8 l) {n s : Nat} (hq : getL l = (n, s, 0)) : n ≤ 16777215 ∧ l.take s = putL n ∧ s ≤ l.length ∧ (putL n).length = s := by
  cases l with
  | nil => simp [getL] at hq
  | cons x t =>
    have hx := h8 x (by simp)
    by_cases h1 : x < 128
    · unfold getL at hq
      simp only [if_pos h1, Prod.mk.injEq] at hq
      obtain ⟨rfl, rfl, _⟩ := hq
      refine ⟨by omega, ?_, by simp, ?_⟩
      · unfold putL; rw [if_pos h1]; rfl
      · unfold putL; rw [if_pos h1]; rfl
    by_cases h2 : x < 129
    · unfold getL at hq
      simp [h1, h2] at hq
    by_cases h3 : 131 < x
    · unfold getL at hq
      simp [h1, h2, h3] at hq
    by_cases h4 : t.length < x - 128
    · unfold getL at hq
      simp [h1, h2, h3, h4] at hq
    have h5 : x = 129 ∨ x = 130 ∨ x = 131 := by omega
    rcases h5 with rfl | rfl | rfl
    · match t, h4, h8, hq with
      | a :: t, h4, h8, hq =>
        have ha := h8 a (by simp)
        rw [getL_1 _ _ ha] at hq
        by_cases h : 128 ≤ a
        · rw [if_pos h] at hq
          simp only [Prod.mk.injEq, and_true] at hq
          obtain ⟨rfl, rfl⟩ := hq
          have e : putL a = [129, a] := by unfold putL; rw [if_neg (by omega), if_pos ha]
          rw [e]
          exact ⟨by omega, rfl, by simp, rfl⟩
        · rw [if_neg h] at hq; simp at hq
    · match t, h4, h8, hq with
      | [_], h4, _, _ => simp at h4
      | a :: b :: t, h4, h8, hq =>
        have ha := h8 a (by simp)
        have hb := h8 b (by simp)
        rw [getL_2 _ _ _ ha hb] at hq
        by_cases h : 1 ≤ a
        · rw [if_pos h] at hq
          simp only [Prod.mk.injEq, and_true] at hq
          obtain ⟨rfl, rfl⟩ := hq
          have e : putL (a * 256 + b) = [130, a, b] := by unfold putL; rw [if_neg (by omega), if_neg (by omega), if_pos (by omega), show (a * 256 + b) / 256 = a by omega, show (a * 256 + b) % 256 = b by omega]
          rw [e]
          exact ⟨by omega, rfl, by simp, rfl⟩
        · rw [if_neg h] at hq; simp at hq
    · match t, h4, h8, hq with
      | [_], h4, _, _ => simp at h4
      | [_, _], h4, _, _ => simp at h4
      | a :: b :: c :: t, h4, h8, hq =>
        have ha := h8 a (by simp)
        have hb := h8 b (by simp)
        have hc := h8 c (by simp)
        rw [getL_3 _ _ _ _ ha hb hc] at hq
        by_cases h : 1 ≤ a
        · rw [if_pos h] at hq
          simp only [Prod.mk.injEq, and_true] at hq
          obtain ⟨rfl, rfl⟩ := hq
          have e : putL (a * 65536 + b * 256 + c) = [131, a, b, c] := by
            unfold putL
            rw [if_neg (by omega), if_neg (by omega), if_neg (by omega), show (a * 65536 + b * 256 + c) / 65536 = a by omega, show (a * 65536 + b * 256 + c) / 256 % 256 = b by omega, show (a * 65536 + b * 256 + c) % 256 = c by omega]
          rw [e]
          exact ⟨by omega, rfl, by simp, rfl⟩
        · rw [if_neg h] at hq; simp at hq
theorem putL_len (n : Nat) : 1 ≤ (putL n).length ∧ (putL n).length ≤ 4 := by
  unfold putL
  split
  · simp
  split
  · simp
  split <;> simp
end Go.Proofs.Ytgdjgahmnnjeeaa.Len
