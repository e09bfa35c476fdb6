/-
  Layer 12: the law's build: the elements that codes describe.
  Conditions: none beyond that the codes are bytes.
-/
import Derived.Test.YtfbdeefeagednaaFlO
namespace Go.Proofs.Ytfbdeefeagednaa.Fl
open Go.RowKit

/-- The content of a primitive element. -/
def bytN (x : Nat) : List Nat := if x % 8 = 4 then [255] else if x % 8 = 6 ∨ x % 8 = 7 then [x / 8] else List.replicate (x * (x / 64)) 0
/-- The elements that codes from a place on describe, and the place behind them. -/
def bldL (code : List Nat) : Nat → Nat → Nat → List El × Nat
  | 0, a, _ => ([], a)
  | f + 1, a, lv => if a < code.length ∧ a < 40 then
      (if code.getD a 0 % 16 = 15 then ([], a + 1) else
        (if (tagN (code.getD a 0)).2.2 then
          (if lv = 5 then bldL code f (a + 1) lv else
            (.mk (tagN (code.getD a 0)).1 (tagN (code.getD a 0)).2.1 true [] (bldL code f (a + 1) (lv + 1)).1 :: (bldL code f (bldL code f (a + 1) (lv + 1)).2 lv).1, (bldL code f (bldL code f (a + 1) (lv + 1)).2 lv).2))
        else (.mk (tagN (code.getD a 0)).1 (tagN (code.getD a 0)).2.1 false (bytN (code.getD a 0)) [] :: (bldL code f (a + 1) lv).1, (bldL code f (a + 1) lv).2)))
    else ([], a)
theorem bldL_le (code : List Nat) : ∀ (f a lv : Nat), a ≤ (bldL code f a lv).2 ∧ (a ≤ 40 → (bldL code f a lv).2 ≤ 40)
  | 0, a, lv => by simp [bldL]
  | f + 1, a, lv => by
    have h1 := bldL_le code f (a + 1) lv
    have h2 := bldL_le code f (a + 1) (lv + 1)
    have h3 := bldL_le code f (bldL code f (a + 1) (lv + 1)).2 lv
    rw [bldL]
    split
    · rename_i h
      split
      · simp; omega
      · split
        · split
          · omega
          · dsimp only; omega
        · dsimp only; omega
    · simp
theorem bldL_no {code : List Nat} {f a lv : Nat} (h : ¬ (a < code.length ∧ a < 40)) : bldL code f a lv = ([], a) := by
  cases f with
  | zero => rfl
  | succ f => rw [bldL, if_neg h]
theorem len_bld (code : List Nat) : ∀ (f a lv : Nat), (bldL code f a lv).1.length + a ≤ (bldL code f a lv).2
  | 0, a, lv => by simp [bldL]
  | f + 1, a, lv => by
    have h1 := len_bld code f (a + 1) lv
    have h2 := len_bld code f (a + 1) (lv + 1)
    have h3 := len_bld code f (bldL code f (a + 1) (lv + 1)).2 lv
    have h4 := (bldL_le code f (a + 1) (lv + 1)).1
    rw [bldL]
    split
    · split
      · simp
      · split
        · split
          · omega
          · simp only [List.length_cons]; omega
        · simp only [List.length_cons]; omega
    · simp
theorem tagN_lt {x : Nat} (hx : x < 256) : (tagN x).1 < 4 ∧ (tagN x).2.1 < 268435456 ∧ chk (tagN x).1 (tagN x).2.1 (tagN x).2.2 = 0 := by
  have h : ∀ y : Fin 256, (tagN y.1).1 < 4 ∧ (tagN y.1).2.1 < 268435456 ∧ Proofs.Ytfbdeefeagednaa.chk (tagN y.1).1 (tagN y.1).2.1 (tagN y.1).2.2 = 0 := by decide +kernel
  exact h ⟨x, hx⟩
theorem bytN_lt {x : Nat} (hx : x < 256) : All8 (bytN x) ∧ (bytN x).length ≤ 1020 := by
  unfold bytN
  split
  · exact ⟨by intro y hy; simp at hy; omega, by simp⟩
  · split
    · exact ⟨by intro y hy; simp at hy; omega, by simp⟩
    · refine ⟨fun y hy => by have := List.eq_of_mem_replicate hy; omega, ?_⟩
      rw [List.length_replicate]
      have h1 : x / 64 ≤ 3 := by omega
      calc x * (x / 64) ≤ 255 * 3 := Nat.mul_le_mul (by omega) h1
        _ ≤ 1020 := by omega
end Go.Proofs.Ytfbdeefeagednaa.Fl
