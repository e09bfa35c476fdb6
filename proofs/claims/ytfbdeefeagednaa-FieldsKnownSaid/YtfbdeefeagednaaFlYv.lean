/-
  Layer 12, plain: what codes tell is valid and small.
  Conditions: none beyond that the codes are bytes.
-/
import Derived.Test.YtfbdeefeagednaaFlT
import Derived.Test.YtfbdeefeagednaaFlM
namespace Go.Proofs.Ytfbdeefeagednaa.Fl
open Go.RowKit

theorem getD_lt {code : List Nat} (h : All8 code) (a : Nat) : code.getD a 0 < 256 := by
  rcases Nat.lt_or_ge a code.length with h1 | h1
  · rw [List.getD_eq_getElem?_getD, List.getElem?_eq_getElem h1]; exact h _ (List.getElem_mem h1)
  · rw [List.getD_eq_getElem?_getD, List.getElem?_eq_none h1]; decide
theorem enc_le {c n : Nat} {k : Bool} {bs : List Nat} {ss : List El} (hn : n < 268435456) (h : bs.length + (encS ss).length ≤ 16777215) : (encE (.mk c n k bs ss)).length ≤ 9 + (bs.length + (encS ss).length) := by
  have h1 := encE_len (c := c) (n := n) (k := k) (bs := bs) (ss := ss)
  have h2 := tput_le (c := c) (k := k) hn
  have h3 := (lput_le h).2
  rw [conL] at h1
  omega
theorem bldL_val {code : List Nat} (h8 : All8 code) : ∀ (f a lv : Nat), valS (bldL code f a lv).1
  | 0, a, lv => by rw [bldL]; trivial
  | f + 1, a, lv => by
    have h1 := bldL_val h8 f (a + 1) lv
    have h2 := bldL_val h8 f (a + 1) (lv + 1)
    have h3 := bldL_val h8 f (bldL code f (a + 1) (lv + 1)).2 lv
    have ht := tagN_lt (getD_lt h8 a)
    rw [bldL]
    split
    · split
      · trivial
      · split
        · rename_i hk
          rw [hk] at ht
          split
          · exact h1
          · exact ⟨by rw [valE]; exact ⟨ht.2.2, fun _ => rfl, fun h => (by cases h), h2⟩, h3⟩
        · rename_i hk
          have hk' : (tagN (code.getD a 0)).2.2 = false := by simpa using hk
          rw [hk'] at ht
          exact ⟨by rw [valE]; exact ⟨ht.2.2, fun h => (by cases h), fun _ => rfl, trivial⟩, h1⟩
    · trivial
theorem bldL_dep (code : List Nat) : ∀ (f a lv : Nat), lv ≤ 5 → depS (bldL code f a lv).1 ≤ 6 - lv
  | 0, a, lv, _ => by rw [bldL]; simp [depS]
  | f + 1, a, lv, hl => by
    have h1 := bldL_dep code f (a + 1) lv hl
    have h3 := bldL_dep code f (bldL code f (a + 1) (lv + 1)).2 lv hl
    rw [bldL]
    split
    · split
      · simp [depS]
      · split
        · split
          · exact h1
          · have h2 := bldL_dep code f (a + 1) (lv + 1) (by omega)
            rw [depS, depE]; omega
        · rw [depS, depE, depS]; omega
    · simp [depS]
theorem bldL_cnt (code : List Nat) : ∀ (f a lv : Nat), cntS (bldL code f a lv).1 + a ≤ (bldL code f a lv).2
  | 0, a, lv => by simp [bldL, cntS]
  | f + 1, a, lv => by
    have h1 := bldL_cnt code f (a + 1) lv
    have h2 := bldL_cnt code f (a + 1) (lv + 1)
    have h3 := bldL_cnt code f (bldL code f (a + 1) (lv + 1)).2 lv
    have h4 := (bldL_le code f (a + 1) (lv + 1)).1
    rw [bldL]
    split
    · split
      · simp [cntS]
      · split
        · split
          · omega
          · dsimp only; rw [cntS, cntE]; omega
        · dsimp only; rw [cntS, cntE, cntS]; omega
    · simp [cntS]
theorem bldL_enc {code : List Nat} (h8 : All8 code) : ∀ (f a lv : Nat), a ≤ 40 → (encS (bldL code f a lv).1).length + 1029 * a ≤ 1029 * (bldL code f a lv).2
  | 0, a, lv, _ => by simp [bldL, encS]
  | f + 1, a, lv, ha => by
    have ht := tagN_lt (getD_lt h8 a)
    have hb := bytN_lt (getD_lt h8 a)
    rw [bldL]
    split
    · rename_i hc
      have h1 := bldL_enc h8 f (a + 1) lv (by omega)
      have h2 := bldL_enc h8 f (a + 1) (lv + 1) (by omega)
      have hle := bldL_le code f (a + 1) (lv + 1)
      have h4 := hle.2 (by omega)
      have h3 := bldL_enc h8 f (bldL code f (a + 1) (lv + 1)).2 lv h4
      split
      · simp [encS]; omega
      · split
        · split
          · omega
          · dsimp only
            rw [encS, List.length_append]
            have := enc_le (c := (tagN (code.getD a 0)).1) (k := true) (bs := []) (ss := (bldL code f (a + 1) (lv + 1)).1) ht.2.1 (by simp; omega)
            simp only [List.length_nil, Nat.zero_add] at this
            omega
        · dsimp only
          rw [encS, List.length_append]
          have := enc_le (c := (tagN (code.getD a 0)).1) (k := false) (bs := bytN (code.getD a 0)) (ss := []) ht.2.1 (by simp only [encS, List.length_nil]; omega)
          simp only [encS, List.length_nil, Nat.add_zero] at this
          omega
    · simp [encS]
/-- A tree that codes tell is valid, with an encoding that is not too long. -/
theorem tofE_ok {code : List Nat} (h8 : All8 code) : OKe (tofE code) := by
  have h1 := bldL_val h8 41 0 2
  have h2 := bldL_dep code 41 0 2 (by omega)
  have h3 := bldL_cnt code 41 0 2
  have h4 := bldL_enc h8 41 0 2 (by omega)
  have h5 := (bldL_le code 41 0 2).2 (by omega)
  have h6 := enc_le (c := 0) (n := 16) (k := true) (bs := []) (ss := tofS code) (by decide) (by unfold tofS; simp; omega)
  unfold OKe tofE
  rw [valE, depE, cntE]
  refine ⟨⟨by decide, fun _ => rfl, fun h => (by cases h), h1⟩, by unfold tofS; omega, by unfold tofS; omega, ?_⟩
  simp only [List.length_nil, Nat.zero_add] at h6
  refine Nat.le_trans h6 ?_
  unfold tofS; omega
end Go.Proofs.Ytfbdeefeagednaa.Fl
