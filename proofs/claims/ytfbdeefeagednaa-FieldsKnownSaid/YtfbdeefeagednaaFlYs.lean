/-
  Layer 12, plain: what codes tell is small; where an element stands in an encoding.
  Conditions: none.
-/
import Derived.Test.YtfbdeefeagednaaFlYv
import Derived.Test.YtfbdeefeagednaaFlAt
namespace Go.Proofs.Ytfbdeefeagednaa.Fl
open Go.RowKit

theorem bldL_sml {code : List Nat} (h8 : All8 code) : ∀ (f a lv : Nat), a ≤ 40 → smlS (bldL code f a lv).1 ∧ (bldL code f a lv).1.length ≤ 40
  | 0, a, lv, _ => by rw [bldL]; exact ⟨trivial, Nat.zero_le _⟩
  | f + 1, a, lv, ha => by
    have hb := bytN_lt (getD_lt h8 a)
    have hlen := len_bld code (f + 1) a lv
    have hle := (bldL_le code (f + 1) a lv).2 ha
    refine ⟨?_, by omega⟩
    clear hlen hle
    rw [bldL]
    split
    · rename_i hc
      have h1 := bldL_sml h8 f (a + 1) lv (by omega)
      have h2 := bldL_sml h8 f (a + 1) (lv + 1) (by omega)
      have h4 := (bldL_le code f (a + 1) (lv + 1)).2 (by omega)
      have h3 := bldL_sml h8 f (bldL code f (a + 1) (lv + 1)).2 lv h4
      split
      · trivial
      · split
        · split
          · exact h1.1
          · exact ⟨by rw [smlE]; exact ⟨by simp, by omega, h2.1⟩, h3.1⟩
        · exact ⟨by rw [smlE]; exact ⟨by omega, by simp, trivial⟩, h1.1⟩
    · trivial
theorem bldL_it {code : List Nat} (h8 : All8 code) : ∀ (f a lv : Nat), a ≤ 40 → itS (bldL code f a lv).1 + 1021 * a ≤ 1021 * (bldL code f a lv).2
  | 0, a, lv, _ => by simp [bldL, itS]
  | f + 1, a, lv, ha => by
    have hb := bytN_lt (getD_lt h8 a)
    rw [bldL]
    split
    · rename_i hc
      have h1 := bldL_it h8 f (a + 1) lv (by omega)
      have h2 := bldL_it h8 f (a + 1) (lv + 1) (by omega)
      have hle := bldL_le code f (a + 1) (lv + 1)
      have h4 := hle.2 (by omega)
      have h3 := bldL_it h8 f (bldL code f (a + 1) (lv + 1)).2 lv h4
      split
      · simp [itS]; omega
      · split
        · split
          · omega
          · dsimp only
            rw [itS, itE, List.length_nil]
            omega
        · dsimp only
          rw [itS, itE, itS]
          omega
    · simp [itS]
theorem tofE_sm {code : List Nat} (h8 : All8 code) : SMe (tofE code) := by
  have h1 := bldL_sml h8 41 0 2 (by omega)
  have h2 := bldL_dep code 41 0 2 (by omega)
  have h3 := bldL_it h8 41 0 2 (by omega)
  have h5 := (bldL_le code 41 0 2).2 (by omega)
  unfold SMe tofE
  rw [smlE, depE, itE]
  unfold tofS
  exact ⟨⟨by simp, by omega, h1.1⟩, by omega, by simp; omega⟩
/-- Where an element stands in the encoding. -/
theorem enc_at : ∀ (p : List Int) (e d : El), atE e p = some d → ∃ a b, encE e = a ++ (encE d ++ b) ∧ a.length = offE e p
  | [], e, d, h => by
    rw [atE_nil] at h
    injection h with h
    subst h
    exact ⟨[], [], by simp, by rw [offE]; rfl⟩
  | z :: t, .mk c n k bs ss, d, h => by
    rw [atE] at h
    split at h
    · rename_i hz
      obtain ⟨a, b, h1, h2⟩ := enc_at t _ _ h
      have h3 : encS ss = encS (ss.take z.toNat) ++ (encE ss[z.toNat] ++ encS (ss.drop (z.toNat + 1))) := by
        have := congrArg encS (List.take_append_drop z.toNat ss)
        rw [encS_app, List.drop_eq_getElem_cons hz.2, encS] at this
        exact this.symm
      have h4 : encS (ss.drop z.toNat) = encE ss[z.toNat] ++ encS (ss.drop (z.toNat + 1)) := by rw [List.drop_eq_getElem_cons hz.2, encS]
      refine ⟨putL c n k ++ (Len.putL (bs.length + (encS ss).length) ++ (bs ++ encS (ss.take z.toNat))) ++ a, b ++ encS (ss.drop (z.toNat + 1)), ?_, ?_⟩
      · rw [encE, h3, h1]; simp
      · rw [offE, dif_pos hz, List.length_append, h2, h4]
        rw [encE]
        simp only [List.length_append]
        have h5 := congrArg List.length h3
        simp only [List.length_append] at h5
        omega
    · cases h
theorem offE_at {e d : El} {p : List Int} (h : atE e p = some d) : offE e p + (encE d).length ≤ (encE e).length ∧ ((encE e).drop (offE e p)).take (encE d).length = encE d := by
  obtain ⟨a, b, h1, h2⟩ := enc_at p e d h
  rw [← h2, h1]
  simp
end Go.Proofs.Ytfbdeefeagednaa.Fl
