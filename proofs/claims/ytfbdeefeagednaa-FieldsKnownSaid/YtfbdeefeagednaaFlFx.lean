/-
  Layer 12, plain: what few finds small is small.
  Conditions: none.
-/
import Derived.Test.YtfbdeefeagednaaFlFw
import Derived.Test.YtfbdeefeagednaaFlCp
import Derived.Test.YtfbdeefeagednaaFlYs
namespace Go.Proofs.Ytfbdeefeagednaa.Fl
open Go.RowKit

mutual
theorem fewE_sm : ∀ (e : El) (L : Int) (lv : Nat), 0 ≤ L → (fewE e L lv).1 = true → tinE e ∧ smlE e ∧ depE e + lv ≤ 21 ∧ (cntE e : Int) ≤ L - (fewE e L lv).2 ∧ itE e ≤ 201 * cntE e
  | .mk c n k bs ss, L, lv, hL, h => by
    rw [fewE] at h ⊢
    split at h
    · cases h
    · rename_i hc
      rw [if_neg hc]
      obtain ⟨h1, h2, h3, h4, h5⟩ := fewS_sm ss (L - 1) (lv + 1) (by omega) (by omega) h
      rw [tinE, smlE, depE, cntE, itE]
      exact ⟨⟨by omega, by omega, h1⟩, ⟨by omega, by omega, h2⟩, by omega, by omega, by omega⟩
theorem fewS_sm : ∀ (ss : List El) (L : Int) (lv : Nat), 0 ≤ L → lv ≤ 21 → (fewS ss L lv).1 = true → tinS ss ∧ smlS ss ∧ depS ss + lv ≤ 21 ∧ (cntS ss : Int) ≤ L - (fewS ss L lv).2 ∧ itS ss ≤ 201 * cntS ss
  | [], L, lv, hL, hl, h => by rw [fewS, depS, cntS, itS]; exact ⟨trivial, trivial, by omega, by simp, by omega⟩
  | e :: t, L, lv, hL, hl, h => by
    rw [fewS] at h ⊢
    split at h
    · rename_i he
      rw [if_pos he]
      obtain ⟨h1, h2, h3, h4, h5⟩ := fewE_sm e L lv hL he
      have hb := fewE_bd e L lv hL
      obtain ⟨g1, g2, g3, g4, g5⟩ := fewS_sm t (fewE e L lv).2 lv (hb.2.2 he) hl h
      rw [depS, cntS, itS]
      exact ⟨⟨h1, g1⟩, ⟨h2, g2⟩, by omega, by omega, by omega⟩
    · cases h
end
/-- What few finds small, sixty elements at most. -/
theorem few_small {e : El} {L' : Int} (h : fewE e 60 0 = (true, L')) : tinE e ∧ SMe e ∧ cntE e ≤ 61 := by
  have h0 := fewE_sm e 60 0 (by omega) (by rw [h])
  have hb := fewE_bd e 60 0 (by omega)
  rw [h] at h0 hb
  dsimp only at h0 hb
  obtain ⟨h1, h2, h3, h4, h5⟩ := h0
  have hb1 := hb.1
  have hc : cntE e ≤ 61 := by omega
  exact ⟨h1, ⟨h2, by omega, by omega⟩, hc⟩
end Go.Proofs.Ytfbdeefeagednaa.Fl
