/-
  Layer 10: the reference's Days; daysBefore and its closure; the tags and layouts.
  Conditions: none but ranges.
-/
import Derived.Test.YtecmgkmonehmfaaDoorTimA
import Derived.Deep.RegionHeld3
import Derived.Deep.DeepCutAuto
import Derived.Deep.CutBlock
import Derived.Deep.QuietTactic
import Derived.Deep.MidRow
namespace Go.Proofs.YtecmgkmonehmfaaDoor.Tim
open Go.RowKit

set_option linter.unusedSimpArgs false in
set_option maxHeartbeats 4000000 in
theorem rdays_any (y m : Int) (w : World) : Calls Tryd.prog 13 #[.int .i64 y, .int .i64 m] w fun e w' => e = .returned (.int .i64 (dyT y m : Int)) ∧ w = w' := by
  have CL := Lib.hid (fun W => rleap_any y W)
  by_cases h : m < 1 ∨ 12 < m
  · rw [dyT_out h]
    have h4 : (m == 4) = false := by rw [beq_eq_false_iff_ne]; omega
    have h6 : (m == 6) = false := by rw [beq_eq_false_iff_ne]; omega
    have h9 : (m == 9) = false := by rw [beq_eq_false_iff_ne]; omega
    have h11 : (m == 11) = false := by rw [beq_eq_false_iff_ne]; omega
    have h2 : (m == 2) = false := by rw [beq_eq_false_iff_ne]; omega
    have hs : decide (m < 1) = true ∨ (decide (m < 1) = false ∧ decide (12 < m) = true) := by
      rw [decide_eq_true_eq, decide_eq_false_iff_not, decide_eq_true_eq]; omega
    clear h
    rcases hs with e1 | ⟨e1, e2⟩
    all_goals
      go_enter Tryd.func13, Tryd.ntmps13
      go_wp2_with fail
      go_ret
      exact ⟨rfl, rfl⟩
  · obtain ⟨k, hk, rfl⟩ : ∃ k : Nat, k < 12 ∧ m = k + 1 := ⟨(m - 1).toNat, by omega, by omega⟩
    rw [dyT_in hk]
    by_cases h2 : k = 1
    · subst h2
      obtain ⟨v, hv⟩ : ∃ v, lpT y = v := ⟨_, rfl⟩
      rw [hv] at CL ⊢
      clear h hv
      cases v
      all_goals
        go_enter Tryd.func13, Tryd.ntmps13
        go_wp2_with fail
        refine (CL.out _).mono ?_
        rintro e w' ⟨rfl, rfl⟩
        go_wp2_with fail
        go_ret
        exact ⟨rfl, rfl⟩
    · rw [if_neg (by omega)]
      clear h CL
      obtain rfl | rfl | rfl | rfl | rfl | rfl | rfl | rfl | rfl | rfl | rfl : k = 0 ∨ k = 2 ∨ k = 3 ∨ k = 4 ∨ k = 5 ∨ k = 6 ∨ k = 7 ∨ k = 8 ∨ k = 9 ∨ k = 10 ∨ k = 11 := by omega
      all_goals
        clear h2
        go_enter Tryd.func13, Tryd.ntmps13
        go_wp2_with fail
        go_ret
        exact ⟨rfl, rfl⟩
/-- The multiples of a number below a year. -/
def mulT (y of : Nat) : Nat := (y + of - 1) / of
set_option maxHeartbeats 1000000 in
theorem mult_any (y of : Nat) (hy : y ≤ 10000) (ho : 1 ≤ of) (ho2 : of ≤ 400) (g : Nat) (w : World) (hc : w.cell? ⟨g, 0, none⟩ = some (.int .i64 (y : Int))) :
    Calls Tryd.prog 49 #[.int .i64 (of : Int), .pointer (some ⟨g, 0, none⟩)] w fun e w' => e = .returned (.int .i64 (mulT y of : Int)) ∧ w = w' := by
  have h0 : ((of : Int) == 0) = false := by rw [beq_eq_false_iff_ne]; omega
  have h1 : ¬ (of : Int) = 0 := by omega
  have HV : Hid (((y : Int) + (of : Int) - 1).tdiv (of : Int) = (mulT y of : Int)) := Lib.hid (by
    unfold mulT
    rw [show (y : Int) + (of : Int) - 1 = ((y + of - 1 : Nat) : Int) by omega]
    rfl)
  have hv := HV.out
  have hle : mulT y of ≤ 10400 := by unfold mulT; exact Nat.le_trans (Nat.div_le_self _ _) (by omega)
  generalize mulT y of = V at *
  have hw : IntKind.i64.wrap (V : Int) = (V : Int) := by rw [IntKind.wrap_i64]; omega
  go_enter Tryd.func49, Tryd.ntmps49
  go_wp2_with fail
  go_ret
  exact ⟨rfl, rfl⟩
/-- The days before a year. -/
def dbT (y : Nat) : Nat := 365 * y + mulT y 4 + mulT y 400 - mulT y 100
set_option linter.unusedSimpArgs false in
set_option maxHeartbeats 4000000 in
theorem before_any (y : Nat) (hy : y ≤ 10000) (w : World) : Calls Tryd.prog 36 #[.int .i64 (y : Int)] w fun e w' => e = .returned (.int .i64 (dbT y : Int)) ∧ Below w.heap.size w w' := by
  obtain ⟨g, hg⟩ : ∃ g, w.heap.size = g := ⟨_, rfl⟩
  obtain ⟨w1, hw1⟩ : ∃ w1, w.alloc (.cells #[.int .i64 (y : Int)] 3) = w1 := ⟨_, rfl⟩
  have B1 : Hid (Below w.heap.size w w1) := Lib.hid (by rw [← hw1]; exact bel1 w _)
  have hc : w1.cell? ⟨g, 0, none⟩ = some (.int .i64 (y : Int)) := by
    rw [← hw1, ← hg]
    exact (Bk.new w 3 [.int .i64 (y : Int)]).cell 0
  have hcd : w1.drew.cell? ⟨g, 0, none⟩ = some (.int .i64 (y : Int)) := hc
  have C4 := Lib.hid (fun W h => mult_any y 4 hy (by decide) (by decide) g W h)
  have C100 := Lib.hid (fun W h => mult_any y 100 hy (by decide) (by decide) g W h)
  have C400 := Lib.hid (fun W h => mult_any y 400 hy (by decide) (by decide) g W h)
  have hle : ∀ k, mulT y k ≤ 20000 ∨ k = 0 ∨ 10000 < k := fun k => by
    by_cases h : k = 0 ∨ 10000 < k
    · exact .inr h
    · exact .inl (Nat.le_trans (Nat.div_le_self _ _) (by omega))
  have l4 : mulT y 4 ≤ 20000 := by have := hle 4; omega
  have l100 : mulT y 100 ≤ 20000 := by have := hle 100; omega
  have l400 : mulT y 400 ≤ 20000 := by have := hle 400; omega
  have HV : Hid (365 * (y : Int) + (mulT y 4 : Int) - (mulT y 100 : Int) + (mulT y 400 : Int) = (dbT y : Int)) := Lib.hid (by
    have : mulT y 100 ≤ mulT y 4 := by
      unfold mulT
      rw [Nat.div_le_iff_le_mul_add_pred (by decide)]
      have := Nat.div_add_mod (y + 4 - 1) 4
      have := Nat.mod_lt (y + 4 - 1) (show 0 < 4 by decide)
      omega
    unfold dbT
    omega)
  have HW1 := Lib.hid hw1
  have HG := Lib.hid hg
  generalize mulT y 4 = a at *
  generalize mulT y 100 = b at *
  generalize mulT y 400 = c at *
  have q1 : IntKind.i64.wrap (365 * (y : Int)) = 365 * (y : Int) := by rw [IntKind.wrap_i64]; omega
  have q2 : IntKind.i64.wrap (365 * (y : Int) + (a : Int)) = 365 * (y : Int) + (a : Int) := by rw [IntKind.wrap_i64]; omega
  have q3 : IntKind.i64.wrap (365 * (y : Int) + (a : Int) - (b : Int)) = 365 * (y : Int) + (a : Int) - (b : Int) := by rw [IntKind.wrap_i64]; omega
  have q4 : IntKind.i64.wrap (365 * (y : Int) + (a : Int) - (b : Int) + (c : Int)) = 365 * (y : Int) + (a : Int) - (b : Int) + (c : Int) := by rw [IntKind.wrap_i64]; omega
  have hd : Hid (Below w.heap.size w w1.drew) := Lib.hid B1.out.drew
  clear hw1 hg hle
  go_enter Tryd.func36, Tryd.ntmps36
  go_upto_region 1 with fail
  rw [HW1.out, HG.out]
  go_upto_region 2 with fail
  go_region_held3 (fun W => W.cell? ⟨g, 0, none⟩ = some (.int .i64 (y : Int))) (exact hc)
    (first | (go_at_call 49; have dn3 := dn2; refine (C400.out _ hcd).mono ?_; rintro e w1 ⟨rfl, rfl⟩) | (go_at_call 49; have dn2 := dn1; refine (C100.out _ hcd).mono ?_; rintro e w1 ⟨rfl, rfl⟩) | (go_at_call 49; have dn1 := True.intro; refine (C4.out _ hcd).mono ?_; rintro e w1 ⟨rfl, rfl⟩))
  go_wp2_with fail
  go_ret
  exact ⟨by rw [← HV.out]; rfl, hd.out⟩
end Go.Proofs.YtecmgkmonehmfaaDoor.Tim
