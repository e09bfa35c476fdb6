/-
  Layer 10: the search of the year of a number of days.
  Conditions: the number is one of a day of the years 0 to 9999.
-/
import Derived.Test.YtecmgkmonehmfaaDoorTimF
namespace Go.Proofs.YtecmgkmonehmfaaDoor.Tim
open Go.RowKit

set_option linter.unusedSimpArgs false in
set_option linter.unusedVariables false in
set_option maxHeartbeats 2000000 in
theorem clo_any (k : Nat) (hk : k ≤ 9999) (D g : Nat) (w : World) (hlt : g < w.heap.size) (hc : w.cell? ⟨g, 0, none⟩ = some (.int .i64 (D : Int))) :
    Calls Tryd.prog 53 #[.int .i64 (k : Int), .pointer (some ⟨g, 0, none⟩)] w fun e w' => e = .returned (.bool (decide (D < dbT (k + 1)))) ∧ Below w.heap.size w w' := by
  have CB : Hid (∀ W, Calls Tryd.prog 36 #[.int .i64 ((k : Int) + 1)] W fun e w' => e = .returned (.int .i64 (dbT (k + 1) : Int)) ∧ Below W.heap.size W w') := Lib.hid (fun W => by
    rw [show (k : Int) + 1 = ((k + 1 : Nat) : Int) by omega]
    exact before_any (k + 1) (by omega) W)
  generalize dbT (k + 1) = N at *
  have q1 : IntKind.i64.wrap ((k : Int) + 1) = (k : Int) + 1 := by rw [IntKind.wrap_i64]; omega
  have hcd : w.drew.cell? ⟨g, 0, none⟩ = some (.int .i64 (D : Int)) := hc
  have hb0 := (Below.refl w.heap.size w).drew
  have hltd : g < w.drew.heap.size := hlt
  go_enter Tryd.func53, Tryd.ntmps53
  go_upto_region 1 with fail
  go_region_held3 (fun W => W.cell? ⟨g, 0, none⟩ = some (.int .i64 (D : Int)))
    (first | exact hc | exact (hb1.cell (p := ⟨g, 0, none⟩) hltd).trans hcd)
    (first | (go_at_call 36; refine (CB.out _).mono ?_; rintro e w3 ⟨rfl, hb1⟩))
  have B3 := Lib.hid (hb0.trans (hb1.mono hb0.size))
  go_wp2_with fail
  go_ret
  exact ⟨by simp, B3.out⟩

@[reducible] def cloV (g : Nat) : Value := .func (.func 53) #[] #[.pointer (some ⟨g, 0, none⟩)]
set_option linter.unusedSimpArgs false in
set_option linter.unusedVariables false in
set_option maxHeartbeats 2000000 in
set_option maxRecDepth 100000 in
theorem search_any (D g : Nat) (hD : D < dbT 10000) (w : World) (hlt : g < w.heap.size) (hc : w.cell? ⟨g, 0, none⟩ = some (.int .i64 (D : Int))) :
    Calls Tryd.prog 52 #[.int .i64 9999, cloV g] w fun e w' => ∃ Y : Nat, Y ≤ 9999 ∧ dbT Y ≤ D ∧ D < dbT (Y + 1) ∧ e = .returned (.int .i64 (Y : Int)) ∧ Below w.heap.size w w' := by
  have HD := Lib.hid hD
  clear hD
  go_enter Tryd.func52, Tryd.ntmps52
  go_upto_region 2 with fail
  go_loopw [5, 6] (fun i j wr => ∃ a b : Nat, a ≤ b ∧ b ≤ 9999 ∧ dbT a ≤ D ∧ D < dbT (b + 1) ∧ i = .int .i64 (a : Int) ∧ j = .int .i64 (b : Int) ∧ Below w.heap.size w wr) (fun i j _ => (intOf j).toNat - (intOf i).toNat)
  case atStart => exact ⟨0, 9999, by omega, by omega, Nat.zero_le _, HD.out, rfl, rfl, Below.refl _ _⟩
  case round =>
    obtain ⟨a, b, hab, hb9, ha, hbD, rfl, rfl, hbr⟩ := hrel
    have HA := Lib.hid ha
    have HB := Lib.hid hbD
    have BR := Lib.hid hbr
    have hcr : wr.cell? ⟨g, 0, none⟩ = some (.int .i64 (D : Int)) := (hbr.cell (p := ⟨g, 0, none⟩) hlt).trans hc
    have hltr := Nat.lt_of_lt_of_le hlt hbr.size
    clear ha hbD hbr
    by_cases hl : a < b
    · obtain ⟨M, hM⟩ : ∃ M, (a + b) / 2 = M := ⟨_, rfl⟩
      have CC := Lib.hid (clo_any M (by omega) D g wr hltr hcr)
      have q1 : IntKind.i64.wrap ((a : Int) + (b : Int)) = (a : Int) + (b : Int) := by rw [IntKind.wrap_i64]; omega
      have q2 : IntKind.u64.wrap ((a : Int) + (b : Int)) = (a : Int) + (b : Int) := by rw [IntKind.wrap_u64]; omega
      have hli : (a : Int) < (b : Int) := by omega
      go_upto_region 4 with fail
      have HM : Hid (((a : Int) + (b : Int)) / 2 = (M : Int)) := Lib.hid (by omega)
      have hM1 : M < b := by omega
      have hM2 : a ≤ M := by omega
      rw [HM.out]
      clear HM hM q1 q2
      by_cases hv : D < dbT (M + 1)
      · have HV := Lib.hid hv
        rw [decide_eq_true hv] at CC
        clear hv
        go_wp2_with fail
        refine CC.out.mono ?_
        rintro e w4 ⟨rfl, hb⟩
        have B4 := bt BR (Lib.hid hb)
        clear hb
        go_wp2_with fail
        exact ⟨⟨a, M, hM2, by omega, HA.out, HV.out, rfl, rfl, B4.out⟩, by simp [intOf]; omega⟩
      · have HV : Hid (dbT (M + 1) ≤ D) := Lib.hid (by omega)
        rw [decide_eq_false hv] at CC
        clear hv
        have q3 : IntKind.i64.wrap ((M : Int) + 1) = (M : Int) + 1 := by rw [IntKind.wrap_i64]; omega
        go_wp2_with fail
        refine CC.out.mono ?_
        rintro e w4 ⟨rfl, hb⟩
        have B4 := bt BR (Lib.hid hb)
        clear hb
        go_wp2_with fail
        exact ⟨⟨M + 1, b, by omega, hb9, HV.out, HB.out, by go_num, rfl, B4.out⟩, by simp [intOf]; omega⟩
    · obtain rfl : a = b := by omega
      go_wp2_with fail
      go_ret
      exact ⟨a, hb9, HA.out, HB.out, rfl, BR.out⟩
end Go.Proofs.YtecmgkmonehmfaaDoor.Tim
