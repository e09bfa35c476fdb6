/-
  Layer 10, pure: times as six integers; the contracts of isWithin, Leap, Days, and of the reference's Leap, Days.
  Conditions: the table of the months holds what the program's text lays.
-/
import Derived.Test.YtecmgkmonehmfaaDoorMem
import Derived.Test.YtecmgkmonehmfaaDoorStr2
import Derived.Test.YtecmgkmonehmfaaDoorProg
import Derived.ProofKit
import Derived.Lib.LaidTab
import Derived.WalkSmall
import Derived.WalkMore
import Derived.IntWalk
namespace Go.Proofs.YtecmgkmonehmfaaDoor.Tim
open Go.RowKit

theorem bt {a b c : World} (h1 : Hid (Below a.heap.size a b)) (h2 : Hid (Below b.heap.size b c)) : Hid (Below a.heap.size a c) := Lib.hid (h1.out.trans (h2.out.mono h1.out.size))
theorem bel1 (w : World) (o : Obj) : Below w.heap.size w (w.alloc o) := (Below.refl _ w).alloc (Nat.le_refl _) o
theorem kt {w w' : World} {g : Nat} {t : TypeId} {cs : List Value} (h : Hid (Bk w g t cs)) (hb : Hid (Below w.heap.size w w')) : Hid (Bk w' g t cs) := Lib.hid (h.out.below hb.out h.out.lt)
/-- A number of 64 bits. -/
def I64 (z : Int) : Prop := -9223372036854775808 ≤ z ∧ z ≤ 9223372036854775807
/-- Is a year a leap year? -/
def lpT (y : Int) : Bool := (y.tmod 4 == 0 && !(y.tmod 100 == 0)) || y.tmod 400 == 0
def mdL : List Nat := [31, 28, 31, 30, 31, 30, 31, 31, 30, 31, 30, 31]
def inI (n lo hi : Int) : Bool := decide (lo ≤ n) && decide (n ≤ hi)
/-- The days of a month. -/
def dyT (y m : Int) : Nat := if inI m 1 12 = true then mdL.getD (m.toNat - 1) 0 + (if m = 2 ∧ lpT y = true then 1 else 0) else 0
/-- A time. -/
structure Tm where
  y : Int
  mo : Int
  d : Int
  h : Int
  mi : Int
  s : Int
def Tm.ok (t : Tm) : Prop := I64 t.y ∧ I64 t.mo ∧ I64 t.d ∧ I64 t.h ∧ I64 t.mi ∧ I64 t.s
def chkT (t : Tm) : Nat := if (inI t.y 0 9999 && inI t.mo 1 12 && inI t.d 1 (dyT t.y t.mo) && (inI t.h 0 23 && inI t.mi 0 59 && inI t.s 0 59)) = true then 0 else 1
/-- The table of the months holds what the program's text lays. -/
def Env (w : World) : Prop := ∀ k, k < 12 → w.cell? ⟨0, k, none⟩ = some (.int .i64 (mdL.getD k 0 : Int))
theorem Env.below {w w' : World} (h : Env w) (hb : Below w.heap.size w w') : Env w' := fun k hk => by
  have h1 := h k hk
  have hlt : 0 < w.heap.size := by
    rcases Nat.lt_or_ge 0 w.heap.size with h2 | h2
    · exact h2
    · exfalso
      unfold World.cell? at h1
      simp [Array.getElem?_eq_none h2] at h1
  exact (hb.cell (p := ⟨0, k, none⟩) hlt).trans h1
theorem et {w w' : World} (h : Hid (Env w)) (hb : Hid (Below w.heap.size w w')) : Hid (Env w') := Lib.hid (h.out.below hb.out)

set_option maxHeartbeats 1000000 in
theorem within_any (n lo hi : Int) (w : World) : Calls Tryd.prog 32 #[.int .i64 n, .int .i64 lo, .int .i64 hi] w fun e w' => e = .returned (.bool (inI n lo hi)) ∧ w = w' := by
  obtain ⟨R, hR⟩ : ∃ R, inI n lo hi = R := ⟨_, rfl⟩
  have HR := Lib.hid hR
  rw [hR]
  clear hR
  by_cases h1 : lo ≤ n
  · have HE : Hid (R = decide (n ≤ hi)) := Lib.hid (by rw [← HR.out]; unfold inI; rw [decide_eq_true h1, Bool.true_and])
    have h1b : decide (lo ≤ n) = true := by rw [decide_eq_true_eq]; exact h1
    go_enter Tryd.func32, Tryd.ntmps32
    go_wp2_with fail
    go_ret
    exact ⟨by rw [HE.out]; rfl, rfl⟩
  · have HE : Hid (R = false) := Lib.hid (by rw [← HR.out]; unfold inI; rw [decide_eq_false h1, Bool.false_and])
    have h1b : decide (lo ≤ n) = false := by rw [decide_eq_false_iff_not]; exact h1
    go_enter Tryd.func32, Tryd.ntmps32
    go_wp2_with fail
    go_ret
    exact ⟨by rw [HE.out]; rfl, rfl⟩
theorem tmod_in (y : Int) (k : Int) (hk : 0 < k) (hk2 : k ≤ 1000000) : IntKind.i64.wrap (y.tmod k) = y.tmod k := by
  have h1 := Int.tmod_lt_of_pos y hk
  have h2 : -k < y.tmod k := by
    have := Int.tmod_lt_of_pos (-y) hk
    rw [Int.neg_tmod] at this
    omega
  rw [IntKind.wrap_i64]; omega
set_option maxHeartbeats 1000000 in
theorem leap_any (y : Int) (w : World) : Calls Tryd.prog 10 #[.int .i64 y] w fun e w' => e = .returned (.bool (lpT y)) ∧ w = w' := by
  have q4 := tmod_in y 4 (by decide) (by decide)
  have q100 := tmod_in y 100 (by decide) (by decide)
  have q400 := tmod_in y 400 (by decide) (by decide)
  obtain ⟨R, hR⟩ : ∃ R, lpT y = R := ⟨_, rfl⟩
  rw [hR]
  unfold lpT at hR
  generalize hA : y.tmod 4 = a at *
  generalize hB : y.tmod 100 = b at *
  generalize hC : y.tmod 400 = c at *
  obtain ⟨ba, ha⟩ : ∃ v, (a == 0) = v := ⟨_, rfl⟩
  obtain ⟨bb, hb⟩ : ∃ v, (b == 0) = v := ⟨_, rfl⟩
  obtain ⟨bc, hc⟩ : ∃ v, (c == 0) = v := ⟨_, rfl⟩
  rw [ha, hb, hc] at hR
  have HR := Lib.hid hR
  have hb2 : (b != 0) = !bb := by rw [← hb]; rfl
  clear hR
  cases ba <;> cases bb
  all_goals
    go_enter Tryd.func10, Tryd.ntmps10
    go_wp2_with fail
    go_ret
    exact ⟨by rw [← HR.out]; simp, rfl⟩
set_option maxHeartbeats 1000000 in
theorem rleap_any (y : Int) (w : World) : Calls Tryd.prog 11 #[.int .i64 y] w fun e w' => e = .returned (.bool (lpT y)) ∧ w = w' := by
  have q4 := tmod_in y 4 (by decide) (by decide)
  have q100 := tmod_in y 100 (by decide) (by decide)
  have q400 := tmod_in y 400 (by decide) (by decide)
  have h400 : y.tmod 400 = 0 → y.tmod 100 = 0 ∧ y.tmod 4 = 0 := fun h => by
    have := Int.dvd_of_tmod_eq_zero h
    exact ⟨Int.tmod_eq_zero_of_dvd (Int.dvd_trans (by decide) this), Int.tmod_eq_zero_of_dvd (Int.dvd_trans (by decide) this)⟩
  obtain ⟨R, hR⟩ : ∃ R, lpT y = R := ⟨_, rfl⟩
  rw [hR]
  unfold lpT at hR
  generalize hA : y.tmod 4 = a at *
  generalize hB : y.tmod 100 = b at *
  generalize hC : y.tmod 400 = c at *
  obtain ⟨ba, ha⟩ : ∃ v, (a == 0) = v := ⟨_, rfl⟩
  obtain ⟨bb, hb⟩ : ∃ v, (b == 0) = v := ⟨_, rfl⟩
  obtain ⟨bc, hc⟩ : ∃ v, (c == 0) = v := ⟨_, rfl⟩
  rw [ha, hb, hc] at hR
  have HR := Lib.hid hR
  clear hR h400
  cases bc
  · cases bb
    all_goals
      go_enter Tryd.func11, Tryd.ntmps11
      go_wp2_with fail
      go_ret
      exact ⟨by rw [← HR.out]; simp, rfl⟩
  · go_enter Tryd.func11, Tryd.ntmps11
    go_wp2_with fail
    go_ret
    exact ⟨by rw [← HR.out]; simp, rfl⟩
theorem dyT_out {y m : Int} (h : m < 1 ∨ 12 < m) : dyT y m = 0 := by
  unfold dyT inI
  rw [if_neg]
  rw [Bool.and_eq_true, decide_eq_true_eq, decide_eq_true_eq]
  omega
theorem dyT_in {y : Int} {k : Nat} (h : k < 12) : dyT y (k + 1) = mdL.getD k 0 + (if k = 1 ∧ lpT y = true then 1 else 0) := by
  unfold dyT inI
  rw [if_pos (by rw [Bool.and_eq_true, decide_eq_true_eq, decide_eq_true_eq]; omega)]
  have e : ((k : Int) + 1).toNat - 1 = k := by omega
  rw [e]
  have e2 : ((k : Int) + 1 = 2) = (k = 1) := propext (by omega)
  simp only [e2]
theorem md_le (k : Nat) (h : k < 12) : 28 ≤ mdL.getD k 0 ∧ mdL.getD k 0 ≤ 31 := by
  have : ∀ k : Fin 12, 28 ≤ mdL.getD k.val 0 ∧ mdL.getD k.val 0 ≤ 31 := by decide
  exact this ⟨k, h⟩
theorem dyT_le (y m : Int) : dyT y m ≤ 32 := by
  by_cases h : m < 1 ∨ 12 < m
  · rw [dyT_out h]; omega
  · obtain ⟨k, hk, rfl⟩ : ∃ k : Nat, k < 12 ∧ m = k + 1 := ⟨(m - 1).toNat, by omega, by omega⟩
    rw [dyT_in hk]
    have := md_le k hk
    split <;> omega
set_option linter.unusedSimpArgs false in
set_option maxHeartbeats 2000000 in
theorem days_any (y m : Int) (hm : I64 m) (w : World) (hE : Env w) : Calls Tryd.prog 12 #[.int .i64 y, .int .i64 m] w fun e w' => e = .returned (.int .i64 (dyT y m : Int)) ∧ w = w' := by
  unfold I64 at hm
  have CW := Lib.hid (fun n lo hi W => within_any n lo hi W)
  have CL := Lib.hid (fun W => leap_any y W)
  by_cases h : m < 1 ∨ 12 < m
  · rw [dyT_out h]
    have hi : Hid (inI m 1 12 = false) := Lib.hid (by
      unfold inI; rw [Bool.and_eq_false_iff, decide_eq_false_iff_not, decide_eq_false_iff_not]; omega)
    clear hE h
    go_enter Tryd.func12, Tryd.ntmps12
    go_wp2_with fail
    refine (CW.out _ _ _ _).mono ?_
    rintro e w' ⟨rfl, rfl⟩
    rw [hi.out]
    go_wp2_with fail
    go_ret
    exact ⟨rfl, rfl⟩
  · obtain ⟨k, hk, rfl⟩ : ∃ k : Nat, k < 12 ∧ m = k + 1 := ⟨(m - 1).toNat, by omega, by omega⟩
    have hi : Hid (inI ((k : Int) + 1) 1 12 = true) := Lib.hid (by
      unfold inI; rw [Bool.and_eq_true, decide_eq_true_eq, decide_eq_true_eq]; omega)
    have hc := hE k hk
    have hmd := md_le k hk
    have HD := Lib.hid (dyT_in (y := y) hk)
    obtain ⟨x, hx⟩ : ∃ x, mdL.getD k 0 = x := ⟨_, rfl⟩
    rw [hx] at hc hmd HD
    obtain ⟨v, hv⟩ : ∃ v, lpT y = v := ⟨_, rfl⟩
    rw [hv] at CL HD
    obtain ⟨m, hm1⟩ : ∃ m : Int, (k : Int) + 1 = m := ⟨_, rfl⟩
    rw [hm1] at hi HD ⊢
    have hmk : m - 1 = (k : Int) := by omega
    have hki : (k : Int) < 12 := by omega
    have hk12 : k < 12 := hk
    by_cases h2 : k = 1
    · have hm2 : (m == 2) = true := by rw [beq_iff_eq]; omega
      cases v
      all_goals
        have HD2 := HD.out
        rw [h2] at HD2
        have HD3 := Lib.hid HD2
        clear hE h hm1 hx hv HD2 HD hm h2
        go_enter Tryd.func12, Tryd.ntmps12
        go_wp2_with fail
        refine (CW.out _ _ _ _).mono ?_
        rintro e w' ⟨rfl, rfl⟩
        rw [hi.out]
        go_wp2_with fail
        refine (CL.out _).mono ?_
        rintro e w' ⟨rfl, rfl⟩
        go_wp2_with fail
        go_ret
        exact ⟨by rw [HD3.out]; simp, rfl⟩
    · have hm2 : (m == 2) = false := by rw [beq_eq_false_iff_ne]; omega
      have hm2' : ¬ m = 2 := by omega
      have HD3 : Hid (dyT y m = x) := Lib.hid (by rw [HD.out, if_neg (by omega)]; rfl)
      clear hE h hm1 hx hv HD hm h2
      go_enter Tryd.func12, Tryd.ntmps12
      go_wp2_with fail
      refine (CW.out _ _ _ _).mono ?_
      rintro e w' ⟨rfl, rfl⟩
      rw [hi.out]
      go_wp2_with fail
      go_ret
      exact ⟨by rw [HD3.out]; rfl, rfl⟩
end Go.Proofs.YtecmgkmonehmfaaDoor.Tim
