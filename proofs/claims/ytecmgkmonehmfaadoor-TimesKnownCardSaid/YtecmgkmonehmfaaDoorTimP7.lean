/-
  Layer 10, the statement TimesKnown: the examples of the chapter; all days of four years; the first and the last time; 400 years.
  Conditions: the package-level variables that the row lists hold what the program's text lays (the card ties them).
-/
import Derived.Test.YtecmgkmonehmfaaDoorTimLi
import Derived.Test.YtecmgkmonehmfaaDoorTimRw
import Derived.Deep.DeepCutAuto
import Derived.Deep.CutBlock
import Derived.Deep.RegionHeld3
namespace Go.Proofs.YtecmgkmonehmfaaDoor.Tim
open Go.RowKit Go.Shelf

theorem St.bare {w0 W : World} {rows : List (Option Addr × List Value)} {bks : List (Nat × TypeId × List Value)} (h : St w0 rows bks W) : St w0 [] [] W := ⟨h.b, h.t, fun _ h => absurd h (by simp), fun _ h => absurd h (by simp)⟩
/-- Numbers of 32 bits as cells. -/
def csU (l : List Nat) : List Value := l.map fun (x : Nat) => .int .u32 (x : Int)
def ysL : List Nat := [0, 1949, 1950, 1999, 2000, 2049, 2050, 9999]
def ksL : List Nat := [24, 24, 23, 23, 23, 23, 24, 24]
/-- The years of the list and their tags. -/
theorem ys_at : ∀ j : Fin 8, ck ((ysL.getD j.val 0 : Nat) : Int) ((1 : Nat) : Int) ((1 : Nat) : Int) ((0 : Nat) : Int) ((0 : Nat) : Int) ((0 : Nat) : Int) = 0 ∧ tagN (ysL.getD j.val 0) = ksL.getD j.val 0 := by decide +kernel
theorem day_in {Y M D : Nat} (hM1 : 1 ≤ M) (hM : M ≤ 12) (hY : Y ≤ 9999) (hD1 : 1 ≤ D) (hD : D ≤ dyT Y M) : ck (Y : Int) (M : Int) (D : Int) ((0 : Nat) : Int) ((0 : Nat) : Int) ((0 : Nat) : Int) = 0 := ck_of (by omega)
theorem day_out {Y M D : Nat} (hD : dyT Y M = D) : ck (Y : Int) (M : Int) ((D : Int) + 1) 0 0 0 = 1 := by
  rcases ck_01 (Y : Int) (M : Int) ((D : Int) + 1) 0 0 0 with h | h
  · have := ck_in h; omega
  · exact h
set_option linter.unusedSimpArgs false in
set_option linter.unusedVariables false in
set_option maxHeartbeats 6400000 in
set_option maxRecDepth 100000 in
theorem known_walk (w : World) (hT : Env w) : Calls Tryd.prog 9 #[] w fun e w' => e = .returned (.bool true) ∧ Below w.heap.size w w' := by
  have Z : ∀ w : World, (zeroValue 23).run Tryd.prog w = .ok (.agg #[.int .i64 0, .int .i64 0, .int .i64 0, .int .i64 0, .int .i64 0, .int .i64 0]) w := zTm
  have K0 := Lib.hid (St.start hT)
  have HT0 := Lib.hid hT
  clear hT
  go_enter Tryd.func9, Tryd.ntmps9
  go_wp2_with fail
  refine (secs_at w 1999 1 1 0 0 0 (by decide +kernel) 63082368000 (by decide +kernel) K0.out.t).mono ?_
  rintro e w1 ⟨rfl, hb⟩
  have K1 := kp K0 hb
  clear hb K0
  go_upto_block 0 with fail
  go_cut [1] (fun n wx => n = .int .i64 731581 ∧ St w [] [] wx)
  case first =>
    go_wp2_with fail
    go_loopw [1, 2] (fun n y wr => ∃ Y N : Nat, 1999 ≤ Y ∧ Y ≤ 2003 ∧ N = dbT Y ∧ n = .int .i64 (N : Int) ∧ y = .int .i64 (Y : Int) ∧ St w [] [] wr) (fun _ y _ => 2003 - (intOf y).toNat)
    case atStart => exact ⟨1999, 730120, by decide, by decide, by decide, rfl, rfl, K1.out⟩
    case round =>
      obtain ⟨Y, N, hY1, hY2, hN, rfl, rfl, hst⟩ := hrel
      have K100 := Lib.hid hst
      clear hst K1
      generalize wr = w100 at *
      rcases Nat.lt_or_ge Y 2003 with hlt | hge
      · have hyi : (Y : Int) < 2003 := by omega
        have HN := Lib.hid hN
        have HY := Lib.hid (And.intro hY1 hlt)
        clear hN hY1 hY2 hlt
        go_upto_region 6 with fail
        go_loopw [1, 3] (fun n m wr => ∃ M N2 : Nat, 1 ≤ M ∧ M ≤ 13 ∧ N2 = dbT Y + msT Y (M - 1) ∧ n = .int .i64 (N2 : Int) ∧ m = .int .i64 (M : Int) ∧ St w [] [] wr) (fun _ m _ => 13 - (intOf m).toNat)
        case atStart => exact ⟨1, N, by decide, by decide, HN.out, rfl, rfl, K100.out⟩
        case round =>
          obtain ⟨M, N2, hM1, hM2, hN2, rfl, rfl, hst⟩ := hrel
          have K200 := Lib.hid hst
          clear hst K100
          generalize wr = w200 at *
          rcases Nat.lt_or_ge M 13 with hmlt | hmge
          · have hmi : (M : Int) < 13 := by omega
            have HN2 := Lib.hid hN2
            have HM := Lib.hid (And.intro hM1 hmlt)
            obtain ⟨DM, hDM⟩ : ∃ DM, dyT (Y : Int) (M : Int) = DM := ⟨_, rfl⟩
            have hDM32 := dyT_le (Y : Int) (M : Int)
            rw [hDM] at hDM32
            have HDM := Lib.hid hDM
            clear hN2 hM1 hM2 hmlt hDM
            go_upto_region 9 with fail
            go_loopw [1, 4] (fun n d wr => ∃ D N3 : Nat, 1 ≤ D ∧ D ≤ DM + 1 ∧ N3 = dbT Y + msT Y (M - 1) + (D - 1) ∧ n = .int .i64 (N3 : Int) ∧ d = .int .i64 (D : Int) ∧ St w [] [] wr) (fun _ d _ => 40 - (intOf d).toNat)
            case atStart => exact ⟨1, N2, by decide, by omega, HN2.out, rfl, rfl, K200.out⟩
            case round =>
              obtain ⟨D, N3, hD1, hD2, hN3, rfl, rfl, hst⟩ := hrel
              have K300 := Lib.hid hst
              clear hst K200
              generalize wr = w300 at *
              go_wp2_with fail
              refine (rdays_at w300 (Y : Int) (M : Int) DM HDM.out).mono ?_
              rintro e w301 ⟨rfl, hb⟩
              have K301 := kp K300 hb
              clear hb K300
              rcases Nat.lt_or_ge DM D with hdl | hdl
              · have hdi : decide ((D : Int) ≤ (DM : Int)) = false := by rw [decide_eq_false_iff_not]; omega
                have hdn : decide (D ≤ DM) = false := by rw [decide_eq_false_iff_not]; omega
                have HE : Hid (N3 = dbT Y + msT Y (M + 1 - 1)) := Lib.hid (by
                  have h1 := msT_succ (Y : Int) M HM.out.1
                  have h2 := HDM.out
                  rw [hN3, Nat.add_sub_cancel, h1, h2]
                  omega)
                clear hN3 hD1 hD2 hdl
                go_wp2_with fail
                exact ⟨⟨M + 1, N3, by omega, by have := HM.out.2; omega, HE.out, rfl, by go_num, K301.out⟩, by have := HM.out.2; simp [intOf]; omega⟩
              · have hdi : decide ((D : Int) ≤ (DM : Int)) = true := by rw [decide_eq_true_eq]; omega
                have hdn : decide (D ≤ DM) = true := by rw [decide_eq_true_eq]; omega
                have HC : Hid (ck (Y : Int) (M : Int) (D : Int) ((0 : Nat) : Int) ((0 : Nat) : Int) ((0 : Nat) : Int) = 0) := Lib.hid (day_in HM.out.1 (by have := HM.out.2; omega) (by have := HY.out.2; omega) hD1 (by have := HDM.out; omega))
                have HCO : Hid (ck (Y : Int) (M : Int) ((DM : Int) + 1) 0 0 0 = 1) := Lib.hid (day_out HDM.out)
                have HIM : Hid (I64 (M : Int)) := Lib.hid (by have := HM.out.2; unfold I64; omega)
                obtain ⟨N4, hN4⟩ : ∃ N4, 86400 * N3 = N4 := ⟨_, rfl⟩
                have HS4 : Hid (ssT Y M D 0 0 0 = N4) := Lib.hid (by unfold ssT; omega)
                have hN4b : N4 < 315569520000 := by rw [← HS4.out]; exact ss_bound HC.out
                have hN4i : 86400 * (N3 : Int) = (N4 : Int) := by omega
                have hN4w : IntKind.i64.wrap (N4 : Int) = (N4 : Int) := by rw [IntKind.wrap_i64]; omega
                have hN3w : IntKind.i64.wrap ((N3 : Int) + 1) = (N3 : Int) + 1 := by rw [IntKind.wrap_i64]; omega
                have hDMw : IntKind.i64.wrap ((DM : Int) + 1) = (DM : Int) + 1 := by rw [IntKind.wrap_i64]; omega
                have hDw : IntKind.i64.wrap ((D : Int) + 1) = (D : Int) + 1 := by rw [IntKind.wrap_i64]; omega
                have HE : Hid (N3 + 1 = dbT Y + msT Y (M - 1) + (D + 1 - 1)) := Lib.hid (by omega)
                have hne : ∀ W, (binOp .neq 23 (.agg (tL Y M D 0 0 0).toArray) (.agg (tL Y M D 0 0 0).toArray)).run Tryd.prog W = .ok (.bool false) W := fun W => neqTm Y M D 0 0 0 W
                have HD := Lib.hid (And.intro hD1 (And.intro hdl hDM32))
                clear hN3 hD1 hD2 hdl hN4 hN4b hDM32
                go_upto_region 12 with fail
                obtain ⟨g5, hg5⟩ : ∃ g, w301.heap.size = g := ⟨_, rfl⟩
                obtain ⟨w302, hw302⟩ : ∃ v, w301.alloc (.cells #[.int .i64 (Y : Int), .int .i64 (M : Int), .int .i64 (D : Int), .int .i64 0, .int .i64 0, .int .i64 0] 23) = v := ⟨_, rfl⟩
                have hbk : Hid (Bk w302 g5 23 (tL Y M D 0 0 0)) := Lib.hid (by rw [← hw302, ← hg5]; exact Bk.new w301 _ (tL Y M D 0 0 0))
                have hb : Hid (Below w301.heap.size w301 w302) := Lib.hid (by rw [← hw302]; exact bel1 w301 _)
                have GE_g5 : Hid (w.heap.size ≤ g5) := Lib.hid (by rw [← hg5]; exact K301.out.b.size)
                rw [hw302, hg5]
                have K302 := kp K301 hb
                clear hb K301
                have Kn := kb K302 hbk
                clear hbk K302 hg5 hw302
                have K302 := Kn
                clear Kn
                go_wp2_with fail
                refine (at_at w302 N4 Y M D 0 0 0 HC.out HS4.out K302.out.t).mono ?_
                rintro e w303 ⟨rfl, hb⟩
                have K303 := kp K302 hb
                clear hb K302
                go_upto_region 13 with fail
                obtain ⟨g6, hg6⟩ : ∃ g, w303.heap.size = g := ⟨_, rfl⟩
                obtain ⟨w304, hw304⟩ : ∃ v, w303.alloc (.cells #[.int .i64 (Y : Int), .int .i64 (M : Int), .int .i64 (D : Int), .int .i64 0, .int .i64 0, .int .i64 0] 23) = v := ⟨_, rfl⟩
                have hbk : Hid (Bk w304 g6 23 (tL Y M D 0 0 0)) := Lib.hid (by rw [← hw304, ← hg6]; exact Bk.new w303 _ (tL Y M D 0 0 0))
                have hb : Hid (Below w303.heap.size w303 w304) := Lib.hid (by rw [← hw304]; exact bel1 w303 _)
                have GE_g6 : Hid (w.heap.size ≤ g6) := Lib.hid (by rw [← hg6]; exact K303.out.b.size)
                rw [hw304, hg6]
                have K304 := kp K303 hb
                clear hb K303
                have Kn := kb K304 hbk
                clear hbk K304 hg6 hw304
                have K304 := Kn
                clear Kn
                go_wp2_with (refine wpList_loadGg (by rfl) (.tmp 5) rfl rfl (rangeB (K304.out.k (g5, 23, tL Y M D 0 0 0) (by simp))) Tryd.underlying23 rfl infoTm ?_)
                refine (secs_at w304 Y M D 0 0 0 HC.out N4 HS4.out K304.out.t).mono ?_
                rintro e w305 ⟨rfl, hb⟩
                have K305 := kp K304 hb
                clear hb K304
                go_wp2_with (first | (refine wpList_loadGg (by rfl) (.tmp 6) rfl rfl (rangeB (K305.out.k (g6, 23, tL Y M D 0 0 0) (by simp))) Tryd.underlying23 rfl infoTm ?_) | (refine wpList_loadGg (by rfl) (.tmp 5) rfl rfl (rangeB (K305.out.k (g5, 23, tL Y M D 0 0 0) (by simp))) Tryd.underlying23 rfl infoTm ?_))
                refine (rdays_at w305 (Y : Int) (M : Int) DM HDM.out).mono ?_
                rintro e w306 ⟨rfl, hb⟩
                have K306 := kp K305 hb
                clear hb K305
                go_wp2_with fail
                refine (chk_at w306 (Y : Int) (M : Int) ((DM : Int) + 1) 0 0 0 HIM.out 1 HCO.out K306.out.t).mono ?_
                rintro e w307 ⟨rfl, hb⟩
                have K307 := kp K306 hb
                clear hb K306
                go_wp2_with fail
                exact ⟨⟨D + 1, N3 + 1, by omega, by have := HD.out; omega, HE.out, by go_num, by go_num, K307.out.bare⟩, by have := HD.out; simp [intOf]; omega⟩
          · obtain rfl : M = 13 := by omega
            have hmi : ¬ ((13 : Nat) : Int) < 13 := by omega
            have HE : Hid (N2 = dbT (Y + 1)) := Lib.hid (by
              have h1 := msT_12 (Y : Int)
              have h2 := dbT_succ Y
              have h3 : N2 = dbT Y + msT (Y : Int) 12 := hN2
              omega)
            clear hN2 hM1 hM2 hmge
            rw [show ((13 : Nat) : Int) = 13 from rfl]
            go_wp2_with fail
            exact ⟨⟨Y + 1, N2, by have := HY.out; omega, by have := HY.out; omega, HE.out, rfl, by go_num, K200.out⟩, by have := HY.out; simp [intOf]; omega⟩
      · obtain rfl : Y = 2003 := by omega
        have HE : Hid (N = 731581) := Lib.hid (by rw [hN]; rfl)
        clear hN hY1 hY2 hge
        rw [show ((2003 : Nat) : Int) = 2003 from rfl]
        go_wp2_with fail
        go_meet
        exact ⟨by rw [HE.out]; rfl, K100.out⟩
  case rest =>
    obtain ⟨rfl, hst⟩ := hcut
    have K2 := Lib.hid hst
    clear hst K1
    generalize wc = w2 at *
    have hne1 : ∀ W, (binOp .neq 23 (.agg (tL 9999 12 31 23 59 59).toArray) (.agg (tL 9999 12 31 23 59 59).toArray)).run Tryd.prog W = .ok (.bool false) W := fun W => neqTm 9999 12 31 23 59 59 W
    have hne2 : ∀ W, (binOp .neq 23 (.agg (tL 0 1 1 0 0 0).toArray) (.agg #[.int .i64 0, .int .i64 1, .int .i64 1, .int .i64 0, .int .i64 0, .int .i64 0])).run Tryd.prog W = .ok (.bool false) W := fun W => neqTm 0 1 1 0 0 0 W
    go_upto_region 17 with fail
    obtain ⟨g8, hg8⟩ : ∃ g, w2.heap.size = g := ⟨_, rfl⟩
    obtain ⟨w3, hw3⟩ : ∃ v, w2.alloc (.cells #[.int .i64 9999, .int .i64 12, .int .i64 31, .int .i64 23, .int .i64 59, .int .i64 59] 23) = v := ⟨_, rfl⟩
    have hbk : Hid (Bk w3 g8 23 (tL 9999 12 31 23 59 59)) := Lib.hid (by rw [← hw3, ← hg8]; exact Bk.new w2 _ (tL 9999 12 31 23 59 59))
    have hb : Hid (Below w2.heap.size w2 w3) := Lib.hid (by rw [← hw3]; exact bel1 w2 _)
    have GE_g8 : Hid (w.heap.size ≤ g8) := Lib.hid (by rw [← hg8]; exact K2.out.b.size)
    rw [hw3, hg8]
    have K3 := kp K2 hb
    clear hb K2
    have Kn := kb K3 hbk
    clear hbk K3 hg8 hw3
    have K3 := Kn
    clear Kn
    go_wp2_with (refine wpList_loadGg (by rfl) (.tmp 8) rfl rfl (rangeB (K3.out.k (g8, 23, tL 9999 12 31 23 59 59) (by simp))) Tryd.underlying23 rfl infoTm ?_)
    refine (secs_at w3 9999 12 31 23 59 59 (by decide +kernel) 315569519999 (by decide +kernel) K3.out.t).mono ?_
    rintro e w4 ⟨rfl, hb⟩
    have K4 := kp K3 hb
    clear hb K3
    go_wp2_with fail
    refine (at_at w4 315569519999 9999 12 31 23 59 59 (by decide +kernel) (by decide +kernel) K4.out.t).mono ?_
    rintro e w5 ⟨rfl, hb⟩
    have K5 := kp K4 hb
    clear hb K4
    go_upto_region 18 with fail
    obtain ⟨g9, hg9⟩ : ∃ g, w5.heap.size = g := ⟨_, rfl⟩
    obtain ⟨w6, hw6⟩ : ∃ v, w5.alloc (.cells #[.int .i64 9999, .int .i64 12, .int .i64 31, .int .i64 23, .int .i64 59, .int .i64 59] 23) = v := ⟨_, rfl⟩
    have hbk : Hid (Bk w6 g9 23 (tL 9999 12 31 23 59 59)) := Lib.hid (by rw [← hw6, ← hg9]; exact Bk.new w5 _ (tL 9999 12 31 23 59 59))
    have hb : Hid (Below w5.heap.size w5 w6) := Lib.hid (by rw [← hw6]; exact bel1 w5 _)
    have GE_g9 : Hid (w.heap.size ≤ g9) := Lib.hid (by rw [← hg9]; exact K5.out.b.size)
    rw [hw6, hg9]
    have K6 := kp K5 hb
    clear hb K5
    have Kn := kb K6 hbk
    clear hbk K6 hg9 hw6
    have K6 := Kn
    clear Kn
    go_wp2_with (refine wpList_loadGg (by rfl) (.tmp 8) rfl rfl (rangeB (K6.out.k (g8, 23, tL 9999 12 31 23 59 59) (by simp))) Tryd.underlying23 rfl infoTm ?_)
    refine (secs_at w6 9999 12 31 23 59 59 (by decide +kernel) 315569519999 (by decide +kernel) K6.out.t).mono ?_
    rintro e w7 ⟨rfl, hb⟩
    have K7 := kp K6 hb
    clear hb K6
    go_wp2_with fail
    refine (atb_at w7 315569520000 (by unfold I64; omega) (by omega)).mono ?_
    rintro e w8 ⟨rfl, hb⟩
    have K8 := kp K7 hb
    clear hb K7
    go_upto_region 19 with fail
    obtain ⟨g11, hg11⟩ : ∃ g, w8.heap.size = g := ⟨_, rfl⟩
    obtain ⟨w9, hw9⟩ : ∃ v, w8.alloc (.cells #[.int .i64 0, .int .i64 0, .int .i64 0, .int .i64 0, .int .i64 0, .int .i64 0] 23) = v := ⟨_, rfl⟩
    have hbk : Hid (Bk w9 g11 23 (tL 0 0 0 0 0 0)) := Lib.hid (by rw [← hw9, ← hg11]; exact Bk.new w8 _ (tL 0 0 0 0 0 0))
    have hb : Hid (Below w8.heap.size w8 w9) := Lib.hid (by rw [← hw9]; exact bel1 w8 _)
    have GE_g11 : Hid (w.heap.size ≤ g11) := Lib.hid (by rw [← hg11]; exact K8.out.b.size)
    rw [hw9, hg11]
    have K9 := kp K8 hb
    clear hb K8
    have Kn := kb K9 hbk
    clear hbk K9 hg11 hw9
    have K9 := Kn
    clear Kn
    go_wp2_with fail
    refine (at_at w9 0 0 1 1 0 0 0 (by decide +kernel) (by decide +kernel) K9.out.t).mono ?_
    rintro e w10 ⟨rfl, hb⟩
    have K10 := kp K9 hb
    clear hb K9
    go_upto_region 20 with fail
    obtain ⟨g13, hg13⟩ : ∃ g, w10.heap.size = g := ⟨_, rfl⟩
    obtain ⟨w11, hw11⟩ : ∃ v, w10.alloc (.cells #[.int .i64 0, .int .i64 1, .int .i64 1, .int .i64 0, .int .i64 0, .int .i64 0] 23) = v := ⟨_, rfl⟩
    have hbk : Hid (Bk w11 g13 23 (tL 0 1 1 0 0 0)) := Lib.hid (by rw [← hw11, ← hg13]; exact Bk.new w10 _ (tL 0 1 1 0 0 0))
    have hb : Hid (Below w10.heap.size w10 w11) := Lib.hid (by rw [← hw11]; exact bel1 w10 _)
    have GE_g13 : Hid (w.heap.size ≤ g13) := Lib.hid (by rw [← hg13]; exact K10.out.b.size)
    rw [hw11, hg13]
    have K11 := kp K10 hb
    clear hb K10
    have Kn := kb K11 hbk
    clear hbk K11 hg13 hw11
    have K11 := Kn
    clear Kn
    go_wp2_with (first | (refine wpList_loadGg (by rfl) (.tmp 9) rfl rfl (rangeB (K11.out.k (g9, 23, tL 9999 12 31 23 59 59) (by simp))) Tryd.underlying23 rfl infoTm ?_) | (refine wpList_loadGg (by rfl) (.tmp 8) rfl rfl (rangeB (K11.out.k (g8, 23, tL 9999 12 31 23 59 59) (by simp))) Tryd.underlying23 rfl infoTm ?_) | (refine wpList_loadGg (by rfl) (.tmp 13) rfl rfl (rangeB (K11.out.k (g13, 23, tL 0 1 1 0 0 0) (by simp))) Tryd.underlying23 rfl infoTm ?_))
    refine (secs_at w11 9999 12 31 23 59 59 (by decide +kernel) 315569519999 (by decide +kernel) K11.out.t).mono ?_
    rintro e w12 ⟨rfl, hb⟩
    have K12 := kp K11 hb
    clear hb K11
    go_upto_region 23 with fail
    obtain ⟨g15, hg15⟩ : ∃ g, w12.heap.size = g := ⟨_, rfl⟩
    obtain ⟨w13, hw13⟩ : ∃ v, w12.alloc (.cells #[.int .i64 0, .int .i64 1949, .int .i64 1950, .int .i64 1999, .int .i64 2000, .int .i64 2049, .int .i64 2050, .int .i64 9999] 3) = v := ⟨_, rfl⟩
    have hbk : Hid (Bk w13 g15 3 (csI ysL)) := Lib.hid (by rw [← hw13, ← hg15]; exact Bk.new w12 _ (csI ysL))
    have hb : Hid (Below w12.heap.size w12 w13) := Lib.hid (by rw [← hw13]; exact bel1 w12 _)
    have GE_g15 : Hid (w.heap.size ≤ g15) := Lib.hid (by rw [← hg15]; exact K12.out.b.size)
    rw [hw13, hg15]
    have K13 := kp K12 hb
    clear hb K12
    have Kn := kb K13 hbk
    clear hbk K13 hg15 hw13
    have K13 := Kn
    clear Kn
    have KU : Hid (St w [] [(g15, 3, csI ysL)] w13) := Lib.hid ⟨K13.out.b, K13.out.t, K13.out.r, fun x hx => K13.out.k x (by simp only [List.mem_cons, List.not_mem_nil, or_false] at hx ⊢; exact .inl hx)⟩
    clear K13
    have K13 := KU
    clear KU hne1 hne2
    go_upto_region 24 with fail
    obtain ⟨g16, hg16⟩ : ∃ g, w13.heap.size = g := ⟨_, rfl⟩
    obtain ⟨w14, hw14⟩ : ∃ v, w13.alloc (.cells #[.int .u32 24, .int .u32 24, .int .u32 23, .int .u32 23, .int .u32 23, .int .u32 23, .int .u32 24, .int .u32 24] 31) = v := ⟨_, rfl⟩
    have hbk : Hid (Bk w14 g16 31 (csU ksL)) := Lib.hid (by rw [← hw14, ← hg16]; exact Bk.new w13 _ (csU ksL))
    have hb : Hid (Below w13.heap.size w13 w14) := Lib.hid (by rw [← hw14]; exact bel1 w13 _)
    have GE_g16 : Hid (w.heap.size ≤ g16) := Lib.hid (by rw [← hg16]; exact K13.out.b.size)
    rw [hw14, hg16]
    have K14 := kp K13 hb
    clear hb K13
    have Kn := kb K14 hbk
    clear hbk K14 hg16 hw14
    have K14 := Kn
    clear Kn
    go_upto_block 6 with fail
    go_cut [17] (fun _ wx => St w [] [] wx)
    case first =>
      go_wp2_with fail
      go_loopw [17] (fun i wr => ∃ j : Nat, j ≤ 8 ∧ i = .int .i64 (j : Int) ∧ St w [] [(g16, 31, csU ksL), (g15, 3, csI ysL)] wr) (fun i _ => 8 - (intOf i).toNat)
      case atStart => exact ⟨0, Nat.zero_le _, rfl, K14.out⟩
      case round =>
        obtain ⟨j, hj, rfl, hst⟩ := hrel
        have K400 := Lib.hid hst
        clear hst K14
        generalize wr = w400 at *
        rcases Nat.lt_or_ge j 8 with hlt | hge
        · have hji : (j : Int) < 8 := by omega
          have hj0 : (0 : Int) ≤ (j : Int) := by omega
          have hyk := ys_at ⟨j, hlt⟩
          dsimp only at hyk
          have hcy : (csI ysL)[j]? = some (.int .i64 ((ysL.getD j 0 : Nat) : Int)) := by
            have hl : j < ysL.length := hlt
            rw [csI_get hl, List.getD_eq_getElem?_getD, List.getElem?_eq_getElem hl]; rfl
          have hck : (csU ksL)[j]? = some (.int .u32 ((ksL.getD j 0 : Nat) : Int)) := by
            have hl : j < ksL.length := hlt
            unfold csU
            rw [List.getElem?_map, List.getElem?_eq_getElem hl, List.getD_eq_getElem?_getD, List.getElem?_eq_getElem hl]; rfl
          obtain ⟨y, hy⟩ : ∃ y, ysL.getD j 0 = y := ⟨_, rfl⟩
          obtain ⟨k, hk⟩ : ∃ k, ksL.getD j 0 = k := ⟨_, rfl⟩
          rw [hy, hk] at hyk
          rw [hy] at hcy
          rw [hk] at hck
          have c15 : w400.cell? ⟨g15, j, none⟩ = some (.int .i64 (y : Int)) := by rw [(K400.out.k (g15, 3, csI ysL) (by simp)).cell]; exact hcy
          obtain ⟨l, hl⟩ : ∃ l, txtE k y 1 1 0 0 0 = l := ⟨_, rfl⟩
          obtain ⟨N, hN⟩ : ∃ N, l.length = N := ⟨_, rfl⟩
          have HYK := Lib.hid hyk
          have HL := Lib.hid hl
          have HN := Lib.hid hN
          have HCK := Lib.hid hck
          have HLT := Lib.hid hlt
          clear hyk hcy hck hy hk hl hN hj hlt
          go_wp2_with fail
          refine (elem_at w400 y 1 1 0 0 0 HYK.out.1 k HYK.out.2 l HL.out N HN.out K400.out.t).mono ?_
          rintro e w401 ⟨A, rfl, hr, hb⟩
          have K401 := kp K400 hb
          clear hb K400
          have Kn := ka K401 hr
          clear hr K401
          have K401 := Kn
          clear Kn
          clear c15
          go_upto_region 28 with fail
          obtain ⟨g18, hg18⟩ : ∃ g, w401.heap.size = g := ⟨_, rfl⟩
          obtain ⟨w402, hw402⟩ : ∃ v, w401.alloc (.cells #[.int .u8 0, .bool false, .int .u32 (k : Int), .slice A N N, .slice none 0 0] 37) = v := ⟨_, rfl⟩
          have hbk : Hid (Bk w402 g18 37 (elC k (.slice A N N))) := Lib.hid (by rw [← hw402, ← hg18]; exact Bk.new w401 _ (elC k (.slice A N N)))
          have hb : Hid (Below w401.heap.size w401 w402) := Lib.hid (by rw [← hw402]; exact bel1 w401 _)
          have GE_g18 : Hid (w.heap.size ≤ g18) := Lib.hid (by rw [← hg18]; exact K401.out.b.size)
          rw [hw402, hg18]
          have K402 := kp K401 hb
          clear hb K401
          have Kn := kb K402 hbk
          clear hbk K402 hg18 hw402
          have K402 := Kn
          clear Kn
          have c_g18_2 : w402.cell? ⟨g18, 2, none⟩ = some (.int .u32 (k : Int)) := by rw [(K402.out.k (g18, 37, elC k (.slice A N N)) (by simp)).cell]; rfl
          have c16 : w402.cell? ⟨g16, j, none⟩ = some (.int .u32 (k : Int)) := by rw [(K402.out.k (g16, 31, csU ksL) (by simp)).cell]; exact HCK.out
          have hkk : ((k : Int) != (k : Int)) = false := by simp
          have hb0 : Hid (Below w402.heap.size w402 w402.drew) := Lib.hid (Below.refl _ _).drew
          have KD := kp K402 hb0
          go_region_held3 (fun W => W.cell? ⟨g18, 2, none⟩ = some (.int .u32 (k : Int)) ∧ W.cell? ⟨g16, j, none⟩ = some (.int .u32 (k : Int))) (exact ⟨c_g18_2, c16⟩) (fail)
          go_wp2_with fail
          have hfin : St w [] [(g16, 31, csU ksL), (g15, 3, csI ysL)] w402.drew := ⟨KD.out.b, KD.out.t, fun _ h => absurd h (by simp), fun x hx => KD.out.k x (by simp only [List.mem_cons, List.not_mem_nil, or_false] at hx ⊢; exact .inr hx)⟩
          exact ⟨⟨j + 1, by have := HLT.out; omega, by go_num, hfin⟩, by have := HLT.out; simp [intOf]; omega⟩
        · obtain rfl : j = 8 := by omega
          rw [show ((8 : Nat) : Int) = 8 from rfl]
          clear hj hge
          go_wp2_with fail
          go_meet
          exact K400.out.bare
    case rest =>
      have K15 := Lib.hid hcut
      clear hcut K14
      generalize wc = w15 at *
      go_upto_region 31 with fail
      obtain ⟨g20, hg20⟩ : ∃ g, w15.heap.size = g := ⟨_, rfl⟩
      obtain ⟨g21, hg21⟩ : ∃ g, g20 + 1 = g := ⟨_, rfl⟩
      obtain ⟨w16, hw16⟩ : ∃ v, (w15.alloc (.cells #[.int .i64 1600, .int .i64 3, .int .i64 1, .int .i64 0, .int .i64 0, .int .i64 0] 23)).alloc (.cells #[.int .i64 2000, .int .i64 3, .int .i64 1, .int .i64 0, .int .i64 0, .int .i64 0] 23) = v := ⟨_, rfl⟩
      have hb : Hid (Below w15.heap.size w15 w16) := Lib.hid (by rw [← hw16]; exact (bel1 w15 _).alloc (by simp) _)
      have hk1 : Hid (Bk w16 g20 23 (tL 1600 3 1 0 0 0)) := Lib.hid (by rw [← hw16, ← hg20]; exact (Bk.new w15 23 (tL 1600 3 1 0 0 0)).alloc _)
      have hk2 : Hid (Bk w16 g21 23 (tL 2000 3 1 0 0 0)) := Lib.hid (by
        rw [← hw16, ← hg21, ← hg20]
        have := Bk.new (w15.alloc (.cells (tL 1600 3 1 0 0 0).toArray 23)) 23 (tL 2000 3 1 0 0 0)
        rwa [World.size_alloc] at this)
      rw [hw16, hg20, hg21]
      have K16 := kb (kb (kp K15 hb) hk1) hk2
      clear hb hk1 hk2 hw16 hg20 hg21 K15
      have hwz : IntKind.i64.wrap 12622780800 = 12622780800 := by rw [IntKind.wrap_i64]; omega
      have hdr : Hid (Below w16.heap.size w16 w16.drew) := Lib.hid (Below.refl _ _).drew
      have KD := kp K16 hdr
      clear K16 hdr
      refine wp_region_held_drew (S := fun W => Bk W g20 23 (tL 1600 3 1 0 0 0) ∧ Bk W g21 23 (tL 2000 3 1 0 0 0)) (by kernel_rfl) (⟨KD.out.k (g20, 23, tL 1600 3 1 0 0 0) (by simp), KD.out.k (g21, 23, tL 2000 3 1 0 0 0) (by simp)⟩) (fun hS => ?_)
      generalize w16.drew = w17 at *
      have K17 := KD
      clear KD
      refine wpAnyH_take (i := 0) (oi := ⟨some 151, _, _, _, _, _⟩) (v := .agg (tL 2000 3 1 0 0 0).toArray) rfl (by kernel_rfl) (by kernel_rfl) (by kernel_rfl) (fun _ _ _ h => h) (yieldsIf_load_mid (by rfl) 23 (.tmp 21) rfl g21 0 rfl (tL 2000 3 1 0 0 0) _ (fun W h => rangeB h.2) Tryd.underlying23 rfl infoTm) hS ?_
      (try simp only [Act.put, List.setIfInBounds_toArray, List.set_cons_zero, List.set_cons_succ])
      refine wpAnyH_take (i := 2) (oi := ⟨some 153, _, _, _, _, _⟩) (v := .agg (tL 1600 3 1 0 0 0).toArray) rfl (by kernel_rfl) (by kernel_rfl) (by kernel_rfl) (fun _ _ _ h => h) (yieldsIf_load_mid (by rfl) 23 (.tmp 20) rfl g20 0 rfl (tL 1600 3 1 0 0 0) _ (fun W h => rangeB h.1) Tryd.underlying23 rfl infoTm) hS ?_
      (try simp only [Act.put, List.setIfInBounds_toArray, List.set_cons_zero, List.set_cons_succ])
      refine wpAnyH_ready (rs := [1]) (by kernel_rfl) (by simp) ?_
      refine AllReadyH.cons (o := _) rfl (fun K hK => ?_) (AllReadyH.nil)
      go_simp
      refine (secs_at w17 2000 3 1 0 0 0 (by decide +kernel) 63119088000 (by decide +kernel) K17.out.t).mono ?_
      rintro e w18 ⟨rfl, hb⟩
      have K18 := kp K17 hb
      clear hb K17
      go_simp
      refine hK.out _ _ (⟨K18.out.k (g20, 23, tL 1600 3 1 0 0 0) (by simp), K18.out.k (g21, 23, tL 2000 3 1 0 0 0) (by simp)⟩) (fun hS => ?_)
      clear hK K
      (try simp only [Act.put, List.setIfInBounds_toArray, List.set_cons_zero, List.set_cons_succ])
      refine wpAnyH_ready (rs := [3]) (by kernel_rfl) (by simp) ?_
      refine AllReadyH.cons (o := _) rfl (fun K hK => ?_) (AllReadyH.nil)
      go_simp
      refine (secs_at w18 1600 3 1 0 0 0 (by decide +kernel) 50496307200 (by decide +kernel) K18.out.t).mono ?_
      rintro e w19 ⟨rfl, hb⟩
      have K19 := kp K18 hb
      clear hb K18
      go_simp
      refine hK.out _ _ (⟨K19.out.k (g20, 23, tL 1600 3 1 0 0 0) (by simp), K19.out.k (g21, 23, tL 2000 3 1 0 0 0) (by simp)⟩) (fun hS => ?_)
      clear hK K
      (try simp only [Act.put, List.setIfInBounds_toArray, List.set_cons_zero, List.set_cons_succ])
      refine wpAnyH_take (i := 4) (oi := ⟨some 155, _, _, _, _, _⟩) (v := .int .i64 12622780800) rfl (by kernel_rfl) (by kernel_rfl) (by kernel_rfl) (fun _ _ _ h => h) (Or.inl ⟨by rfl, fun w hSw => by (try dsimp only at hSw); go_simp⟩) hS ?_
      simp only [Act.put, List.setIfInBounds_toArray, List.set_cons_zero, List.set_cons_succ]
      refine wpAnyH_take (i := 5) (oi := ⟨some 156, _, _, _, _, _⟩) (v := .bool true) rfl (by kernel_rfl) (by kernel_rfl) (by kernel_rfl) (fun _ _ _ h => h) (Or.inl ⟨by rfl, fun w hSw => by (try dsimp only at hSw); go_simp⟩) hS ?_
      simp only [Act.put, List.setIfInBounds_toArray, List.set_cons_zero, List.set_cons_succ]
      refine wpAnyH_take (i := 6) (oi := ⟨some 157, _, _, _, _, _⟩) (v := .bool true) rfl (by kernel_rfl) (by kernel_rfl) (by kernel_rfl) (fun _ _ _ h => h) (Or.inl ⟨by rfl, fun w hSw => by (try dsimp only at hSw); go_simp⟩) hS ?_
      simp only [Act.put, List.setIfInBounds_toArray, List.set_cons_zero, List.set_cons_succ]
      refine wpAnyH_ready (rs := [7]) (by kernel_rfl) (by simp) ?_
      refine AllReadyH.cons (o := _) rfl (fun K hK => ?_) (AllReadyH.nil)
      go_simp
      refine (leap_at w19 (-400) true (by decide +kernel)).mono ?_
      rintro e w20 ⟨rfl, hb⟩
      have K20 := kp K19 hb
      clear hb K19
      go_simp
      refine hK.out _ _ (⟨K20.out.k (g20, 23, tL 1600 3 1 0 0 0) (by simp), K20.out.k (g21, 23, tL 2000 3 1 0 0 0) (by simp)⟩) (fun hS => ?_)
      clear hK K
      (try simp only [Act.put, List.setIfInBounds_toArray, List.set_cons_zero, List.set_cons_succ])
      refine wpAnyH_take (i := 8) (oi := ⟨some 159, _, _, _, _, _⟩) (v := .bool true) rfl (by kernel_rfl) (by kernel_rfl) (by kernel_rfl) (fun _ _ _ h => h) (Or.inl ⟨by rfl, fun w hSw => by (try dsimp only at hSw); go_simp⟩) hS ?_
      simp only [Act.put, List.setIfInBounds_toArray, List.set_cons_zero, List.set_cons_succ]
      refine wpAnyH_take (i := 9) (oi := ⟨some 160, _, _, _, _, _⟩) (v := .bool true) rfl (by kernel_rfl) (by kernel_rfl) (by kernel_rfl) (fun _ _ _ h => h) (Or.inl ⟨by rfl, fun w hSw => by (try dsimp only at hSw); go_simp⟩) hS ?_
      simp only [Act.put, List.setIfInBounds_toArray, List.set_cons_zero, List.set_cons_succ]
      refine wpAnyH_ready (rs := [10]) (by kernel_rfl) (by simp) ?_
      refine AllReadyH.cons (o := _) rfl (fun K hK => ?_) (AllReadyH.nil)
      go_simp
      refine (leap_at w20 (-100) false (by decide +kernel)).mono ?_
      rintro e w21 ⟨rfl, hb⟩
      have K21 := kp K20 hb
      clear hb K20
      go_simp
      refine hK.out _ _ (⟨K21.out.k (g20, 23, tL 1600 3 1 0 0 0) (by simp), K21.out.k (g21, 23, tL 2000 3 1 0 0 0) (by simp)⟩) (fun hS => ?_)
      clear hK K
      (try simp only [Act.put, List.setIfInBounds_toArray, List.set_cons_zero, List.set_cons_succ])
      refine wpAnyH_take (i := 11) (oi := ⟨some 162, _, _, _, _, _⟩) (v := .bool true) rfl (by kernel_rfl) (by kernel_rfl) (by kernel_rfl) (fun _ _ _ h => h) (Or.inl ⟨by rfl, fun w hSw => by (try dsimp only at hSw); go_simp⟩) hS ?_
      simp only [Act.put, List.setIfInBounds_toArray, List.set_cons_zero, List.set_cons_succ]
      refine wpAnyH_take (i := 12) (oi := ⟨some 163, _, _, _, _, _⟩) (v := .bool true) rfl (by kernel_rfl) (by kernel_rfl) (by kernel_rfl) (fun _ _ _ h => h) (Or.inl ⟨by rfl, fun w hSw => by (try dsimp only at hSw); go_simp⟩) hS ?_
      simp only [Act.put, List.setIfInBounds_toArray, List.set_cons_zero, List.set_cons_succ]
      refine wpAnyH_take (i := 13) (oi := ⟨some 164, _, _, _, _, _⟩) (v := .bool true) rfl (by kernel_rfl) (by kernel_rfl) (by kernel_rfl) (fun _ _ _ h => h) (Or.inl ⟨by rfl, fun w hSw => by (try dsimp only at hSw); go_simp⟩) hS ?_
      simp only [Act.put, List.setIfInBounds_toArray, List.set_cons_zero, List.set_cons_succ]
      refine wpAnyH_ready (rs := [14]) (by kernel_rfl) (by simp) ?_
      refine AllReadyH.cons (o := _) rfl (fun K hK => ?_) (AllReadyH.nil)
      go_simp
      refine (leap_at w21 (-4) true (by decide +kernel)).mono ?_
      rintro e w22 ⟨rfl, hb⟩
      have K22 := kp K21 hb
      clear hb K21
      go_simp
      refine hK.out _ _ (⟨K22.out.k (g20, 23, tL 1600 3 1 0 0 0) (by simp), K22.out.k (g21, 23, tL 2000 3 1 0 0 0) (by simp)⟩) (fun hS => ?_)
      clear hK K
      (try simp only [Act.put, List.setIfInBounds_toArray, List.set_cons_zero, List.set_cons_succ])
      refine wpAnyH_take (i := 15) (oi := ⟨some 166, _, _, _, _, _⟩) (v := .bool true) rfl (by kernel_rfl) (by kernel_rfl) (by kernel_rfl) (fun _ _ _ h => h) (Or.inl ⟨by rfl, fun w hSw => by (try dsimp only at hSw); go_simp⟩) hS ?_
      simp only [Act.put, List.setIfInBounds_toArray, List.set_cons_zero, List.set_cons_succ]
      refine wpAnyH_take (i := 16) (oi := ⟨some 167, _, _, _, _, _⟩) (v := .bool true) rfl (by kernel_rfl) (by kernel_rfl) (by kernel_rfl) (fun _ _ _ h => h) (Or.inl ⟨by rfl, fun w hSw => by (try dsimp only at hSw); go_simp⟩) hS ?_
      simp only [Act.put, List.setIfInBounds_toArray, List.set_cons_zero, List.set_cons_succ]
      refine wpAnyH_ready (rs := [17]) (by kernel_rfl) (by simp) ?_
      refine AllReadyH.cons (o := _) rfl (fun K hK => ?_) (AllReadyH.nil)
      go_simp
      refine (days_at w22 (-9223372036854775808) 2 (by unfold I64; omega) 29 (by decide +kernel) K22.out.t).mono ?_
      rintro e w23 ⟨rfl, hb⟩
      have K23 := kp K22 hb
      clear hb K22
      go_simp
      refine hK.out _ _ (⟨K23.out.k (g20, 23, tL 1600 3 1 0 0 0) (by simp), K23.out.k (g21, 23, tL 2000 3 1 0 0 0) (by simp)⟩) (fun hS => ?_)
      clear hK K
      (try simp only [Act.put, List.setIfInBounds_toArray, List.set_cons_zero, List.set_cons_succ])
      refine wpAnyH_take (i := 18) (oi := ⟨some 169, _, _, _, _, _⟩) (v := .bool true) rfl (by kernel_rfl) (by kernel_rfl) (by kernel_rfl) (fun _ _ _ h => h) (Or.inl ⟨by rfl, fun w hSw => by (try dsimp only at hSw); go_simp⟩) hS ?_
      simp only [Act.put, List.setIfInBounds_toArray, List.set_cons_zero, List.set_cons_succ]
      refine wpAnyH_take (i := 19) (oi := ⟨some 170, _, _, _, _, _⟩) (v := .bool true) rfl (by kernel_rfl) (by kernel_rfl) (by kernel_rfl) (fun _ _ _ h => h) (Or.inl ⟨by rfl, fun w hSw => by (try dsimp only at hSw); go_simp⟩) hS ?_
      simp only [Act.put, List.setIfInBounds_toArray, List.set_cons_zero, List.set_cons_succ]
      refine wpAnyH_take (i := 20) (oi := ⟨some 171, _, _, _, _, _⟩) (v := .bool true) rfl (by kernel_rfl) (by kernel_rfl) (by kernel_rfl) (fun _ _ _ h => h) (Or.inl ⟨by rfl, fun w hSw => by (try dsimp only at hSw); go_simp⟩) hS ?_
      simp only [Act.put, List.setIfInBounds_toArray, List.set_cons_zero, List.set_cons_succ]
      refine wpAnyH_ready (rs := [21]) (by kernel_rfl) (by simp) ?_
      refine AllReadyH.cons (o := _) rfl (fun K hK => ?_) (AllReadyH.nil)
      go_simp
      refine (lives_at w23 K23.out.t).mono ?_
      rintro e w24 ⟨rfl, hb⟩
      have K24 := kp K23 hb
      clear hb K23
      go_simp
      refine hK.out _ _ (⟨K24.out.k (g20, 23, tL 1600 3 1 0 0 0) (by simp), K24.out.k (g21, 23, tL 2000 3 1 0 0 0) (by simp)⟩) (fun hS => ?_)
      clear hK K
      (try simp only [Act.put, List.setIfInBounds_toArray, List.set_cons_zero, List.set_cons_succ])
      refine wpAnyH_take (i := 22) (oi := ⟨some 173, _, _, _, _, _⟩) (v := .bool true) rfl (by kernel_rfl) (by kernel_rfl) (by kernel_rfl) (fun _ _ _ h => h) (Or.inl ⟨by rfl, fun w hSw => by (try dsimp only at hSw); go_simp⟩) hS ?_
      simp only [Act.put, List.setIfInBounds_toArray, List.set_cons_zero, List.set_cons_succ]
      refine wpAnyH_take (i := 23) (oi := ⟨some 0, _, _, _, _, _⟩) (v := .bool true) rfl (by kernel_rfl) (by kernel_rfl) (by kernel_rfl) (fun _ _ _ h => h) (Or.inl ⟨by rfl, fun w hSw => by (try dsimp only at hSw); go_simp⟩) hS ?_
      simp only [Act.put, List.setIfInBounds_toArray, List.set_cons_zero]
      refine wpAnyH_done (by kernel_rfl) ?_ _
      clear hS
      go_wp2_with fail
      go_ret
      exact ⟨rfl, K24.out.b⟩

open Go.ChangeShapes Go.WideShapes Go.ChangeAt Go.WideMaps Go.WideElems
set_option maxRecDepth 100000 in
theorem timesKnown_lifted (os : Os) (started : os.Started) (H : Type) (enc : TypeId × Value → H) :
    ReturnsInHanded {} Tryd.checked os 9 .any (fun w args => (Rows.timesKnownSpec.pre enc Tryd.prog Tryd.f9 [] false w args ∧ laidMetH Tryd.prog laidL w) ∧ sizedMet enc Tryd.prog Tryd.f9 (OpenSpec.ofChange Rows.timesKnownSpec) false w args)
      (Rows.timesKnownSpec.post enc Tryd.prog Tryd.f9 false true false false) := by
  refine returnsInHanded_of_change_and (C := Tryd.checked) (X := fun w _ => laidMetH Tryd.prog laidL w) (fun _ _ _ hh h => h.of_heap hh) x_own started (by kernel_rfl) Tryd.func9
    (ChangeSpec.witness_shaped (enc := enc) (C := Tryd.checked) (os := os) (X := fun w _ => laidMetH Tryd.prog laidL w) false (World.laidAll Tryd.prog os laidL) #[] 8 (World.laidAll_os _ _ _) (World.shaped_of_ZipB (by kernel_rfl) (by kernel_rfl)) (by kernel_rfl) (by kernel_rfl) (by kernel_rfl) (door_met os _)) ?_
  intro W base args ds gs before hval0 hW _ _ hL _
  have hval : ∀ (j : Nat) t v, Tryd.f9.params[j]? = some t → args[j]? = some v → Value.okWide Tryd.prog W .any base t v := hval0
  have hW' := hW
  obtain ⟨p, q, hA0, hV, rfl, hfz, hnd⟩ := hW
  have hA : DataW.TrodAll enc Tryd.prog W 0 (fun _ => true) true Tryd.f9.params.toList args.toList ds p := hA0
  rw [Tryd.params9] at hA hval
  obtain ⟨rfl, rfl, rfl⟩ := trodAll_none hA
  obtain ⟨rfl, rfl⟩ := trodVars_none hV
  have hE := of_laid hL
  clear hA0 hval0
  simp only [List.append_nil] at hW'
  refine (known_walk W hE).mono fun e W' ⟨he, hb⟩ => ?_
  subst he
  exact ⟨_, rfl, law_post (tb := 4) x_laid (by decide +kernel) rfl rfl (by kernel_rfl) Tryd.underlying4 hW' hb⟩

/-- The row's statement. -/
theorem timesKnown_row : Rows.TimesKnownSaid :=
  OpenClaim.holds_of_wide 9 Tryd.f9 rfl rfl rfl rfl rfl rfl rfl ⟨rfl, rfl, rfl, rfl, rfl⟩ rfl rfl rfl rfl rfl (by kernel_rfl) Tryd.func9 (by kernel_rfl)
    (of_decide_eq_true (by kernel_rfl)) (by unfold Func.isWrapper; first | (rw [if_pos (by decide +kernel)]; kernel_rfl) | (rw [if_neg (by decide +kernel)]; exact ⟨rfl, rfl⟩))
    (fun os started H enc _ => timesKnown_lifted os started H enc)

/-- The statement: the card. -/
theorem timesKnown_holds : Rows.TimesKnownCardSaid :=
  Claim7.holds_tied_plain_at .later [] [.data] true Rows.timesKnownCard.stood.harness Rows.timesKnownCard.stood.looks
    timesKnown_row (fun _ h => by cases h) (by kernel_rfl) (fun _ h => by cases h) timesKnown_row_tie rfl ⟨rfl, rfl⟩ (by kernel_rfl) rfl
    (fun f fn hf hfn => by
      obtain rfl : f = 9 := Option.some.inj ((show Tryd.prog.funcNamed "vidimus/vidimuslaw10.TimesKnown" = some 9 by kernel_rfl).symm.trans hf) |>.symm
      obtain rfl : fn = Tryd.f9 := (Option.some.inj (Tryd.func9.symm.trans hfn)).symm
      exact ⟨by kernel_rfl, fun j t ht => by
        rw [Tryd.params9] at ht
        exact absurd ht (by simp)⟩)
    (by kernel_rfl)
end Go.Proofs.YtecmgkmonehmfaaDoor.Tim
