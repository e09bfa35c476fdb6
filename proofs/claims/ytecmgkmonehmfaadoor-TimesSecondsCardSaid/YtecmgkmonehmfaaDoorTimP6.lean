/-
  Layer 10, the statement TimesSeconds: Seconds returns the number of the definition, and At inverts it; numbers of no time are refused; the examples hold.
  Conditions: the package-level variables that the row lists hold what the program's text lays (the card ties them).
-/
import Derived.Test.YtecmgkmonehmfaaDoorTimLi
import Derived.Test.YtecmgkmonehmfaaDoorTimRw
namespace Go.Proofs.YtecmgkmonehmfaaDoor.Tim
open Go.RowKit Go.Shelf

set_option linter.unusedSimpArgs false in
set_option linter.unusedVariables false in
set_option maxHeartbeats 6400000 in
set_option maxRecDepth 100000 in
theorem seconds_walk (a b c d e f : Nat) (hr : PtR a b c d e f) (z : Int) (hz : I64 z) (w : World) (hT : Env w) :
    Calls Tryd.prog 8 #[.agg (ptL a b c d e f).toArray, .int .i64 z] w fun x w' => x = .returned (.bool true) ∧ Below w.heap.size w w' := by
  have Z : ∀ w : World, (zeroValue 23).run Tryd.prog w = .ok (.agg #[.int .i64 0, .int .i64 0, .int .i64 0, .int .i64 0, .int .i64 0, .int .i64 0]) w := zTm
  have K0 := Lib.hid (St.start hT)
  obtain ⟨y, hy⟩ : ∃ y, a % 10000 = y := ⟨_, rfl⟩
  obtain ⟨m, hm⟩ : ∃ m, 1 + b % 12 = m := ⟨_, rfl⟩
  obtain ⟨dd, hdd⟩ : ∃ dd, ofD a b c = dd := ⟨_, rfl⟩
  obtain ⟨h, hh⟩ : ∃ h, d % 24 = h := ⟨_, rfl⟩
  obtain ⟨mi, hmi⟩ : ∃ mi, e % 60 = mi := ⟨_, rfl⟩
  obtain ⟨s, hs⟩ : ∃ s, f % 60 = s := ⟨_, rfl⟩
  have hc : ck y m dd h mi s = 0 := by have := of_ck a b c d e f; rwa [hy, hm, hdd, hh, hmi, hs] at this
  obtain ⟨n, hn⟩ : ∃ n, ssT y m dd h mi s = n := ⟨_, rfl⟩
  have HR := Lib.hid hr
  have HL := Lib.hid (And.intro hy (And.intro hm (And.intro hdd (And.intro hh (And.intro hmi hs)))))
  have HC := Lib.hid hc
  have HN := Lib.hid hn
  have HZ := Lib.hid hz
  have hne : ∀ W, (binOp .neq 23 (.agg (tL y m dd h mi s).toArray) (.agg (tL y m dd h mi s).toArray)).run Tryd.prog W = .ok (.bool false) W := fun W => neqTm y m dd h mi s W
  have heq0 : ∀ W, (binOp .eql 23 (.agg (tL 0 0 0 0 0 0).toArray) (.agg #[.int .i64 0, .int .i64 0, .int .i64 0, .int .i64 0, .int .i64 0, .int .i64 0])).run Tryd.prog W = .ok (.bool true) W := fun W => eqlTs 0 0 0 0 0 0 W
  clear hr hT hy hm hdd hh hmi hs hc hn hz
  go_enter Tryd.func8, Tryd.ntmps8
  go_upto_region 1 with fail
  obtain ⟨g2, hg2⟩ : ∃ g, w.heap.size = g := ⟨_, rfl⟩
  obtain ⟨w1, hw1⟩ : ∃ v, w.alloc (.cells (ptL a b c d e f).toArray 44) = v := ⟨_, rfl⟩
  have hbk : Hid (Bk w1 g2 44 (ptL a b c d e f)) := Lib.hid (by rw [← hw1, ← hg2]; exact Bk.new w _ (ptL a b c d e f))
  have hb : Hid (Below w.heap.size w w1) := Lib.hid (by rw [← hw1]; exact bel1 w _)
  have GE_g2 : Hid (w.heap.size ≤ g2) := Lib.hid (by rw [← hg2]; exact K0.out.b.size)
  rw [hw1, hg2]
  have K1 := kp K0 hb
  clear hb K0
  have Kn := kb K1 hbk
  clear hbk K1 hg2 hw1
  have K1 := Kn
  clear Kn
  go_wp2_with (refine wpList_loadGg (by rfl) (.tmp 2) rfl rfl (rangeB (K1.out.k (g2, 44, ptL a b c d e f) (by simp))) Tryd.underlying44 rfl infoPt ?_)
  refine (tof_at w1 a b c d e f HR.out y m dd h mi s HL.out.1 HL.out.2.1 HL.out.2.2.1 HL.out.2.2.2.1 HL.out.2.2.2.2.1 HL.out.2.2.2.2.2).mono ?_
  rintro e w2 ⟨rfl, hb⟩
  have K2 := kp K1 hb
  clear hb K1
  go_upto_region 2 with fail
  obtain ⟨g5, hg5⟩ : ∃ g, w2.heap.size = g := ⟨_, rfl⟩
  obtain ⟨w3, hw3⟩ : ∃ v, w2.alloc (.cells #[.int .i64 (y : Int), .int .i64 (m : Int), .int .i64 (dd : Int), .int .i64 (h : Int), .int .i64 (mi : Int), .int .i64 (s : Int)] 23) = v := ⟨_, rfl⟩
  have hbk : Hid (Bk w3 g5 23 (tL y m dd h mi s)) := Lib.hid (by rw [← hw3, ← hg5]; exact Bk.new w2 _ (tL y m dd h mi s))
  have hb : Hid (Below w2.heap.size w2 w3) := Lib.hid (by rw [← hw3]; exact bel1 w2 _)
  have GE_g5 : Hid (w.heap.size ≤ g5) := Lib.hid (by rw [← hg5]; exact K2.out.b.size)
  rw [hw3, hg5]
  have K3 := kp K2 hb
  clear hb K2
  have Kn := kb K3 hbk
  clear hbk K3 hg5 hw3
  have K3 := Kn
  clear Kn
  go_wp2_with (refine wpList_loadGg (by rfl) (.tmp 5) rfl rfl (rangeB (K3.out.k (g5, 23, tL y m dd h mi s) (by simp))) Tryd.underlying23 rfl infoTm ?_)
  refine (rsecs_at w3 y m dd h mi s HC.out n HN.out).mono ?_
  rintro e w4 ⟨rfl, hb⟩
  have K4 := kp K3 hb
  clear hb K3
  go_wp2_with fail
  refine (at_at w4 n y m dd h mi s HC.out HN.out K4.out.t).mono ?_
  rintro e w5 ⟨rfl, hb⟩
  have K5 := kp K4 hb
  clear hb K4
  go_upto_region 4 with fail
  obtain ⟨g7, hg7⟩ : ∃ g, w5.heap.size = g := ⟨_, rfl⟩
  obtain ⟨w6, hw6⟩ : ∃ v, w5.alloc (.cells #[.int .i64 (y : Int), .int .i64 (m : Int), .int .i64 (dd : Int), .int .i64 (h : Int), .int .i64 (mi : Int), .int .i64 (s : Int)] 23) = v := ⟨_, rfl⟩
  have hbk : Hid (Bk w6 g7 23 (tL y m dd h mi s)) := Lib.hid (by rw [← hw6, ← hg7]; exact Bk.new w5 _ (tL y m dd h mi s))
  have hb : Hid (Below w5.heap.size w5 w6) := Lib.hid (by rw [← hw6]; exact bel1 w5 _)
  have GE_g7 : Hid (w.heap.size ≤ g7) := Lib.hid (by rw [← hg7]; exact K5.out.b.size)
  rw [hw6, hg7]
  have K6 := kp K5 hb
  clear hb K5
  have Kn := kb K6 hbk
  clear hbk K6 hg7 hw6
  have K6 := Kn
  clear Kn
  go_wp2_with (refine wpList_loadGg (by rfl) (.tmp 5) rfl rfl (rangeB (K6.out.k (g5, 23, tL y m dd h mi s) (by simp))) Tryd.underlying23 rfl infoTm ?_)
  refine (secs_at w6 y m dd h mi s HC.out n HN.out K6.out.t).mono ?_
  rintro e w7 ⟨rfl, hb⟩
  have K7 := kp K6 hb
  clear hb K6
  by_cases hb : z < 0 ∨ 315569520000 ≤ z
  · have HB := Lib.hid hb
    clear hb
    go_wp2_with (first | (refine wpList_loadGg (by rfl) (.tmp 7) rfl rfl (rangeB (K7.out.k (g7, 23, tL y m dd h mi s) (by simp))) Tryd.underlying23 rfl infoTm ?_) | (refine wpList_loadGg (by rfl) (.tmp 5) rfl rfl (rangeB (K7.out.k (g5, 23, tL y m dd h mi s) (by simp))) Tryd.underlying23 rfl infoTm ?_))
    refine (atb_at w7 z HZ.out HB.out).mono ?_
    rintro e w8 ⟨rfl, hb⟩
    have K8 := kp K7 hb
    clear hb K7
    go_upto_region 7 with fail
    obtain ⟨g9, hg9⟩ : ∃ g, w8.heap.size = g := ⟨_, rfl⟩
    obtain ⟨w9, hw9⟩ : ∃ v, w8.alloc (.cells #[.int .i64 0, .int .i64 0, .int .i64 0, .int .i64 0, .int .i64 0, .int .i64 0] 23) = v := ⟨_, rfl⟩
    have hbk : Hid (Bk w9 g9 23 (tL 0 0 0 0 0 0)) := Lib.hid (by rw [← hw9, ← hg9]; exact Bk.new w8 _ (tL 0 0 0 0 0 0))
    have hb : Hid (Below w8.heap.size w8 w9) := Lib.hid (by rw [← hw9]; exact bel1 w8 _)
    have GE_g9 : Hid (w.heap.size ≤ g9) := Lib.hid (by rw [← hg9]; exact K8.out.b.size)
    rw [hw9, hg9]
    have K9 := kp K8 hb
    clear hb K8
    have Kn := kb K9 hbk
    clear hbk K9 hg9 hw9
    have K9 := Kn
    clear Kn
    have hcs : decide (z < 0) = true ∨ (decide (z < 0) = false ∧ decide (315569520000 ≤ z) = true) := by
      have := HB.out
      rw [decide_eq_true_eq, decide_eq_false_iff_not, decide_eq_true_eq]; omega
    rcases hcs with e1 | ⟨e1, e2⟩
    · go_wp2_with (refine wpList_loadGg (by rfl) (.tmp 9) rfl rfl (rangeB (K9.out.k (g9, 23, tL 0 0 0 0 0 0) (by simp))) Tryd.underlying23 rfl infoTm ?_)
      refine (lives_at w9 K9.out.t).mono ?_
      rintro e w10 ⟨rfl, hb⟩
      have K10 := kp K9 hb
      clear hb K9
      go_wp2_with fail
      go_ret
      exact ⟨rfl, K10.out.b⟩
    · go_wp2_with (refine wpList_loadGg (by rfl) (.tmp 9) rfl rfl (rangeB (K9.out.k (g9, 23, tL 0 0 0 0 0 0) (by simp))) Tryd.underlying23 rfl infoTm ?_)
      refine (lives_at w9 K9.out.t).mono ?_
      rintro e w10 ⟨rfl, hb⟩
      have K10 := kp K9 hb
      clear hb K9
      go_wp2_with fail
      go_ret
      exact ⟨rfl, K10.out.b⟩
  · have hz0 : decide (z < 0) = false := by rw [decide_eq_false_iff_not]; omega
    have hz1 : decide (315569520000 ≤ z) = false := by rw [decide_eq_false_iff_not]; omega
    obtain ⟨p, hp⟩ : ∃ p : Nat, z = p := ⟨z.toNat, by omega⟩
    have HP : Hid (p < 315569520000) := Lib.hid (by omega)
    subst hp
    clear hb
    go_wp2_with (first | (refine wpList_loadGg (by rfl) (.tmp 7) rfl rfl (rangeB (K7.out.k (g7, 23, tL y m dd h mi s) (by simp))) Tryd.underlying23 rfl infoTm ?_) | (refine wpList_loadGg (by rfl) (.tmp 5) rfl rfl (rangeB (K7.out.k (g5, 23, tL y m dd h mi s) (by simp))) Tryd.underlying23 rfl infoTm ?_))
    refine (ata_at w7 p HP.out K7.out.t).mono ?_
    rintro e w8 ⟨y1, m1, d1, h1, i1, s1, rfl, hq, hb⟩
    have K8 := kp K7 hb
    clear hb K7
    go_upto_region 7 with fail
    obtain ⟨g9, hg9⟩ : ∃ g, w8.heap.size = g := ⟨_, rfl⟩
    obtain ⟨w9, hw9⟩ : ∃ v, w8.alloc (.cells #[.int .i64 (y1 : Int), .int .i64 (m1 : Int), .int .i64 (d1 : Int), .int .i64 (h1 : Int), .int .i64 (i1 : Int), .int .i64 (s1 : Int)] 23) = v := ⟨_, rfl⟩
    have hbk : Hid (Bk w9 g9 23 (tL y1 m1 d1 h1 i1 s1)) := Lib.hid (by rw [← hw9, ← hg9]; exact Bk.new w8 _ (tL y1 m1 d1 h1 i1 s1))
    have hb : Hid (Below w8.heap.size w8 w9) := Lib.hid (by rw [← hw9]; exact bel1 w8 _)
    have GE_g9 : Hid (w.heap.size ≤ g9) := Lib.hid (by rw [← hg9]; exact K8.out.b.size)
    rw [hw9, hg9]
    have K9 := kp K8 hb
    clear hb K8
    have Kn := kb K9 hbk
    clear hbk K9 hg9 hw9
    have K9 := Kn
    clear Kn
    go_wp2_with (refine wpList_loadGg (by rfl) (.tmp 9) rfl rfl (rangeB (K9.out.k (g9, 23, tL y1 m1 d1 h1 i1 s1) (by simp))) Tryd.underlying23 rfl infoTm ?_)
    refine (chk_at w9 y1 m1 d1 h1 i1 s1 (by have := ck_nat hq.out.1; unfold I64; omega) 0 hq.out.1 K9.out.t).mono ?_
    rintro e w10 ⟨rfl, hb⟩
    have K10 := kp K9 hb
    clear hb K9
    go_wp2_with (refine wpList_loadGg (by rfl) (.tmp 9) rfl rfl (rangeB (K10.out.k (g9, 23, tL y1 m1 d1 h1 i1 s1) (by simp))) Tryd.underlying23 rfl infoTm ?_)
    refine (rsecs_at w10 y1 m1 d1 h1 i1 s1 hq.out.1 p hq.out.2).mono ?_
    rintro e w11 ⟨rfl, hb⟩
    have K11 := kp K10 hb
    clear hb K10
    go_wp2_with fail
    refine (lives_at w11 K11.out.t).mono ?_
    rintro e w12 ⟨rfl, hb⟩
    have K12 := kp K11 hb
    clear hb K11
    go_wp2_with fail
    go_ret
    exact ⟨rfl, K12.out.b⟩

open Go.ChangeShapes Go.WideShapes Go.ChangeAt Go.WideMaps Go.WideElems
set_option maxRecDepth 100000 in
theorem timesSeconds_lifted (os : Os) (started : os.Started) (H : Type) (enc : TypeId × Value → H) :
    ReturnsInHanded {} Tryd.checked os 8 .any (fun w args => (Rows.timesSecondsSpec.pre enc Tryd.prog Tryd.f8 [] false w args ∧ laidMetH Tryd.prog laidL w) ∧ sizedMet enc Tryd.prog Tryd.f8 (OpenSpec.ofChange Rows.timesSecondsSpec) false w args)
      (Rows.timesSecondsSpec.post enc Tryd.prog Tryd.f8 false true false false) := by
  refine returnsInHanded_of_change_and (C := Tryd.checked) (X := fun w _ => laidMetH Tryd.prog laidL w) (fun _ _ _ hh h => h.of_heap hh) x_own started (by kernel_rfl) Tryd.func8
    (ChangeSpec.witness_shaped (enc := enc) (C := Tryd.checked) (os := os) (X := fun w _ => laidMetH Tryd.prog laidL w) false (World.laidAll Tryd.prog os laidL) #[.agg #[.int .u16 0, .int .u8 0, .int .u8 0, .int .u8 0, .int .u8 0, .int .u8 0], .int .i64 0] 8 (World.laidAll_os _ _ _) (World.shaped_of_ZipB (by kernel_rfl) (by kernel_rfl)) (by kernel_rfl) (by kernel_rfl) (by kernel_rfl) (door_met os _)) ?_
  intro W base args ds gs before hval0 hW _ _ hL _
  have hval : ∀ (j : Nat) t v, Tryd.f8.params[j]? = some t → args[j]? = some v → Value.okWide Tryd.prog W .any base t v := hval0
  have hW' := hW
  obtain ⟨p, q, hA0, hV, rfl, hfz, hnd⟩ := hW
  have hA : DataW.TrodAll enc Tryd.prog W 0 (fun _ => true) true Tryd.f8.params.toList args.toList ds p := hA0
  rw [Tryd.params8] at hA hval
  obtain ⟨v0, v1, d0, d1, p0, p1, rfl, rfl, rfl, h0, h1⟩ := trodAll_two hA
  obtain ⟨rfl, rfl⟩ := trodVars_none hV
  obtain ⟨a, b, c, d, e, f, rfl, hr⟩ := open_T (hval 0 _ v0 rfl rfl) h0
  obtain ⟨z, rfl, hz1, hz2⟩ := open_i64 (hval 1 _ v1 rfl rfl) h1
  have hE := of_laid hL
  clear hA0 hval0
  simp only [List.append_nil] at hW'
  refine (seconds_walk a b c d e f hr z ⟨hz1, by omega⟩ W hE).mono fun e W' ⟨he, hb⟩ => ?_
  subst he
  exact ⟨_, rfl, law_post (tb := 4) x_laid (by decide +kernel) rfl rfl (by kernel_rfl) Tryd.underlying4 hW' hb⟩

/-- The row's statement. -/
theorem timesSeconds_row : Rows.TimesSecondsSaid :=
  OpenClaim.holds_of_wide 8 Tryd.f8 rfl rfl rfl rfl rfl rfl rfl ⟨rfl, rfl, rfl, rfl, rfl⟩ rfl rfl rfl rfl rfl (by kernel_rfl) Tryd.func8 (by kernel_rfl)
    (of_decide_eq_true (by kernel_rfl)) (by unfold Func.isWrapper; first | (rw [if_pos (by decide +kernel)]; kernel_rfl) | (rw [if_neg (by decide +kernel)]; exact ⟨rfl, rfl⟩))
    (fun os started H enc _ => timesSeconds_lifted os started H enc)

/-- The statement: the card. -/
theorem timesSeconds_holds : Rows.TimesSecondsCardSaid :=
  Claim7.holds_tied_plain_at .later [] [.data] true Rows.timesSecondsCard.stood.harness Rows.timesSecondsCard.stood.looks
    timesSeconds_row (fun _ h => by cases h) (by kernel_rfl) (fun _ h => by cases h) timesSeconds_row_tie rfl ⟨rfl, rfl⟩ (by kernel_rfl) rfl
    (fun f fn hf hfn => by
      obtain rfl : f = 8 := Option.some.inj ((show Tryd.prog.funcNamed "vidimus/vidimuslaw10.TimesSeconds" = some 8 by kernel_rfl).symm.trans hf) |>.symm
      obtain rfl : fn = Tryd.f8 := (Option.some.inj (Tryd.func8.symm.trans hfn)).symm
      exact ⟨by kernel_rfl, fun j t ht => by
        rw [Tryd.params8] at ht
        have hm : t ∈ Tryd.f8.params.toList := by rw [Tryd.params8]; exact Array.mem_toList_iff.2 (Array.mem_of_getElem? ht)
        have hall : (Tryd.f8.params.toList.all fun u => !Tryd.prog.wantsStandIn u) = true := by kernel_rfl
        exact (show Tryd.prog.wantsStandIn t = false by simpa using List.all_eq_true.1 hall t hm)⟩)
    (by kernel_rfl)
end Go.Proofs.YtecmgkmonehmfaaDoor.Tim
