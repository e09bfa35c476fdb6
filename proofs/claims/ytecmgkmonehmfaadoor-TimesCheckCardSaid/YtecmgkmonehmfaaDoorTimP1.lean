/-
  Layer 10, the statement TimesCheck: exactly the valid times are accepted; the other functions return the error, or the value that the chapter names; leap years and months are those of the definition; the examples hold.
  Conditions: the package-level variables that the row lists hold what the program's text lays (the card ties them).
-/
import Derived.Test.YtecmgkmonehmfaaDoorTimLi
import Derived.Test.YtecmgkmonehmfaaDoorTimRw
namespace Go.Proofs.YtecmgkmonehmfaaDoor.Tim
open Go.RowKit Go.Shelf

set_option linter.unusedSimpArgs false in
set_option linter.unusedVariables false in
set_option maxHeartbeats 6400000 in
set_option maxRecDepth 100000 in
theorem check_walk (a0 a1 a2 a3 a4 a5 : Int) (h1 : I64 a1) (y m : Int) (hm : I64 m) (w : World) (hT : Env w) :
    Calls Tryd.prog 3 #[tV a0 a1 a2 a3 a4 a5, .int .i64 y, .int .i64 m] w fun e w' => e = .returned (.bool true) ∧ Below w.heap.size w w' := by
  have K0 := Lib.hid (St.start hT)
  have HI := Lib.hid h1
  have HM := Lib.hid hm
  obtain ⟨v, hv⟩ : ∃ v, lpT y = v := ⟨_, rfl⟩
  obtain ⟨n, hn⟩ : ∃ n, dyT y m = n := ⟨_, rfl⟩
  obtain ⟨f, hf⟩ : ∃ f, ck a0 a1 a2 a3 a4 a5 = f := ⟨_, rfl⟩
  have hf01 := ck_01 a0 a1 a2 a3 a4 a5
  rw [hf] at hf01
  have HV := Lib.hid hv
  have HN := Lib.hid hn
  have HF := Lib.hid hf
  have hvv : (v != v) = false := by simp
  clear hT h1 hm hv hn hf
  go_enter Tryd.func3, Tryd.ntmps3
  go_upto_region 1 with fail
  obtain ⟨g3, hg3⟩ : ∃ g, w.heap.size = g := ⟨_, rfl⟩
  obtain ⟨w1, hw1⟩ : ∃ v, w.alloc (.cells #[.int .i64 a0, .int .i64 a1, .int .i64 a2, .int .i64 a3, .int .i64 a4, .int .i64 a5] 23) = v := ⟨_, rfl⟩
  have hbk : Hid (Bk w1 g3 23 (tL a0 a1 a2 a3 a4 a5)) := Lib.hid (by rw [← hw1, ← hg3]; exact Bk.new w _ (tL a0 a1 a2 a3 a4 a5))
  have hb : Hid (Below w.heap.size w w1) := Lib.hid (by rw [← hw1]; exact bel1 w _)
  have GE_g3 : Hid (w.heap.size ≤ g3) := Lib.hid (by rw [← hg3]; exact K0.out.b.size)
  rw [hw1, hg3]
  have K1 := kp K0 hb
  clear hb K0
  have Kn := kb K1 hbk
  clear hbk K1 hg3 hw1
  have K1 := Kn
  clear Kn
  go_wp2_with fail
  refine (leap_at w1 y v HV.out).mono ?_
  rintro e w2 ⟨rfl, hb⟩
  have K2 := kp K1 hb
  clear hb K1
  go_wp2_with fail
  refine (rleap_at w2 y v HV.out).mono ?_
  rintro e w3 ⟨rfl, hb⟩
  have K3 := kp K2 hb
  clear hb K2
  go_wp2_with fail
  refine (days_at w3 y m HM.out n HN.out K3.out.t).mono ?_
  rintro e w4 ⟨rfl, hb⟩
  have K4 := kp K3 hb
  clear hb K3
  go_wp2_with fail
  refine (rdays_at w4 y m n HN.out).mono ?_
  rintro e w5 ⟨rfl, hb⟩
  have K5 := kp K4 hb
  clear hb K4
  go_wp2_with (refine wpList_loadGg (by rfl) (.tmp 3) rfl rfl (rangeB (K5.out.k (g3, 23, tL a0 a1 a2 a3 a4 a5) (by simp))) Tryd.underlying23 rfl infoTm ?_)
  refine (rchk_at w5 a0 a1 a2 a3 a4 a5 f HF.out).mono ?_
  rintro e w6 ⟨rfl, hb⟩
  have K6 := kp K5 hb
  clear hb K5
  go_wp2_with (refine wpList_loadGg (by rfl) (.tmp 3) rfl rfl (rangeB (K6.out.k (g3, 23, tL a0 a1 a2 a3 a4 a5) (by simp))) Tryd.underlying23 rfl infoTm ?_)
  refine (chk_at w6 a0 a1 a2 a3 a4 a5 HI.out f HF.out K6.out.t).mono ?_
  rintro e w7 ⟨rfl, hb⟩
  have K7 := kp K6 hb
  clear hb K6
  rcases hf01 with rfl | rfl
  · go_wp2_with fail
    refine (lives_at w7 K7.out.t).mono ?_
    rintro e w8 ⟨rfl, hb⟩
    have K8 := kp K7 hb
    clear hb K7
    go_wp2_with fail
    go_ret
    exact ⟨rfl, K8.out.b⟩
  · go_wp2_with (refine wpList_loadGg (by rfl) (.tmp 3) rfl rfl (rangeB (K7.out.k (g3, 23, tL a0 a1 a2 a3 a4 a5) (by simp))) Tryd.underlying23 rfl infoTm ?_)
    refine (elemb_at w7 a0 a1 a2 a3 a4 a5 HI.out HF.out K7.out.t).mono ?_
    rintro e w8 ⟨rfl, hb⟩
    have K8 := kp K7 hb
    clear hb K7
    go_upto_region 9 with fail
    obtain ⟨g8, hg8⟩ : ∃ g, w8.heap.size = g := ⟨_, rfl⟩
    obtain ⟨w9, hw9⟩ : ∃ v, w8.alloc (.cells #[.int .u8 0, .bool false, .int .u32 0, .slice none 0 0, .slice none 0 0] 37) = v := ⟨_, rfl⟩
    have hbk : Hid (Bk w9 g8 37 (elC 0 (.slice none 0 0))) := Lib.hid (by rw [← hw9, ← hg8]; exact Bk.new w8 _ (elC 0 (.slice none 0 0)))
    have hb : Hid (Below w8.heap.size w8 w9) := Lib.hid (by rw [← hw9]; exact bel1 w8 _)
    have GE_g8 : Hid (w.heap.size ≤ g8) := Lib.hid (by rw [← hg8]; exact K8.out.b.size)
    rw [hw9, hg8]
    have K9 := kp K8 hb
    clear hb K8
    have Kn := kb K9 hbk
    clear hbk K9 hg8 hw9
    have K9 := Kn
    clear Kn
    have c_g8_3 : w9.cell? ⟨g8, 3, none⟩ = some (.slice none 0 0) := by rw [(K9.out.k (g8, 37, elC 0 (.slice none 0 0)) (by simp)).cell]; rfl
    go_wp2_with (refine wpList_loadGg (by rfl) (.tmp 3) rfl rfl (rangeB (K9.out.k (g3, 23, tL a0 a1 a2 a3 a4 a5) (by simp))) Tryd.underlying23 rfl infoTm ?_)
    refine (secsb_at w9 a0 a1 a2 a3 a4 a5 HI.out HF.out K9.out.t).mono ?_
    rintro e w10 ⟨rfl, hb⟩
    have K10 := kp K9 hb
    clear hb K9
    go_wp2_with (refine wpList_loadGg (by rfl) (.tmp 3) rfl rfl (rangeB (K10.out.k (g3, 23, tL a0 a1 a2 a3 a4 a5) (by simp))) Tryd.underlying23 rfl infoTm ?_)
    clear c_g8_3
    refine (textb_at w10 a0 a1 a2 a3 a4 a5 HI.out HF.out K10.out.t).mono ?_
    rintro e w11 ⟨rfl, hb⟩
    have K11 := kp K10 hb
    clear hb K10
    go_wp2_with fail
    refine (lives_at w11 K11.out.t).mono ?_
    rintro e w12 ⟨rfl, hb⟩
    have K12 := kp K11 hb
    clear hb K11
    go_wp2_with fail
    go_ret
    exact ⟨rfl, K12.out.b⟩

open Go.ChangeShapes Go.WideShapes Go.ChangeAt Go.WideMaps Go.WideElems
set_option maxRecDepth 100000 in
theorem timesCheck_lifted (os : Os) (started : os.Started) (H : Type) (enc : TypeId × Value → H) :
    ReturnsInHanded {} Tryd.checked os 3 .any (fun w args => (Rows.timesCheckSpec.pre enc Tryd.prog Tryd.f3 [] false w args ∧ laidMetH Tryd.prog laidL w) ∧ sizedMet enc Tryd.prog Tryd.f3 (OpenSpec.ofChange Rows.timesCheckSpec) false w args)
      (Rows.timesCheckSpec.post enc Tryd.prog Tryd.f3 false true false false) := by
  refine returnsInHanded_of_change_and (C := Tryd.checked) (X := fun w _ => laidMetH Tryd.prog laidL w) (fun _ _ _ hh h => h.of_heap hh) x_own started (by kernel_rfl) Tryd.func3
    (ChangeSpec.witness_shaped (enc := enc) (C := Tryd.checked) (os := os) (X := fun w _ => laidMetH Tryd.prog laidL w) false (World.laidAll Tryd.prog os laidL) #[.agg #[.int .i64 0, .int .i64 0, .int .i64 0, .int .i64 0, .int .i64 0, .int .i64 0], .int .i64 0, .int .i64 0] 8 (World.laidAll_os _ _ _) (World.shaped_of_ZipB (by kernel_rfl) (by kernel_rfl)) (by kernel_rfl) (by kernel_rfl) (by kernel_rfl) (door_met os _)) ?_
  intro W base args ds gs before hval0 hW _ _ hL _
  have hval : ∀ (j : Nat) t v, Tryd.f3.params[j]? = some t → args[j]? = some v → Value.okWide Tryd.prog W .any base t v := hval0
  have hW' := hW
  obtain ⟨p, q, hA0, hV, rfl, hfz, hnd⟩ := hW
  have hA : DataW.TrodAll enc Tryd.prog W 0 (fun _ => true) true Tryd.f3.params.toList args.toList ds p := hA0
  rw [Tryd.params3] at hA hval
  obtain ⟨v0, v1, v2, d0, d1, d2, p0, p1, p2, rfl, rfl, rfl, h0, h1, h2⟩ := trodAll_three hA
  obtain ⟨rfl, rfl⟩ := trodVars_none hV
  obtain ⟨a0, a1, a2, a3, a4, a5, rfl, h0, h1', -, -, -, -⟩ := open_time (hval 0 _ v0 rfl rfl) h0
  obtain ⟨y, rfl, hy1, hy2⟩ := open_i64 (hval 1 _ v1 rfl rfl) h1
  obtain ⟨m, rfl, hm1, hm2⟩ := open_i64 (hval 2 _ v2 rfl rfl) h2
  have hE := of_laid hL
  clear hA0 hval0
  simp only [List.append_nil] at hW'
  refine (check_walk a0 a1 a2 a3 a4 a5 h1' y m ⟨hm1, by omega⟩ W hE).mono fun e W' ⟨he, hb⟩ => ?_
  subst he
  exact ⟨_, rfl, law_post (tb := 4) x_laid (by decide +kernel) rfl rfl (by kernel_rfl) Tryd.underlying4 hW' hb⟩

/-- The row's statement. -/
theorem timesCheck_row : Rows.TimesCheckSaid :=
  OpenClaim.holds_of_wide 3 Tryd.f3 rfl rfl rfl rfl rfl rfl rfl ⟨rfl, rfl, rfl, rfl, rfl⟩ rfl rfl rfl rfl rfl (by kernel_rfl) Tryd.func3 (by kernel_rfl)
    (of_decide_eq_true (by kernel_rfl)) (by unfold Func.isWrapper; first | (rw [if_pos (by decide +kernel)]; kernel_rfl) | (rw [if_neg (by decide +kernel)]; exact ⟨rfl, rfl⟩))
    (fun os started H enc _ => timesCheck_lifted os started H enc)

/-- The statement: the card. -/
theorem timesCheck_holds : Rows.TimesCheckCardSaid :=
  Claim7.holds_tied_plain_at .later [] [.data] true Rows.timesCheckCard.stood.harness Rows.timesCheckCard.stood.looks
    timesCheck_row (fun _ h => by cases h) (by kernel_rfl) (fun _ h => by cases h) timesCheck_row_tie rfl ⟨rfl, rfl⟩ (by kernel_rfl) rfl
    (fun f fn hf hfn => by
      obtain rfl : f = 3 := Option.some.inj ((show Tryd.prog.funcNamed "vidimus/vidimuslaw10.TimesCheck" = some 3 by kernel_rfl).symm.trans hf) |>.symm
      obtain rfl : fn = Tryd.f3 := (Option.some.inj (Tryd.func3.symm.trans hfn)).symm
      exact ⟨by kernel_rfl, fun j t ht => by
        rw [Tryd.params3] at ht
        have hm : t ∈ Tryd.f3.params.toList := by rw [Tryd.params3]; exact Array.mem_toList_iff.2 (Array.mem_of_getElem? ht)
        have hall : (Tryd.f3.params.toList.all fun u => !Tryd.prog.wantsStandIn u) = true := by kernel_rfl
        exact (show Tryd.prog.wantsStandIn t = false by simpa using List.all_eq_true.1 hall t hm)⟩)
    (by kernel_rfl)
end Go.Proofs.YtecmgkmonehmfaaDoor.Tim
