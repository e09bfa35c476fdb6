/-
  Layer 10: Parse, of the reference, where the fields are valid.
  Conditions: none but a length.
-/
import Derived.Test.YtecmgkmonehmfaaDoorTimV
namespace Go.Proofs.YtecmgkmonehmfaaDoor.Tim
open Go.RowKit
attribute [local go_sem] Oper.semAt_some

set_option linter.unusedSimpArgs false in
set_option linter.unusedVariables false in
set_option maxHeartbeats 4000000 in
set_option maxRecDepth 100000 in
theorem rparse_ok (l : List Nat) (h8 : All8 l) (hl : l.length = 20) (y m d h mi s : Nat) (hy : y ≤ 1000000) (hm : m ≤ 1000000) (hd : d ≤ 1000000) (hh : h ≤ 1000000) (hmi : mi ≤ 1000000) (hs : s ≤ 1000000) (hv0 : numP l 0 4 = (y : Int)) (hv1 : numP l 5 7 = (m : Int)) (hv2 : numP l 8 10 = (d : Int)) (hv3 : numP l 11 13 = (h : Int)) (hv4 : numP l 14 16 = (mi : Int)) (hv5 : numP l 17 19 = (s : Int)) (hck : ck y m d h mi s = 0) (w : World) :
    Calls Tryd.prog 28 #[.string (bstr l)] w fun e w' => e = .returned (if txtX y m d h mi s = l then .tuple #[.agg (tL y m d h mi s).toArray, .int .i64 0] else .tuple #[.agg (tL 0 0 0 0 0 0).toArray, .int .i64 6]) ∧ Below w.heap.size w w' := by
  have Z : ∀ w : World, (zeroValue 23).run Tryd.prog w = .ok (.agg #[.int .i64 0, .int .i64 0, .int .i64 0, .int .i64 0, .int .i64 0, .int .i64 0]) w := zTm
  have hsz : (bstr l).size = 20 := by rw [bstr_size]; exact hl
  have C0 := Lib.hid (fun W => number_any (pc l 0 4) (pc_8 _ _ _ h8) (by rw [pc_len _ _ _ (by omega)]; omega) W)
  have C1 := Lib.hid (fun W => number_any (pc l 5 7) (pc_8 _ _ _ h8) (by rw [pc_len _ _ _ (by omega)]; omega) W)
  have C2 := Lib.hid (fun W => number_any (pc l 8 10) (pc_8 _ _ _ h8) (by rw [pc_len _ _ _ (by omega)]; omega) W)
  have C3 := Lib.hid (fun W => number_any (pc l 11 13) (pc_8 _ _ _ h8) (by rw [pc_len _ _ _ (by omega)]; omega) W)
  have C4 := Lib.hid (fun W => number_any (pc l 14 16) (pc_8 _ _ _ h8) (by rw [pc_len _ _ _ (by omega)]; omega) W)
  have C5 := Lib.hid (fun W => number_any (pc l 17 19) (pc_8 _ _ _ h8) (by rw [pc_len _ _ _ (by omega)]; omega) W)
  have s0 : ∀ W, (Instr.slice 9 (.string (bstr l)) none (some (.int .i64 4)) none).run Tryd.prog W = .ok (.string (bstr (pc l 0 4))) W := slice_h l 4 (by omega)
  have s1 : ∀ W, (Instr.slice 9 (.string (bstr l)) (some (.int .i64 5)) (some (.int .i64 7)) none).run Tryd.prog W = .ok (.string (bstr (pc l 5 7))) W := slice_lh l 5 7 (by omega) (by omega)
  have s2 : ∀ W, (Instr.slice 9 (.string (bstr l)) (some (.int .i64 8)) (some (.int .i64 10)) none).run Tryd.prog W = .ok (.string (bstr (pc l 8 10))) W := slice_lh l 8 10 (by omega) (by omega)
  have s3 : ∀ W, (Instr.slice 9 (.string (bstr l)) (some (.int .i64 11)) (some (.int .i64 13)) none).run Tryd.prog W = .ok (.string (bstr (pc l 11 13))) W := slice_lh l 11 13 (by omega) (by omega)
  have s4 : ∀ W, (Instr.slice 9 (.string (bstr l)) (some (.int .i64 14)) (some (.int .i64 16)) none).run Tryd.prog W = .ok (.string (bstr (pc l 14 16))) W := slice_lh l 14 16 (by omega) (by omega)
  have s5 : ∀ W, (Instr.slice 9 (.string (bstr l)) (some (.int .i64 17)) (some (.int .i64 19)) none).run Tryd.prog W = .ok (.string (bstr (pc l 17 19))) W := slice_lh l 17 19 (by omega) (by omega)
  obtain ⟨g, hg⟩ : ∃ g, w.heap.size = g := ⟨_, rfl⟩
  obtain ⟨w1, hw1⟩ : ∃ w1, w.alloc (.cells #[.int .i64 0, .int .i64 0, .int .i64 0, .int .i64 0, .int .i64 0, .int .i64 0] 23) = w1 := ⟨_, rfl⟩
  have B1 : Hid (Below w.heap.size w w1) := Lib.hid (by rw [← hw1]; exact bel1 w _)
  have K1 : Hid (Bk w1 g 23 (tL 0 0 0 0 0 0)) := Lib.hid (by rw [← hw1, ← hg]; exact Bk.new w _ _)
  have HW1 := Lib.hid hw1
  have HG := Lib.hid hg
  have CK := Lib.hid (fun W => rcheck_any y m d h mi s W)
  rw [hck] at CK
  have CT := Lib.hid (fun W => rtext_any y m d h mi s hy hm hd hh hmi hs W)
  have hn : ((bstr (txtX y m d h mi s)).toList != (bstr l).toList) = !decide (txtX y m d h mi s = l) := by rw [bne, bstr_dec (all_X _ _ _ _ _ _) h8]
  obtain ⟨T, hT⟩ : ∃ T, bstr (txtX y m d h mi s) = T := ⟨_, rfl⟩
  rw [hT] at CT hn
  unfold numP at hv0 hv1 hv2 hv3 hv4 hv5
  rw [hv0] at C0
  rw [hv1] at C1
  rw [hv2] at C2
  rw [hv3] at C3
  rw [hv4] at C4
  rw [hv5] at C5
  obtain ⟨RV, hRV⟩ : ∃ v, (if txtX y m d h mi s = l then Value.tuple #[.agg (tL y m d h mi s).toArray, .int .i64 0] else .tuple #[.agg (tL 0 0 0 0 0 0).toArray, .int .i64 6]) = v := ⟨_, rfl⟩
  rw [hRV]
  have HRV := Lib.hid hRV
  have HNN := Lib.hid hn
  clear hn hRV hT hv0 hv1 hv2 hv3 hv4 hv5
  generalize bstr (pc l 0 4) = P0 at *
  generalize bstr (pc l 5 7) = P1 at *
  generalize bstr (pc l 8 10) = P2 at *
  generalize bstr (pc l 11 13) = P3 at *
  generalize bstr (pc l 14 16) = P4 at *
  generalize bstr (pc l 17 19) = P5 at *
  generalize bstr l = S at *
  have B2 : Hid (Below w.heap.size w w1.drew) := Lib.hid B1.out.drew
  have K2 : Hid (Bk w1.drew g 23 (tL 0 0 0 0 0 0)) := Lib.hid K1.out
  clear hw1 hg hck h8 hl
  go_enter Tryd.func28, Tryd.ntmps28
  go_upto_region 3 with fail
  rw [HW1.out, HG.out]
  go_cut [4] (fun p wx => ∃ g4, p = .pointer (some ⟨g4, 0, none⟩) ∧ g ≠ g4 ∧ Bk wx g4 23 (tL y m d h mi s) ∧ Bk wx g 23 (tL 0 0 0 0 0 0) ∧ Below w.heap.size w wx)
  case first =>
    go_region_held3 (fun w' => True)
      (trivial)
      (first | (go_at_call 42; have dn6 := dn5; refine (C5.out _).mono ?_; rintro e w4 ⟨rfl, rfl⟩) | (go_at_call 42; have dn5 := dn4; refine (C4.out _).mono ?_; rintro e w4 ⟨rfl, rfl⟩) | (go_at_call 42; have dn4 := dn3; refine (C3.out _).mono ?_; rintro e w4 ⟨rfl, rfl⟩) | (go_at_call 42; have dn3 := dn2; refine (C2.out _).mono ?_; rintro e w4 ⟨rfl, rfl⟩) | (go_at_call 42; have dn2 := dn1; refine (C1.out _).mono ?_; rintro e w4 ⟨rfl, rfl⟩) | (go_at_call 42; have dn1 := True.intro; refine (C0.out _).mono ?_; rintro e w4 ⟨rfl, rfl⟩))
    all_goals
      go_wp2_with fail
      go_meet
      exact ⟨w1.heap.size, rfl, Nat.ne_of_lt K1.out.lt, Bk.new w1 23 (tL y m d h mi s), K1.out.alloc _, (B1.out.alloc B1.out.size _).drew⟩
  case rest =>
    obtain ⟨g4, rfl, hgg, hr, hk, hb⟩ := hcut
    have R4 := Lib.hid hr
    have K4 := Lib.hid hk
    have B4 := Lib.hid hb
    clear hr hk hb K1 B1 K2 B2
    go_wp2_with (refine wpList_loadG rfl (.tmp 4) rfl rfl (rangeB R4.out) Tryd.underlying23 rfl infoTm ?_)
    refine (CK.out _).mono ?_
    rintro e w6 ⟨rfl, hb⟩
    have B6 := bt B4 (Lib.hid hb)
    have R6 := kt R4 (Lib.hid hb)
    have K6 := kt K4 (Lib.hid hb)
    clear hb B4 R4 K4 CK
    go_wp2_with (refine wpList_loadGg (by rfl) (.tmp 4) rfl rfl (rangeB R6.out) Tryd.underlying23 rfl infoTm ?_)
    refine (CT.out _).mono ?_
    rintro e w7 ⟨rfl, hb⟩
    have B7 := bt B6 (Lib.hid hb)
    have R7 := kt R6 (Lib.hid hb)
    have K7 := kt K6 (Lib.hid hb)
    clear hb B6 R6 K6
    by_cases heq : txtX y m d h mi s = l
    · have HEQ := Lib.hid heq
      have hnb : (T.toList != S.toList) = false := by rw [HNN.out, decide_eq_true heq]; rfl
      have hq : (T.toList == S.toList) = true := by have h := hnb; rw [bne, Bool.not_eq_false'] at h; exact h
      have hq2 : T.toList = S.toList := eq_of_beq hq
      clear heq
      go_wp2_with (first | (refine wpList_loadG rfl (.tmp 4) rfl rfl (rangeB R7.out) Tryd.underlying23 rfl infoTm ?_) | (refine wpList_storeG rfl (.tmp 2) (.tmp 38) rfl rfl (ds := tL y m d h mi s) rfl K7.out infoTm rfl (tL_one _ _ _ _ _ _) ?_; intro w9 hr9 hg9 hz9; have B9 := Lib.hid (B7.out.grown hg9 B7.out.size (fun k e => by injection e with e; have := HG.out; omega)); have R9 := Lib.hid hr9; clear hr9 hg9 hz9))
      exact retG2 rfl rfl rfl (loadTm R9.out) rfl ⟨by rw [← HRV.out, if_pos HEQ.out]; rfl, B9.out⟩
    · have HEQ := Lib.hid heq
      have hnb : (T.toList != S.toList) = true := by rw [HNN.out, decide_eq_false heq]; rfl
      have hq : (T.toList == S.toList) = false := by have h := hnb; rw [bne, Bool.not_eq_true'] at h; exact h
      have hq2 : ¬ T.toList = S.toList := by rw [beq_eq_false_iff_ne] at hq; exact hq
      clear heq
      go_wp2_with (refine wpList_storeG rfl (.tmp 2) (.tmp 37) rfl rfl (ds := tL 0 0 0 0 0 0) rfl K7.out infoTm rfl (tL_one _ _ _ _ _ _) ?_; intro w9 hr9 hg9 hz9; have B9 := Lib.hid (B7.out.grown hg9 B7.out.size (fun k e => by injection e with e; have := HG.out; omega)); have R9 := Lib.hid hr9; clear hr9 hg9 hz9)
      exact retG2 rfl rfl rfl (loadTm R9.out) rfl ⟨by rw [← HRV.out, if_neg HEQ.out]; rfl, B9.out⟩
end Go.Proofs.YtecmgkmonehmfaaDoor.Tim
