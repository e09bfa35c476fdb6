/-
  Layer 10: Parse, of the program.
  Conditions: the table of the months holds what the program's text lays; what read makes of the text is known.
-/
import Derived.Test.YtecmgkmonehmfaaDoorTimT
namespace Go.Proofs.YtecmgkmonehmfaaDoor.Tim
open Go.RowKit
attribute [local go_sem] Oper.semAt_some

/-- A whole struct is loaded, where its guard is open. -/
theorem wpList_loadGg {t : TypeId} {d : TypeDesc} {ops : Array Oper} {rest : List Oper} {o : Oper} {a : Act} {w : World} {Q : Exit → Act → World → Prop} (hw : Region.wanted o (yielded ops a.tmps) = true) (x : Operand) (ho : o.op = .load t x)
    {g off : Nat} {cs : List Value} (hx : a.eval x = .pointer (some ⟨g, off, none⟩)) (hg : w.rangeAt g off cs) (hu : Tryd.prog.underlying t = some d) (hd : d.isRow = true) (hi : (Tryd.prog.info? t).map (·.size) = some cs.length)
    (h : wpList Tryd.prog ops Q rest (a.put o.dst (.agg cs.toArray)) w) : wpList Tryd.prog ops Q (o :: rest) a w :=
  BigFrame.wpList_want hw fun _ hK => wp_load_mid t x ho g off hx cs d hg hu hd hi (hK _ _ h)
set_option linter.unusedSimpArgs false in
set_option linter.unusedVariables false in
set_option maxHeartbeats 4000000 in
set_option maxRecDepth 100000 in
theorem parse_bad (l : List Nat) (a0 a1 a2 a3 a4 a5 : Int) (h1 : I64 a1) (CR : ∀ W, Calls Tryd.prog 39 #[.string ⟨#[89, 89, 89, 89, 45, 77, 77, 45, 68, 68, 84, 104, 104, 58, 109, 109, 58, 115, 115, 90]⟩, .string (bstr l)] W fun e w' => e = .returned (.agg (tL a0 a1 a2 a3 a4 a5).toArray) ∧ Below W.heap.size W w') (hck : ck a0 a1 a2 a3 a4 a5 = 1) (w : World) (hE : Env w) :
    Calls Tryd.prog 38 #[.string (bstr l)] w fun e w' => e = .returned (.tuple #[.agg (tL 0 0 0 0 0 0).toArray, .int .i64 6]) ∧ Below w.heap.size w w' := by
  have Z := zTm
  obtain ⟨S, hS⟩ : ∃ S, bstr l = S := ⟨_, rfl⟩
  rw [hS] at CR ⊢
  have HCR := Lib.hid CR
  obtain ⟨g, hg⟩ : ∃ g, w.heap.size = g := ⟨_, rfl⟩
  obtain ⟨w1, hw1⟩ : ∃ w1, w.alloc (.cells (tL 0 0 0 0 0 0).toArray 23) = w1 := ⟨_, rfl⟩
  have B1 : Hid (Below w.heap.size w w1) := Lib.hid (by rw [← hw1]; exact bel1 w _)
  have K1 : Hid (Bk w1 g 23 (tL 0 0 0 0 0 0)) := Lib.hid (by rw [← hw1, ← hg]; exact Bk.new w _ _)
  have HW1 := Lib.hid hw1
  have HG := Lib.hid hg
  have HE := Lib.hid hE
  clear hS hw1 hg hE CR
  go_enter Tryd.func38, Tryd.ntmps38
  go_upto_region 1 with fail
  rw [HW1.out, HG.out]
  go_wp2_with fail
  refine (HCR.out _).mono ?_
  rintro e w3 ⟨rfl, hb⟩
  have B3 := bt B1 (Lib.hid hb)
  have K3 := kt K1 (Lib.hid hb)
  clear hb B1 K1
  obtain ⟨g4, hg4⟩ : ∃ g4, w3.heap.size = g4 := ⟨_, rfl⟩
  have HG4 := Lib.hid hg4
  have hgg : g ≠ g4 := by have := K3.out.lt; omega
  clear hg4
  go_upto_region 2 with
                (refine wpList_storeG rfl (.tmp 4) (.tmp 6) rfl rfl (ds := tL a0 a1 a2 a3 a4 a5) rfl (Bk.new w3 23 (tL 0 0 0 0 0 0)) infoTm rfl (tL_one _ _ _ _ _ _) ?_
                 intro w5 hk5 hg5 hz5
                 have B5 := Lib.hid ((B3.out.alloc B3.out.size _).grown hg5 (Nat.le_trans B3.out.size (by simp)) (fun k e => by injection e with e; have := HG4.out; have := B3.out.size; omega))
                 have K5 : Hid (Bk w5 g 23 (tL 0 0 0 0 0 0)) := Lib.hid ((K3.out.alloc _).only hg5 (fun e => by injection e with e; have := HG4.out; omega))
                 have R5 : Hid (Bk w5 g4 23 (tL a0 a1 a2 a3 a4 a5)) := Lib.hid (by have := hk5; rw [HG4.out] at this; exact this)
                 clear hk5 hg5 hz5)
  rw [HG4.out]
  have E5 := et HE B5
  have CK := Lib.hid (check_any a0 a1 a2 a3 a4 a5 h1 w5 E5.out)
  rw [hck] at CK
  go_wp2_with (refine wpList_loadG rfl (.tmp 4) rfl rfl (rangeB R5.out) Tryd.underlying23 rfl infoTm ?_)
  refine CK.out.mono ?_
  rintro e w6 ⟨rfl, hb⟩
  have B6 := bt B5 (Lib.hid hb)
  have R6 := kt R5 (Lib.hid hb)
  have K6 := kt K5 (Lib.hid hb)
  clear hb B5 R5 K5 CK K3 B3
  go_wp2_with (refine wpList_storeG rfl (.tmp 2) (.tmp 16) rfl rfl (ds := tL 0 0 0 0 0 0) rfl K6.out infoTm rfl (tL_one _ _ _ _ _ _) ?_; intro w9 hr9 hg9 hz9; have B9 := Lib.hid (B6.out.grown hg9 B6.out.size (fun k e => by injection e with e; have := HG.out; omega)); have R9 := Lib.hid hr9; clear hr9 hg9 hz9)
  exact retG2 rfl rfl rfl (loadTm R9.out) rfl ⟨rfl, B9.out⟩
set_option linter.unusedSimpArgs false in
set_option linter.unusedVariables false in
set_option maxHeartbeats 4000000 in
set_option maxRecDepth 100000 in
theorem parse_ok (l : List Nat) (h8 : All8 l) (y m d h mi s : Nat) (hy : y ≤ 1000000) (hm : m ≤ 1000000) (hd : d ≤ 1000000) (hh : h ≤ 1000000) (hmi : mi ≤ 1000000) (hs : s ≤ 1000000) (CR : ∀ W, Calls Tryd.prog 39 #[.string ⟨#[89, 89, 89, 89, 45, 77, 77, 45, 68, 68, 84, 104, 104, 58, 109, 109, 58, 115, 115, 90]⟩, .string (bstr l)] W fun e w' => e = .returned (.agg (tL y m d h mi s).toArray) ∧ Below W.heap.size W w') (hck : ck y m d h mi s = 0) (w : World) (hE : Env w) :
    Calls Tryd.prog 38 #[.string (bstr l)] w fun e w' => e = .returned (if txtX y m d h mi s = l then .tuple #[.agg (tL y m d h mi s).toArray, .int .i64 0] else .tuple #[.agg (tL 0 0 0 0 0 0).toArray, .int .i64 6]) ∧ Below w.heap.size w w' := by
  have CT := Lib.hid (fun W hE => text_ok y m d h mi s hy hm hd hh hmi hs hck W hE)
  have hn : ((bstr (txtX y m d h mi s)).toList != (bstr l).toList) = !decide (txtX y m d h mi s = l) := by rw [bne, bstr_dec (all_X _ _ _ _ _ _) h8]
  have Z := zTm
  obtain ⟨S, hS⟩ : ∃ S, bstr l = S := ⟨_, rfl⟩
  rw [hS] at CR ⊢
  have HCR := Lib.hid CR
  obtain ⟨g, hg⟩ : ∃ g, w.heap.size = g := ⟨_, rfl⟩
  obtain ⟨w1, hw1⟩ : ∃ w1, w.alloc (.cells (tL 0 0 0 0 0 0).toArray 23) = w1 := ⟨_, rfl⟩
  have B1 : Hid (Below w.heap.size w w1) := Lib.hid (by rw [← hw1]; exact bel1 w _)
  have K1 : Hid (Bk w1 g 23 (tL 0 0 0 0 0 0)) := Lib.hid (by rw [← hw1, ← hg]; exact Bk.new w _ _)
  have HW1 := Lib.hid hw1
  have HG := Lib.hid hg
  have HE := Lib.hid hE
  rw [hS] at hn
  obtain ⟨T, hT⟩ : ∃ T, bstr (txtX y m d h mi s) = T := ⟨_, rfl⟩
  rw [hT] at CT hn
  have HN := Lib.hid hn
  obtain ⟨RV, hRV⟩ : ∃ v, (if txtX y m d h mi s = l then Value.tuple #[.agg (tL y m d h mi s).toArray, .int .i64 0] else .tuple #[.agg (tL 0 0 0 0 0 0).toArray, .int .i64 6]) = v := ⟨_, rfl⟩
  rw [hRV]
  have HRV := Lib.hid hRV
  clear hRV hS hw1 hg hE CR hT hn h8
  go_enter Tryd.func38, Tryd.ntmps38
  go_upto_region 1 with fail
  rw [HW1.out, HG.out]
  go_wp2_with fail
  refine (HCR.out _).mono ?_
  rintro e w3 ⟨rfl, hb⟩
  have B3 := bt B1 (Lib.hid hb)
  have K3 := kt K1 (Lib.hid hb)
  clear hb B1 K1
  obtain ⟨g4, hg4⟩ : ∃ g4, w3.heap.size = g4 := ⟨_, rfl⟩
  have HG4 := Lib.hid hg4
  have hgg : g ≠ g4 := by have := K3.out.lt; omega
  clear hg4
  go_upto_region 2 with
                (refine wpList_storeG rfl (.tmp 4) (.tmp 6) rfl rfl (ds := tL y m d h mi s) rfl (Bk.new w3 23 (tL 0 0 0 0 0 0)) infoTm rfl (tL_one _ _ _ _ _ _) ?_
                 intro w5 hk5 hg5 hz5
                 have B5 := Lib.hid ((B3.out.alloc B3.out.size _).grown hg5 (Nat.le_trans B3.out.size (by simp)) (fun k e => by injection e with e; have := HG4.out; have := B3.out.size; omega))
                 have K5 : Hid (Bk w5 g 23 (tL 0 0 0 0 0 0)) := Lib.hid ((K3.out.alloc _).only hg5 (fun e => by injection e with e; have := HG4.out; omega))
                 have R5 : Hid (Bk w5 g4 23 (tL y m d h mi s)) := Lib.hid (by have := hk5; rw [HG4.out] at this; exact this)
                 clear hk5 hg5 hz5)
  rw [HG4.out]
  have E5 := et HE B5
  have CK := Lib.hid (check_any y m d h mi s (by unfold I64; omega) w5 E5.out)
  rw [hck] at CK
  go_wp2_with (refine wpList_loadG rfl (.tmp 4) rfl rfl (rangeB R5.out) Tryd.underlying23 rfl infoTm ?_)
  refine CK.out.mono ?_
  rintro e w6 ⟨rfl, hb⟩
  have B6 := bt B5 (Lib.hid hb)
  have R6 := kt R5 (Lib.hid hb)
  have K6 := kt K5 (Lib.hid hb)
  clear hb B5 R5 K5 CK K3 B3
  go_wp2_with (refine wpList_loadGg (by rfl) (.tmp 4) rfl rfl (rangeB R6.out) Tryd.underlying23 rfl infoTm ?_)
  have E6 := et HE B6
  refine (CT.out _ E6.out).mono ?_
  rintro e w7 ⟨rfl, hb⟩
  have B7 := bt B6 (Lib.hid hb)
  have R7 := kt R6 (Lib.hid hb)
  have K7 := kt K6 (Lib.hid hb)
  clear hb B6 R6 K6
  by_cases heq : txtX y m d h mi s = l
  · have HEQ := Lib.hid heq
    have hnb : (T.toList != S.toList) = false := by rw [HN.out, decide_eq_true heq]; rfl
    have hq : (T.toList == S.toList) = true := by have h := hnb; rw [bne, Bool.not_eq_false'] at h; exact h
    have hq2 : T.toList = S.toList := eq_of_beq hq
    clear heq
    go_wp2_with (first | (refine wpList_loadG rfl (.tmp 4) rfl rfl (rangeB R7.out) Tryd.underlying23 rfl infoTm ?_) | (refine wpList_storeG rfl (.tmp 2) (.tmp 17) rfl rfl (ds := tL y m d h mi s) rfl K7.out infoTm rfl (tL_one _ _ _ _ _ _) ?_; intro w9 hr9 hg9 hz9; have B9 := Lib.hid (B7.out.grown hg9 B7.out.size (fun k e => by injection e with e; have := HG.out; omega)); have R9 := Lib.hid hr9; clear hr9 hg9 hz9))
    exact retG2 rfl rfl rfl (loadTm R9.out) rfl ⟨by rw [← HRV.out, if_pos HEQ.out]; rfl, B9.out⟩
  · have HEQ := Lib.hid heq
    have hnb : (T.toList != S.toList) = true := by rw [HN.out, decide_eq_false heq]; rfl
    have hq : (T.toList == S.toList) = false := by have h := hnb; rw [bne, Bool.not_eq_true'] at h; exact h
    have hq2 : ¬ T.toList = S.toList := by rw [beq_eq_false_iff_ne] at hq; exact hq
    clear heq
    go_wp2_with (refine wpList_storeG rfl (.tmp 2) (.tmp 16) rfl rfl (ds := tL 0 0 0 0 0 0) rfl K7.out infoTm rfl (tL_one _ _ _ _ _ _) ?_; intro w9 hr9 hg9 hz9; have B9 := Lib.hid (B7.out.grown hg9 B7.out.size (fun k e => by injection e with e; have := HG.out; omega)); have R9 := Lib.hid hr9; clear hr9 hg9 hz9)
    exact retG2 rfl rfl rfl (loadTm R9.out) rfl ⟨by rw [← HRV.out, if_neg HEQ.out]; rfl, B9.out⟩
end Go.Proofs.YtecmgkmonehmfaaDoor.Tim
