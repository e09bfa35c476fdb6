/-
  Layer 2, the statement TagsText: Text writes the definition's text, Parse reads it back, and reads whatever other text as the chapter asks.
  Conditions: the package-level variables that the row lists hold what the program's text lays (the card ties them).
-/
import Derived.Test.YtcaolgcpcjodnaaDoorTagR
import Derived.Test.YtcaolgcpcjodnaaDoorTagZ
import Derived.Test.YtcaolgcpcjodnaaDoorTagO
namespace Go.Proofs.YtcaolgcpcjodnaaDoor
open Go.RowKit

theorem chk_le (c n : Nat) (k : Bool) : chk c n k ≤ 9 := by
  unfold chk
  repeat' split
  all_goals omega
theorem prsE_le (l : List Nat) : (prsE l).2.2.2 ≤ 9 := by
  unfold prsE
  split
  · decide
  · split
    · exact chk_le _ _ _
    · exact Nat.zero_le _
set_option maxHeartbeats 4000000 in
set_option maxRecDepth 100000 in
theorem ttx_walk (a f n : Nat) (l : List Nat) (w : World) (hE : Env w) (ha : a < 256) (hf : f < 256) (hn : n < 4294967296) (h8 : All8 l) (hl : l.length ≤ maxLen) :
    Calls Tryd.prog 8 #[.agg #[.int .u8 (a : Int), .int .u8 (f : Int), .int .u32 (n : Int)], .string (bstr l)] w fun e w' => e = .returned (.bool true) ∧ Below w.heap.size w w' := by
  have E0 := Lib.hid hE
  have H8 := Lib.hid h8
  have B0 := Lib.hid (bel1 w (.cells #[.int .u8 (a : Int), .int .u8 (f : Int), .int .u32 (n : Int)] 37))
  have hsz := bstr_size l
  obtain ⟨q1, q2, q3, q4, hq⟩ : ∃ q1 q2 q3 q4, prsE l = (q1, q2, q3, q4) := ⟨_, _, _, _, rfl⟩
  have HQ := Lib.hid hq
  unfold maxLen at hl
  clear hE h8 hq
  have hchk := of_ok a f n ha hf hn
  have HO := Lib.hid (of_any a f n (w.alloc (.cells #[.int .u8 (a : Int), .int .u8 (f : Int), .int .u32 (n : Int)] 37)) ha hf hn)
  generalize a % 4 = c at *
  generalize decide (f % 2 = 1) = k at *
  generalize ofN c (n % 268435456) k = m at *
  have hcm := chk_zero hchk
  have H0 := Lib.hid hchk
  have HB := Lib.hid ((prsE_text c m k hcm.1 (by omega)).trans (if_neg (by rw [hchk]; omega)))
  have HTA := Lib.hid (ttext_all c m k)
  have htl : (ttext c m k).length ≤ 4294967296 := by
    have h1 := cname_len c
    have h2 := textL_9 (n := m) (by omega)
    have h3 : (sufk k).length ≤ 12 := by cases k <;> decide
    rw [ttext_eq]
    simp only [List.length_append, List.length_cons]
    omega
  have HTL := Lib.hid htl
  have hse := bstr_self (bstr (ttext c m k))
  have hse2 : ((bstr (ttext c m k)).toList != (bstr (ttext c m k)).toList) = false := by rw [bne, hse]; rfl
  obtain ⟨T, hT⟩ : ∃ T, bstr (ttext c m k) = T := ⟨_, rfl⟩
  rw [hT] at hse hse2
  have HT := Lib.hid hT
  clear hchk htl hT
  go_enter Tryd.func8, Tryd.ntmps8
  go_wp2_with fail
  refine HO.out.mono ?_
  rintro e w1 ⟨rfl, hb⟩
  have B1 := bt (bt B0 (Lib.hid hb)) (Lib.hid (bel1 w1 (.cells #[.int .u8 (c : Int), .bool k, .int .u32 (m : Int)] 25)))
  have S1 := Lib.hid (Bk.new w1 25 [.int .u8 (c : Int), .bool k, .int .u32 (m : Int)])
  clear B0 hb HO
  go_wp2_with fail
  refine (text_ok c m k _ (E0.out.below B1.out) (by omega) (by omega) H0.out).mono ?_
  rintro e w2 ⟨rfl, hb⟩
  rw [HT.out]
  have B2 := bt B1 (Lib.hid hb)
  have S2 := kt S1 (Lib.hid hb)
  clear B1 S1 hb
  obtain ⟨s0, s1, s2, hsz2⟩ := tag3 S2
  have hp := parse_any (ttext c m k) w2 (E0.out.below B2.out) HTA.out HTL.out
  rw [HT.out, HB.out] at hp
  have HP := Lib.hid hp
  clear hp
  go_wp2_with fail
  refine HP.out.mono ?_
  rintro e w3 ⟨rfl, hb⟩
  have B3 := bt B2 (Lib.hid hb)
  have S3 := kt S2 (Lib.hid hb)
  clear B2 S2 hb s0 s1 s2 hsz2 HP
  obtain ⟨s0, s1, s2, hsz3⟩ := tag3 S3
  go_wp2_with fail
  have S3b := Lib.hid (Bk.new w3 25 [.int .u8 (c : Int), .bool k, .int .u32 (m : Int)])
  have B3b := bt B3 (Lib.hid (bel1 w3 (.cells #[.int .u8 (c : Int), .bool k, .int .u32 (m : Int)] 25)))
  have S3c := kt S3 (Lib.hid (bel1 w3 (.cells #[.int .u8 (c : Int), .bool k, .int .u32 (m : Int)] 25)))
  clear B3 S3 s0 s1 s2 hsz3
  refine (rtextT_any c m k _ hcm.1 (by omega)).mono ?_
  rintro e w4 ⟨rfl, hb⟩
  rw [HT.out]
  have B4 := bt B3b (Lib.hid hb)
  have S4 := kt S3b (Lib.hid hb)
  have S4c := kt S3c (Lib.hid hb)
  clear B3b S3b S3c hb
  obtain ⟨s0, s1, s2, hsz4⟩ := tag3 S4c
  obtain ⟨t0, t1, t2, hst4⟩ := tag3 S4
  obtain ⟨N, hN⟩ : ∃ N, l.length = N := ⟨_, rfl⟩
  rw [hN] at hsz hl
  have HN := Lib.hid hN
  clear hN
  by_cases h60 : 60 < N
  · clear hl
    generalize bstr l = s at *
    go_wp2_with fail
    refine (lives_any _ (E0.out.below B4.out)).mono ?_
    rintro e w5 ⟨rfl, hb⟩
    have B5 := bt B4 (Lib.hid hb)
    clear B4 hb
    go_wp2_with fail
    go_ret
    exact ⟨rfl, B5.out⟩
  · have hp := parse_any l w4 (E0.out.below B4.out) H8.out (by rw [HN.out]; omega)
    have HPR := Lib.hid (fun W : World => rparse_any l W H8.out (by rw [HN.out]; omega))
    rw [HQ.out] at hp
    have HP := Lib.hid hp
    have hq4 : q4 ≤ 9 := by have := prsE_le l; rw [HQ.out] at this; exact this
    have hw4 : IntKind.i64.wrap (q4 : Int) = (q4 : Int) := IntWalk.i64_in _ (by omega)
    rw [HQ.out] at HPR
    clear hp
    generalize bstr l = s at *
    go_wp2_with fail
    refine HP.out.mono ?_
    rintro e w5 ⟨rfl, hb⟩
    have B5 := bt B4 (Lib.hid hb)
    clear B4 S4 S4c hb s0 s1 s2 hsz4 t0 t1 t2 hst4
    go_wp2_with fail
    have S5 := Lib.hid (Bk.new w5 25 [.int .u8 (q1 : Int), .bool q3, .int .u32 (q2 : Int)])
    have B5b := bt B5 (Lib.hid (bel1 w5 (.cells #[.int .u8 (q1 : Int), .bool q3, .int .u32 (q2 : Int)] 25)))
    clear B5 HP
    refine (HPR.out _).mono ?_
    rintro e w6 ⟨rfl, hb⟩
    have B6 := bt B5b (Lib.hid hb)
    have S6 := kt S5 (Lib.hid hb)
    clear B5b S5 hb HPR
    obtain ⟨s0, s1, s2, hsz6⟩ := tag3 S6
    go_wp2_with fail
    refine (lives_any _ (E0.out.below (B6.out.trans ((bel1 w6 _).mono B6.out.size)))).mono ?_
    rintro e w7 ⟨rfl, hb⟩
    have B7 := bt (bt B6 (Lib.hid (bel1 w6 _))) (Lib.hid hb)
    clear B6 hb
    go_wp2_with fail
    go_ret
    exact ⟨rfl, B7.out⟩

theorem text_walk2 (a f n : Nat) (s : ByteArray) (w : World) (hE : Env w) (ha : a < 256) (hf : f < 256) (hn : n < 4294967296) (hs : s.size ≤ maxLen) :
    Calls Tryd.prog 8 #[.agg #[.int .u8 (a : Int), .int .u8 (f : Int), .int .u32 (n : Int)], .string s] w fun e w' => e = .returned (.bool true) ∧ Below w.heap.size w w' := by
  have h := ttx_walk a f n (sl s) w hE ha hf hn (sl_all s) (by have := bstr_size (sl s); rw [bstr_sl] at this; omega)
  rw [bstr_sl] at h
  exact h

open Go.ChangeShapes Go.WideShapes Go.ChangeAt Go.WideMaps Go.WideElems
set_option maxRecDepth 100000 in
theorem tagsText_lifted (os : Os) (started : os.Started) (H : Type) (enc : TypeId × Value → H) :
    ReturnsInHanded {} Tryd.checked os 8 .any (fun w args => (Rows.tagsTextSpec.pre enc Tryd.prog Tryd.f8 [] false w args ∧ laidMetH Tryd.prog laidL w) ∧ sizedMet enc Tryd.prog Tryd.f8 (OpenSpec.ofChange Rows.tagsTextSpec) false w args)
      (Rows.tagsTextSpec.post enc Tryd.prog Tryd.f8 false true false false) := by
  refine returnsInHanded_of_change_and (C := Tryd.checked) (X := fun w _ => laidMetH Tryd.prog laidL w) (fun _ _ _ hh h => h.of_heap hh) x_own started (by kernel_rfl) Tryd.func8
    (ChangeSpec.witness_shaped (enc := enc) (C := Tryd.checked) (os := os) (X := fun w _ => laidMetH Tryd.prog laidL w) false (World.doorLaid Tryd.prog 67 os) #[.agg #[.int .u8 0, .int .u8 0, .int .u32 0], .string ByteArray.empty] 8 rfl (World.shaped_of_RefB (by kernel_rfl) (by kernel_rfl)) (by kernel_rfl) (by kernel_rfl) (by kernel_rfl) (door_met os _)) ?_
  intro W base args ds gs before hval0 hW _ _ hL _
  have hval : ∀ (j : Nat) t v, Tryd.f8.params[j]? = some t → args[j]? = some v → Value.okWide Tryd.prog W .any base t v := hval0
  have hW' := hW
  obtain ⟨p, q, hA0, hV, rfl, hfz, hnd⟩ := hW
  have hA : DataW.TrodAll enc Tryd.prog W 0 (fun _ => true) true Tryd.f8.params.toList args.toList ds p := hA0
  rw [Tryd.params8] at hA hval
  obtain ⟨v0, v1, d0, d1, p0, p1, rfl, rfl, rfl, h0, h1⟩ := trodAll_two hA
  obtain ⟨rfl, rfl⟩ := trodVars_none hV
  obtain ⟨a, f, n, rfl, ha, hf, hn⟩ := open_T (hval 0 _ v0 rfl rfl) h0
  obtain ⟨x1, rfl, _, _, wf1⟩ := Go.ChangeMaps.open_string Tryd.underlying9 (hval 1 _ v1 rfl rfl) h1
  have hE := of_laid hL
  clear hA0 hval0
  simp only [List.append_nil] at hW'
  refine (text_walk2 a f n x1 W hE ha hf hn wf1).mono fun e W' ⟨he, hb⟩ => ?_
  subst he
  exact ⟨_, rfl, law_post (tb := 4) x_laid (by decide +kernel) rfl rfl (by kernel_rfl) Tryd.underlying4 hW' hb⟩

/-- The row's statement. -/
theorem tagsText_row : Rows.TagsTextSaid :=
  OpenClaim.holds_of_wide 8 Tryd.f8 rfl rfl rfl rfl rfl rfl rfl ⟨rfl, rfl, rfl, rfl, rfl⟩ rfl rfl rfl rfl rfl (by kernel_rfl) Tryd.func8 (by kernel_rfl)
    (of_decide_eq_true (by kernel_rfl)) (by unfold Func.isWrapper; first | (rw [if_pos (by decide +kernel)]; kernel_rfl) | (rw [if_neg (by decide +kernel)]; exact ⟨rfl, rfl⟩))
    (fun os started H enc _ => tagsText_lifted os started H enc)

/-- The statement: the card. -/
theorem tagsText_holds : Rows.TagsTextCardSaid :=
  Claim7.holds_tied_plain_at .later [] [.data, .data, .data, .sentinel, .sentinel, .data] true Rows.tagsTextCard.stood.harness true
    tagsText_row (fun _ h => by cases h) (by kernel_rfl) (fun _ h => by cases h) tagsText_row_tie rfl ⟨rfl, rfl⟩ (by kernel_rfl) rfl
    (fun f fn hf hfn => by
      obtain rfl : f = 8 := Option.some.inj ((show Tryd.prog.funcNamed "vidimus/vidimuslaw02.TagsText" = some 8 by kernel_rfl).symm.trans hf) |>.symm
      obtain rfl : fn = Tryd.f8 := (Option.some.inj (Tryd.func8.symm.trans hfn)).symm
      exact ⟨by kernel_rfl, fun j t ht => by
        rw [Tryd.params8] at ht
        have hm : t ∈ Tryd.f8.params.toList := by rw [Tryd.params8]; exact Array.mem_toList_iff.2 (Array.mem_of_getElem? ht)
        have hall : (Tryd.f8.params.toList.all fun u => !Tryd.prog.wantsStandIn u) = true := by kernel_rfl
        exact (show Tryd.prog.wantsStandIn t = false by simpa using List.all_eq_true.1 hall t hm)⟩)
    (by kernel_rfl)
end Go.Proofs.YtcaolgcpcjodnaaDoor
