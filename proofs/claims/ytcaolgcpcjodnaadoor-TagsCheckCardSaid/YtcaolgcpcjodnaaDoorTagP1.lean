/-
  Layer 2, the statement TagsCheck: exactly the valid tags are accepted; the other functions return the error, or the value that the chapter names.
  Conditions: the package-level variables that the row lists hold what the program's text lays (the card ties them).
-/
import Derived.Test.YtcaolgcpcjodnaaDoorTagR
namespace Go.Proofs.YtcaolgcpcjodnaaDoor
open Go.RowKit

set_option maxHeartbeats 2000000 in
set_option maxRecDepth 100000 in
theorem check_walk (c n : Nat) (k : Bool) (w : World) (hE : Env w) (hc : c < 256) (hn : n < 4294967296) :
    Calls Tryd.prog 3 #[tagV c n k] w fun e w' => e = .returned (.bool true) ∧ Below w.heap.size w w' := by
  have E0 := Lib.hid hE
  clear hE
  have S0 := Lib.hid (Bk.new w 25 [.int .u8 (c : Int), .bool k, .int .u32 (n : Int)])
  have B0 := Lib.hid (bel1 w (.cells #[.int .u8 (c : Int), .bool k, .int .u32 (n : Int)] 25))
  obtain ⟨f, hf⟩ : ∃ f, chk c n k = f := ⟨_, rfl⟩
  have HF := Lib.hid hf
  by_cases hz : f = 0
  · subst hz
    clear hf
    go_enter Tryd.func3, Tryd.ntmps3
    go_wp2_with fail
    refine (rcheck_any c n k _ hc hn).mono ?_
    rw [HF.out]
    rintro e w1 ⟨rfl, hb⟩
    have B1 := bt B0 (Lib.hid hb)
    have S1 := kt S0 (Lib.hid hb)
    clear B0 S0 hb
    obtain ⟨s0, s1, s2, hsz⟩ := tag3 S1
    go_wp2_with fail
    refine (check_any c n k _ hc hn).mono ?_
    rw [HF.out]
    rintro e w2 ⟨rfl, hb⟩
    have B2 := bt B1 (Lib.hid hb)
    clear B1 S1 hb s0 s1 s2 hsz
    go_wp2_with fail
    refine (lives_any _ (E0.out.below B2.out)).mono ?_
    rintro e w3 ⟨rfl, hb⟩
    have B3 := bt B2 (Lib.hid hb)
    clear B2 hb
    go_wp2_with fail
    go_ret
    exact ⟨rfl, B3.out⟩
  · have hzb : ((f : Int) == 0) = false := by rw [beq_eq_false_iff_ne]; omega
    have HZ := Lib.hid (show chk c n k ≠ 0 by rw [hf]; exact hz)
    have hq : ((bstr [63]).toList == ([63] : List UInt8)) = true := by decide +kernel
    clear hf hz
    go_enter Tryd.func3, Tryd.ntmps3
    go_wp2_with fail
    refine (rcheck_any c n k _ hc hn).mono ?_
    rw [HF.out]
    rintro e w1 ⟨rfl, hb⟩
    have B1 := bt B0 (Lib.hid hb)
    have S1 := kt S0 (Lib.hid hb)
    clear B0 S0 hb
    obtain ⟨s0, s1, s2, hsz⟩ := tag3 S1
    go_wp2_with fail
    refine (check_any c n k _ hc hn).mono ?_
    rw [HF.out]
    rintro e w2 ⟨rfl, hb⟩
    have B2 := bt B1 (Lib.hid hb)
    have S2 := kt S1 (Lib.hid hb)
    clear B1 S1 hb s0 s1 s2 hsz
    obtain ⟨s0, s1, s2, hsz⟩ := tag3 S2
    go_wp2_with fail
    refine (put_bad c n k _ hc hn HZ.out).mono ?_
    rw [HF.out]
    rintro e w3 ⟨A, rfl, r, hb⟩
    have B3 := bt B2 (Lib.hid hb)
    have S3 := kt S2 (Lib.hid hb)
    have R := Lib.hid r
    clear B2 S2 hb s0 s1 s2 hsz r
    obtain ⟨s0, s1, s2, hsz⟩ := tag3 S3
    go_wp2_with fail
    refine (same_ok A none [] 0 f w3 R.out Rb.nil).mono ?_
    rintro e w4 ⟨rfl, rfl⟩
    go_wp2_with fail
    refine (size_any c n k _ hc hn).mono ?_
    rw [show sizeN c n k = 0 from if_pos HZ.out]
    rintro e w5 ⟨rfl, hb⟩
    have B5 := bt B3 (Lib.hid hb)
    have S5 := kt S3 (Lib.hid hb)
    clear B3 S3 hb s0 s1 s2 hsz R
    obtain ⟨s0, s1, s2, hsz⟩ := tag3 S5
    go_wp2_with fail
    refine (text_bad c n k _ hc hn HZ.out).mono ?_
    rintro e w6 ⟨rfl, hb⟩
    have B6 := bt B5 (Lib.hid hb)
    clear B5 S5 hb s0 s1 s2 hsz
    go_wp2_with fail
    refine (lives_any _ (E0.out.below B6.out)).mono ?_
    rintro e w7 ⟨rfl, hb⟩
    have B7 := bt B6 (Lib.hid hb)
    clear B6 hb
    go_wp2_with fail
    go_ret
    exact ⟨rfl, B7.out⟩

open Go.ChangeShapes Go.WideShapes Go.ChangeAt Go.WideMaps Go.WideElems
set_option maxRecDepth 100000 in
theorem tagsCheck_lifted (os : Os) (started : os.Started) (H : Type) (enc : TypeId × Value → H) :
    ReturnsInHanded {} Tryd.checked os 3 .any (fun w args => (Rows.tagsCheckSpec.pre enc Tryd.prog Tryd.f3 [] false w args ∧ laidMetH Tryd.prog laidL w) ∧ sizedMet enc Tryd.prog Tryd.f3 (OpenSpec.ofChange Rows.tagsCheckSpec) false w args)
      (Rows.tagsCheckSpec.post enc Tryd.prog Tryd.f3 false true false false) := by
  refine returnsInHanded_of_change_and (C := Tryd.checked) (X := fun w _ => laidMetH Tryd.prog laidL w) (fun _ _ _ hh h => h.of_heap hh) x_own started (by kernel_rfl) Tryd.func3
    (ChangeSpec.witness_shaped (enc := enc) (C := Tryd.checked) (os := os) (X := fun w _ => laidMetH Tryd.prog laidL w) false (World.doorLaid Tryd.prog 67 os) #[.agg #[.int .u8 0, .bool false, .int .u32 0]] 8 rfl (World.shaped_of_RefB (by kernel_rfl) (by kernel_rfl)) (by kernel_rfl) (by kernel_rfl) (by kernel_rfl) (door_met os _)) ?_
  intro W base args ds gs before hval0 hW _ _ hL _
  have hval : ∀ (j : Nat) t v, Tryd.f3.params[j]? = some t → args[j]? = some v → Value.okWide Tryd.prog W .any base t v := hval0
  have hW' := hW
  obtain ⟨p, q, hA0, hV, rfl, hfz, hnd⟩ := hW
  have hA : DataW.TrodAll enc Tryd.prog W 0 (fun _ => true) true Tryd.f3.params.toList args.toList ds p := hA0
  rw [Tryd.params3] at hA hval
  obtain ⟨v0, d0, rfl, rfl, h0⟩ := trodAll_one hA
  obtain ⟨rfl, rfl⟩ := trodVars_none hV
  obtain ⟨c, n, k, rfl, hc, hn⟩ := open_tag (hval 0 _ v0 rfl rfl) h0
  have hE := of_laid hL
  clear hA0 hval0
  simp only [List.append_nil] at hW'
  refine (check_walk c n k W hE hc hn).mono fun e W' ⟨he, hb⟩ => ?_
  subst he
  exact ⟨_, rfl, law_post (tb := 4) x_laid (by decide +kernel) rfl rfl (by kernel_rfl) Tryd.underlying4 hW' hb⟩

/-- The row's statement. -/
theorem tagsCheck_row : Rows.TagsCheckSaid :=
  OpenClaim.holds_of_wide 3 Tryd.f3 rfl rfl rfl rfl rfl rfl rfl ⟨rfl, rfl, rfl, rfl, rfl⟩ rfl rfl rfl rfl rfl (by kernel_rfl) Tryd.func3 (by kernel_rfl)
    (of_decide_eq_true (by kernel_rfl)) (by unfold Func.isWrapper; first | (rw [if_pos (by decide +kernel)]; kernel_rfl) | (rw [if_neg (by decide +kernel)]; exact ⟨rfl, rfl⟩))
    (fun os started H enc _ => tagsCheck_lifted os started H enc)

/-- The statement: the card. -/
theorem tagsCheck_holds : Rows.TagsCheckCardSaid :=
  Claim7.holds_tied_plain_at .later [] [.data, .data, .data, .sentinel, .sentinel, .data] true Rows.tagsCheckCard.stood.harness true
    tagsCheck_row (fun _ h => by cases h) (by kernel_rfl) (fun _ h => by cases h) tagsCheck_row_tie rfl ⟨rfl, rfl⟩ (by kernel_rfl) rfl
    (fun f fn hf hfn => by
      obtain rfl : f = 3 := Option.some.inj ((show Tryd.prog.funcNamed "vidimus/vidimuslaw02.TagsCheck" = some 3 by kernel_rfl).symm.trans hf) |>.symm
      obtain rfl : fn = Tryd.f3 := (Option.some.inj (Tryd.func3.symm.trans hfn)).symm
      exact ⟨by kernel_rfl, fun j t ht => by
        rw [Tryd.params3] at ht
        have hm : t ∈ Tryd.f3.params.toList := by rw [Tryd.params3]; exact Array.mem_toList_iff.2 (Array.mem_of_getElem? ht)
        have hall : (Tryd.f3.params.toList.all fun u => !Tryd.prog.wantsStandIn u) = true := by kernel_rfl
        exact (show Tryd.prog.wantsStandIn t = false by simpa using List.all_eq_true.1 hall t hm)⟩)
    (by kernel_rfl)
end Go.Proofs.YtcaolgcpcjodnaaDoor
