/-
  Layer 2, the statement TagsGet: Get returns the tag of the definition, or the first error; a tag that it returns has exactly the octets that were read.
  Conditions: the package-level variables that the row lists hold what the program's text lays (the card ties them).
-/
import Derived.Test.YtcaolgcpcjodnaaDoorTagR
import Derived.Test.YtcaolgcpcjodnaaDoorTagV
import Derived.Test.YtcaolgcpcjodnaaDoorTagT
namespace Go.Proofs.YtcaolgcpcjodnaaDoor
open Go.RowKit

/-- The beginning of a slice, if it has one. -/
theorem slice_upto' (b off N c j : Nat) (hj : j ≤ N) (hc : N ≤ c) (W : World) : (Instr.slice 30 (.slice (some ⟨b, off, none⟩) N c) none (some (.int .i64 (j : Int))) none).run Tryd.prog W = .ok (.slice (some ⟨b, off, none⟩) j c) W := by
  have h1 : j ≤ c := by omega
  simp [go_sem, h1]
set_option maxHeartbeats 2000000 in
set_option maxRecDepth 100000 in
theorem get_walk (A : Option Addr) (l : List Nat) (cp : Nat) (w : World) (hE : Env w) (hR : Rb w A l) (hlc : l.length ≤ cp) (hcp : cp ≤ maxLen) :
    Calls Tryd.prog 5 #[.slice A l.length cp] w fun e w' => e = .returned (.bool true) ∧ Below w.heap.size w w' := by
  have E0 := Lib.hid hE
  have R0 := Lib.hid hR
  have HCp := Lib.hid (And.intro hlc hcp)
  clear hE
  by_cases h20 : 20 < l.length
  · have H20 := Lib.hid h20
    obtain ⟨N, hN⟩ : ∃ N, l.length = N := ⟨_, rfl⟩
    rw [hN] at h20 ⊢
    clear hN hR hlc hcp
    go_enter Tryd.func5, Tryd.ntmps5
    go_wp2_with fail
    refine (lives_any _ E0.out).mono ?_
    rintro e w4 ⟨rfl, hb⟩
    have B4 := Lib.hid hb
    clear hb
    go_wp2_with fail
    go_ret
    exact ⟨rfl, B4.out⟩
  obtain ⟨c, n, k, s, f, hq⟩ : ∃ c n k s f, rdL l = (c, n, k, s, f) := ⟨_, _, _, _, _, rfl⟩
  have HQ := Lib.hid hq
  have hle : l.length ≤ 20 := by omega
  have C1 := rget_any A l cp w hlc hcp hR
  have C2 := fun (W : World) (hb : Below w.heap.size w W) => read_ok A l cp c n s f k W hlc hcp (hR.below hb) hq
  obtain ⟨N, hN⟩ : ∃ N, l.length = N := ⟨_, rfl⟩
  rw [hN] at C1 C2 hle hlc ⊢
  have HC1 := Lib.hid C1
  have HC2 := Lib.hid C2
  have HN := Lib.hid hN
  by_cases hf : f = 0
  · subst hf
    obtain ⟨hchk, hc3, hn28, hput, hs⟩ := rd_put hR.2 hq
    have HK := Lib.hid hchk
    have HP := Lib.hid hput
    rw [hN] at hs
    have hb : ∃ b off, A = some ⟨b, off, none⟩ := by
      have h0 : 0 < l.length := by
        cases l with
        | nil => cases hq
        | cons _ _ => simp
      obtain ⟨b, off, e, _⟩ := hR.at_ h0
      exact ⟨b, off, e⟩
    obtain ⟨b, off, rfl⟩ := hb
    have q1 := slice_upto' b off N cp s hs hlc
    have hlen : (putL c n k).length = s := by rw [hput, List.length_take]; omega
    have HL := Lib.hid hlen
    clear hq C1 C2 hN hchk hput hlen hR h20
    go_enter Tryd.func5, Tryd.ntmps5
    go_wp2_with fail
    refine HC1.out.mono ?_
    rintro e w1 ⟨he, hb⟩
    rw [HQ.out] at he
    obtain rfl := he
    have B1 := Lib.hid (hb.alloc hb.size (.cells #[.int .u8 (c : Int), .bool k, .int .u32 (n : Int)] 25))
    have S1 := Lib.hid (Bk.new w1 25 [.int .u8 (c : Int), .bool k, .int .u32 (n : Int)])
    clear hb HC1
    go_wp2_with fail
    refine (HC2.out _ B1.out).mono ?_
    rintro e w2 ⟨rfl, hb⟩
    have B2 := bt B1 (Lib.hid hb)
    have S2 := kt S1 (Lib.hid hb)
    clear B1 S1 hb HC2
    obtain ⟨s0, s1, s2, hsz⟩ := tag3 S2
    go_wp2_with fail
    refine (put_any c n k _ (by omega) (by omega) HK.out).mono ?_
    rintro e w3 ⟨A3, rfl, r3, hb⟩
    have B3 := bt B2 (Lib.hid hb)
    have R3 := Lib.hid r3
    have C4 := same_ok A3 (some ⟨b, off, none⟩) (putL c n k) cp 0 w3 r3 (by rw [HP.out]; exact (R0.out.below B3.out).take_ s)
    rw [HL.out] at C4 ⊢
    have HC4 := Lib.hid C4
    clear B2 S2 hb r3 C4 s0 s1 s2 hsz
    go_wp2_with fail
    refine HC4.out.mono ?_
    rintro e w4 ⟨rfl, rfl⟩
    clear q1 HC4
    go_wp2_with fail
    refine (lives_any _ (E0.out.below B3.out)).mono ?_
    rintro e w5 ⟨rfl, hb⟩
    have B5 := bt B3 (Lib.hid hb)
    clear B3 hb
    go_wp2_with fail
    go_ret
    exact ⟨rfl, B5.out⟩
  · have hfb : ((f : Int) != 0) = true := by rw [bne_iff_ne]; omega
    clear hq C1 C2 hN hR h20 hf
    go_enter Tryd.func5, Tryd.ntmps5
    go_wp2_with fail
    refine HC1.out.mono ?_
    rintro e w1 ⟨he, hb⟩
    rw [HQ.out] at he
    obtain rfl := he
    have B1 := Lib.hid (hb.alloc hb.size (.cells #[.int .u8 (c : Int), .bool k, .int .u32 (n : Int)] 25))
    clear hb HC1
    go_wp2_with fail
    refine (HC2.out _ B1.out).mono ?_
    rintro e w2 ⟨rfl, hb⟩
    have B2 := bt B1 (Lib.hid hb)
    clear B1 hb HC2
    go_wp2_with fail
    refine (lives_any _ (E0.out.below B2.out)).mono ?_
    rintro e w4 ⟨rfl, hb⟩
    have B4 := bt B2 (Lib.hid hb)
    clear B2 hb
    go_wp2_with fail
    go_ret
    exact ⟨rfl, B4.out⟩

open Go.ChangeShapes Go.WideShapes Go.ChangeAt Go.WideMaps Go.WideElems
set_option maxRecDepth 100000 in
theorem tagsGet_lifted (os : Os) (started : os.Started) (H : Type) (enc : TypeId × Value → H) :
    ReturnsInHanded {} Tryd.checked os 5 .any (fun w args => (Rows.tagsGetSpec.pre enc Tryd.prog Tryd.f5 [] false w args ∧ laidMetH Tryd.prog laidL w) ∧ sizedMet enc Tryd.prog Tryd.f5 (OpenSpec.ofChange Rows.tagsGetSpec) false w args)
      (Rows.tagsGetSpec.post enc Tryd.prog Tryd.f5 false true false false) := by
  refine returnsInHanded_of_change_and (C := Tryd.checked) (X := fun w _ => laidMetH Tryd.prog laidL w) (fun _ _ _ hh h => h.of_heap hh) x_own started (by kernel_rfl) Tryd.func5
    (ChangeSpec.witness_shaped (enc := enc) (C := Tryd.checked) (os := os) (X := fun w _ => laidMetH Tryd.prog laidL w) false (World.doorLaid Tryd.prog 67 os) #[.slice none 0 0] 8 rfl (World.shaped_of_RefB (by kernel_rfl) (by kernel_rfl)) (by kernel_rfl) (by kernel_rfl) (by kernel_rfl) (door_met os _)) ?_
  intro W base args ds gs before hval0 hW _ _ hL _
  have hval : ∀ (j : Nat) t v, Tryd.f5.params[j]? = some t → args[j]? = some v → Value.okWide Tryd.prog W .any base t v := hval0
  have hW' := hW
  obtain ⟨p, q, hA0, hV, rfl, hfz, hnd⟩ := hW
  have hA : DataW.TrodAll enc Tryd.prog W 0 (fun _ => true) true Tryd.f5.params.toList args.toList ds p := hA0
  rw [Tryd.params5] at hA hval
  obtain ⟨v0, d0, rfl, rfl, h0⟩ := trodAll_one hA
  obtain ⟨rfl, rfl⟩ := trodVars_none hV
  obtain ⟨A, l, cp, rfl, hR, hlc, hcp⟩ := open_bytes (hval 0 _ v0 rfl rfl) h0
  have hE := of_laid hL
  clear hA0 hval0
  simp only [List.append_nil] at hW'
  refine (get_walk A l cp W hE hR hlc hcp).mono fun e W' ⟨he, hb⟩ => ?_
  subst he
  exact ⟨_, rfl, law_post (tb := 4) x_laid (by decide +kernel) rfl rfl (by kernel_rfl) Tryd.underlying4 hW' hb⟩

/-- The row's statement. -/
theorem tagsGet_row : Rows.TagsGetSaid :=
  OpenClaim.holds_of_wide 5 Tryd.f5 rfl rfl rfl rfl rfl rfl rfl ⟨rfl, rfl, rfl, rfl, rfl⟩ rfl rfl rfl rfl rfl (by kernel_rfl) Tryd.func5 (by kernel_rfl)
    (of_decide_eq_true (by kernel_rfl)) (by unfold Func.isWrapper; first | (rw [if_pos (by decide +kernel)]; kernel_rfl) | (rw [if_neg (by decide +kernel)]; exact ⟨rfl, rfl⟩))
    (fun os started H enc _ => tagsGet_lifted os started H enc)

/-- The statement: the card. -/
theorem tagsGet_holds : Rows.TagsGetCardSaid :=
  Claim7.holds_tied_plain_at .later [] [.data, .data, .data, .sentinel, .sentinel, .data] true Rows.tagsGetCard.stood.harness true
    tagsGet_row (fun _ h => by cases h) (by kernel_rfl) (fun _ h => by cases h) tagsGet_row_tie rfl ⟨rfl, rfl⟩ (by kernel_rfl) rfl
    (fun f fn hf hfn => by
      obtain rfl : f = 5 := Option.some.inj ((show Tryd.prog.funcNamed "vidimus/vidimuslaw02.TagsGet" = some 5 by kernel_rfl).symm.trans hf) |>.symm
      obtain rfl : fn = Tryd.f5 := (Option.some.inj (Tryd.func5.symm.trans hfn)).symm
      exact ⟨by kernel_rfl, fun j t ht => by
        rw [Tryd.params5] at ht
        have hm : t ∈ Tryd.f5.params.toList := by rw [Tryd.params5]; exact Array.mem_toList_iff.2 (Array.mem_of_getElem? ht)
        have hall : (Tryd.f5.params.toList.all fun u => !Tryd.prog.wantsStandIn u) = true := by kernel_rfl
        exact (show Tryd.prog.wantsStandIn t = false by simpa using List.all_eq_true.1 hall t hm)⟩)
    (by kernel_rfl)
end Go.Proofs.YtcaolgcpcjodnaaDoor
