/-
  Layer 9, the statement CharstringsGet: content octets are read as the definition says, and only those that are returned for some character string; the examples hold.
  Conditions: the package-level variables that the row lists hold what the program's text lays (the card ties them).
-/
import Derived.Test.YthefnfjhnallfaaDoorChsLi
namespace Go.Proofs.YthefnfjhnallfaaDoor.Chs
open Go.RowKit Go.Shelf

set_option linter.unusedSimpArgs false in
set_option linter.unusedVariables false in
set_option maxHeartbeats 6400000 in
set_option maxRecDepth 100000 in
theorem get_walk (k : Nat) (hk : k < 4294967296) (A : Option Addr) (l : List Nat) (N c : Nat) (w : World) (hA : Rb w A l) (hN : l.length = N) (hc : N ≤ c) (hm : c ≤ maxLen) (hT : Tab w) :
    Calls Tryd.prog 5 #[.int .u32 (k : Int), .slice A N c] w fun e w' => e = .returned (.bool true) ∧ Below w.heap.size w w' := by
  have K0 := ka (Lib.hid (St.start hT)) (Lib.hid hA.1)
  have H8 := Lib.hid hA.2
  have HN := Lib.hid hN
  have HC := Lib.hid hc
  have HM := Lib.hid hm
  obtain ⟨Sz, hSz⟩ : ∃ s, S0 = s := ⟨_, rfl⟩
  have HSZ0 := Lib.hid hSz
  have HSZ : Hid (bstr [] = Sz) := Lib.hid (by rw [← hSz]; rfl)
  have hz : ∀ w : World, (zeroValue 24).run Tryd.prog w = .ok (.agg #[.int .u32 0, .string Sz]) w := by rw [← hSz]; exact zeroCh
  clear hSz
  obtain ⟨⟨k2, m, f⟩, hq⟩ : ∃ T, get9 k l = T := ⟨_, rfl⟩
  have HQ := Lib.hid hq
  obtain ⟨S, hS⟩ : ∃ S, bstr m = S := ⟨_, rfl⟩
  have HS := Lib.hid hS
  clear hA hN hc hm hT hq hS
  by_cases h100 : 100 < N
  · have hi : (100 : Int) < (N : Int) := by omega
    clear h100
    go_enter Tryd.func5, Tryd.ntmps5
    go_wp2_with fail
    refine (lives_at w K0.out.t).mono ?_
    rintro e w1 ⟨rfl, hb⟩
    have K1 := kp K0 hb
    clear hb K0
    go_wp2_with fail
    go_ret
    exact ⟨rfl, K1.out.b⟩
  · have hi : ¬ (100 : Int) < (N : Int) := by omega
    clear h100
    go_enter Tryd.func5, Tryd.ntmps5
    go_wp2_with fail
    refine (rget_at w k hk l H8.out A N c HN.out HC.out HM.out (K0.out.r (A, cs8 l) (by simp)) k2 m f HQ.out S HS.out).mono ?_
    rintro e w1 ⟨rfl, hb⟩
    have K1 := kp K0 hb
    clear hb K0
    go_upto_region 4 with fail
    obtain ⟨g5, hg5⟩ : ∃ g, w1.heap.size = g := ⟨_, rfl⟩
    obtain ⟨w2, hw2⟩ : ∃ v, w1.alloc (.cells #[.int .u32 (k2 : Int), .string S] 24) = v := ⟨_, rfl⟩
    have hbk : Hid (Bk w2 g5 24 (chL k2 S)) := Lib.hid (by rw [← hw2, ← hg5]; exact Bk.new w1 _ (chL k2 S))
    have hb : Hid (Below w1.heap.size w1 w2) := Lib.hid (by rw [← hw2]; exact bel1 w1 _)
    have GE_g5 : Hid (w.heap.size ≤ g5) := Lib.hid (by rw [← hg5]; exact K1.out.b.size)
    rw [hw2, hg5]
    have K2 := kp K1 hb
    clear hb K1
    have Kn := kb K2 hbk
    clear hbk K2 hg5 hw2
    have K2 := Kn
    clear Kn
    go_wp2_with (refine wpList_loadGg (by rfl) (.tmp 5) rfl rfl (rangeB (K2.out.k (g5, 24, chL k2 S) (by simp))) Tryd.underlying24 rfl infoCh ?_)
    refine (read_at w2 k hk A l H8.out N c HN.out HC.out HM.out k2 m f HQ.out S HS.out (K2.out.r (A, cs8 l) (by simp)) K2.out.t).mono ?_
    rintro e w3 ⟨rfl, hb⟩
    have K3 := kp K2 hb
    clear hb K2
    by_cases hf : f = 0
    · subst hf
      have HI : Hid (k2 = k ∧ chkC k m = 0 ∧ putL k m = l) := Lib.hid (by
        have := get9_inv (k := k) H8.out (by rw [HQ.out])
        rw [HQ.out] at this
        exact this)
      have hkk := HI.out.1
      subst hkk
      have HZ := chkC_zero HI.out.2.1
      have H8M : Hid (All8 m) := Lib.hid (by
        obtain ⟨_, _, cs, h1, h2⟩ := HZ
        rw [(decS_iff.1 h1).1]
        exact encS_all (fun c hc => hasN_scal (h2 c hc)))
      have HLM : Hid (m.length ≤ 9000000000000000000) := Lib.hid (by have := HZ.2.1; omega)
      clear HZ
      go_wp2_with (refine wpList_loadGg (by rfl) (.tmp 5) rfl rfl (rangeB (K3.out.k (g5, 24, chL k2 S) (by simp))) Tryd.underlying24 rfl infoCh ?_)
      refine (put_at w3 k2 hk m H8M.out HLM.out S HS.out 0 HI.out.2.1 l N HI.out.2.2 HN.out K3.out.t).mono ?_
      rintro e w4 ⟨A1, rfl, hr, hb⟩
      have K4 := kp K3 hb
      clear hb K3
      have Kn := ka K4 hr
      clear hr K4
      have K4 := Kn
      clear Kn
      go_wp2_with fail
      refine (same_at w4 A1 A l H8.out N c 0 (K4.out.r (A1, cs8 l) (by simp)) (K4.out.r (A, cs8 l) (by simp)) HN.out).mono ?_
      rintro e w5 ⟨rfl, hb⟩
      have K5 := kp K4 hb
      clear hb K4
      go_wp2_with fail
      refine (lives_at w5 K5.out.t).mono ?_
      rintro e w6 ⟨rfl, hb⟩
      have K6 := kp K5 hb
      clear hb K5
      go_wp2_with fail
      go_ret
      exact ⟨rfl, K6.out.b⟩
    · have hf1 : ((f : Int) != 0) = true := by simp; omega
      have hf2 : ¬ (f : Int) = 0 := by omega
      clear hf
      go_wp2_with fail
      refine (lives_at w3 K3.out.t).mono ?_
      rintro e w4 ⟨rfl, hb⟩
      have K4 := kp K3 hb
      clear hb K3
      go_wp2_with fail
      go_ret
      exact ⟨rfl, K4.out.b⟩

open Go.ChangeShapes Go.WideShapes Go.ChangeAt Go.WideMaps Go.WideElems
set_option maxRecDepth 100000 in
theorem charstringsGet_lifted (os : Os) (started : os.Started) (H : Type) (enc : TypeId × Value → H) :
    ReturnsInHanded {} Tryd.checked os 5 .any (fun w args => (Rows.charstringsGetSpec.pre enc Tryd.prog Tryd.f5 [] false w args ∧ laidMetH Tryd.prog laidL w) ∧ sizedMet enc Tryd.prog Tryd.f5 (OpenSpec.ofChange Rows.charstringsGetSpec) false w args)
      (Rows.charstringsGetSpec.post enc Tryd.prog Tryd.f5 false true false false) := by
  refine returnsInHanded_of_change_and (C := Tryd.checked) (X := fun w _ => laidMetH Tryd.prog laidL w) (fun _ _ _ hh h => h.of_heap hh) x_own started (by kernel_rfl) Tryd.func5
    (ChangeSpec.witness_shaped (enc := enc) (C := Tryd.checked) (os := os) (X := fun w _ => laidMetH Tryd.prog laidL w) false (World.laidAll Tryd.prog os laidL) #[.int .u32 0, .slice none 0 0] 8 (World.laidAll_os _ _ _) (World.shaped_of_ZipB (by kernel_rfl) (by kernel_rfl)) (by kernel_rfl) (by kernel_rfl) (by kernel_rfl) (door_met os _)) ?_
  intro W base args ds gs before hval0 hW _ _ hL _
  have hval : ∀ (j : Nat) t v, Tryd.f5.params[j]? = some t → args[j]? = some v → Value.okWide Tryd.prog W .any base t v := hval0
  have hW' := hW
  obtain ⟨p, q, hA0, hV, rfl, hfz, hnd⟩ := hW
  have hA : DataW.TrodAll enc Tryd.prog W 0 (fun _ => true) true Tryd.f5.params.toList args.toList ds p := hA0
  rw [Tryd.params5] at hA hval
  obtain ⟨v0, v1, d0, d1, p0, p1, rfl, rfl, rfl, h0, h1⟩ := trodAll_two hA
  obtain ⟨rfl, rfl⟩ := trodVars_none hV
  obtain ⟨k, rfl, hk⟩ := open_u32 (hval 0 _ v0 rfl rfl) h0
  obtain ⟨A, l, c, rfl, hR, hlc, hcm⟩ := open_bytes (hval 1 _ v1 rfl rfl) h1
  have hE := of_laid hL
  clear hA0 hval0
  simp only [List.append_nil] at hW'
  refine (get_walk k hk A l l.length c W hR rfl hlc hcm hE).mono fun e W' ⟨he, hb⟩ => ?_
  subst he
  exact ⟨_, rfl, law_post (tb := 4) x_laid (by decide +kernel) rfl rfl (by kernel_rfl) Tryd.underlying4 hW' hb⟩

/-- The row's statement. -/
theorem charstringsGet_row : Rows.CharstringsGetSaid :=
  OpenClaim.holds_of_wide 5 Tryd.f5 rfl rfl rfl rfl rfl rfl rfl ⟨rfl, rfl, rfl, rfl, rfl⟩ rfl rfl rfl rfl rfl (by kernel_rfl) Tryd.func5 (by kernel_rfl)
    (of_decide_eq_true (by kernel_rfl)) (by unfold Func.isWrapper; first | (rw [if_pos (by decide +kernel)]; kernel_rfl) | (rw [if_neg (by decide +kernel)]; exact ⟨rfl, rfl⟩))
    (fun os started H enc _ => charstringsGet_lifted os started H enc)

/-- The statement: the card. -/
theorem charstringsGet_holds : Rows.CharstringsGetCardSaid :=
  Claim7.holds_tied_plain_at .later [] [.data, .pinned] true Rows.charstringsGetCard.stood.harness Rows.charstringsGetCard.stood.looks
    charstringsGet_row (fun _ h => by cases h) (by kernel_rfl) (fun _ h => by cases h) charstringsGet_row_tie rfl ⟨rfl, rfl⟩ (by kernel_rfl) rfl
    (fun f fn hf hfn => by
      obtain rfl : f = 5 := Option.some.inj ((show Tryd.prog.funcNamed "vidimus/vidimuslaw09.CharstringsGet" = some 5 by kernel_rfl).symm.trans hf) |>.symm
      obtain rfl : fn = Tryd.f5 := (Option.some.inj (Tryd.func5.symm.trans hfn)).symm
      exact ⟨by kernel_rfl, fun j t ht => by
        rw [Tryd.params5] at ht
        have hm : t ∈ Tryd.f5.params.toList := by rw [Tryd.params5]; exact Array.mem_toList_iff.2 (Array.mem_of_getElem? ht)
        have hall : (Tryd.f5.params.toList.all fun u => !Tryd.prog.wantsStandIn u) = true := by kernel_rfl
        exact (show Tryd.prog.wantsStandIn t = false by simpa using List.all_eq_true.1 hall t hm)⟩)
    (by kernel_rfl)
end Go.Proofs.YthefnfjhnallfaaDoor.Chs
