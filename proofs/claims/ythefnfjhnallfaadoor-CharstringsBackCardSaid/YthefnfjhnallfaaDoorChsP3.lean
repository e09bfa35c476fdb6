/-
  Layer 9, the statement CharstringsBack: the content octets of a character string are those of the definition, and are read as the character string again; so is its element; the examples hold.
  Conditions: the package-level variables that the row lists hold what the program's text lays (the card ties them).
-/
import Derived.Test.YthefnfjhnallfaaDoorChsLi
namespace Go.Proofs.YthefnfjhnallfaaDoor.Chs
open Go.RowKit Go.Shelf

set_option linter.unusedSimpArgs false in
set_option linter.unusedVariables false in
set_option maxHeartbeats 6400000 in
set_option maxRecDepth 100000 in
theorem back_walk (kd : Nat) (hkd : kd < 256) (A : Option Addr) (xs : List Nat) (n c : Nat) (w : World) (hA : Rd w A (cs32 xs)) (hx : ∀ y ∈ xs, y < 4294967296) (hN : xs.length = n) (hc : n ≤ c) (hm : c ≤ maxLen) (hT : Tab w) :
    Calls Tryd.prog 4 #[cV kd A n c] w fun e w' => e = .returned (.bool true) ∧ Below w.heap.size w w' := by
  have K0 := ka (Lib.hid (St.start hT)) (Lib.hid hA)
  have HX := Lib.hid hx
  have HN := Lib.hid hN
  have HNM := Lib.hid (Nat.le_trans hc hm)
  obtain ⟨Sz, hSz⟩ : ∃ s, S0 = s := ⟨_, rfl⟩
  have HSZ0 := Lib.hid hSz
  have HSZ : Hid (bstr [] = Sz) := Lib.hid (by rw [← hSz]; rfl)
  have hz : ∀ w : World, (zeroValue 24).run Tryd.prog w = .ok (.agg #[.int .u32 0, .string Sz]) w := by rw [← hSz]; exact zeroCh
  clear hSz
  obtain ⟨p, hp⟩ : ∃ p, kd % 5 = p := ⟨_, rfl⟩
  have hp5 : p < 5 := by omega
  obtain ⟨K, hK⟩ : ∃ K, kN p = K := ⟨_, rfl⟩
  have hk31 := kN_lt hp5
  have hkk := kN_kind hp5
  rw [hK] at hk31 hkk
  have hk32 : K < 4294967296 := by omega
  obtain ⟨cs, hcs⟩ : ∃ cs, ofC K xs = cs := ⟨_, rfl⟩
  obtain ⟨l, hl⟩ : ∃ l, encS cs = l := ⟨_, rfl⟩
  obtain ⟨S, hS⟩ : ∃ S, bstr l = S := ⟨_, rfl⟩
  have hchk : chkC K l = 0 := by rw [← hl, ← hcs]; exact ofC_chk hkk xs
  have h8 : All8 l := by rw [← hl, ← hcs]; exact encS_all ofC_scal
  have hl160 : l.length ≤ 160 := by rw [← hl, ← hcs]; exact ofC_enc K xs
  have hdec : decS l = some cs := by rw [← hl, ← hcs]; exact decS_enc ofC_scal
  obtain ⟨m, hmm⟩ : ∃ m, putL K l = m := ⟨_, rfl⟩
  obtain ⟨N, hNN⟩ : ∃ N, m.length = N := ⟨_, rfl⟩
  obtain ⟨M, hM⟩ : ∃ M, cs.length = M := ⟨_, rfl⟩
  have hget : get9 K m = (K, l, 0) := by rw [← hmm]; exact get9_putL hchk
  have hlen : lenC K l = M := by unfold lenC; rw [if_pos hchk, hdec]; exact hM
  have heln : elN K l = K := if_pos hchk
  have hof : of9 0 K false m 0 = (K, l, 0) := by rw [of9_get hkk (by decide), hget]
  have HP := Lib.hid hp
  have HK := Lib.hid hK
  have HSS : Hid (bstr (encS (ofC K xs)) = S) := Lib.hid (by rw [hcs, hl, hS])
  have HS := Lib.hid hS
  have HCHK := Lib.hid hchk
  have H8 := Lib.hid h8
  have HL : Hid (l.length ≤ 1000000) := Lib.hid (by omega)
  have HL9 : Hid (l.length ≤ 9000000000000000000) := Lib.hid (by omega)
  have HDEC := Lib.hid hdec
  have HMM := Lib.hid hmm
  have HNN := Lib.hid hNN
  have HML := Lib.hid hM
  have HGET := Lib.hid hget
  have HLEN := Lib.hid hlen
  have HELN := Lib.hid heln
  have HOF := Lib.hid hof
  have heq := fun W => eqlS K S W
  clear hA hx hN hc hm hT hp hp5 hk31 hkk hcs hl hchk h8 hl160 hdec hmm hNN hget hlen heln hof hK hS hM
  go_enter Tryd.func4, Tryd.ntmps4
  go_upto_region 1 with fail
  obtain ⟨g1, hg1⟩ : ∃ g, w.heap.size = g := ⟨_, rfl⟩
  obtain ⟨w1, hw1⟩ : ∃ v, w.alloc (.cells #[.int .u8 (kd : Int), .slice A n c] 47) = v := ⟨_, rfl⟩
  have hbk : Hid (Bk w1 g1 47 ([.int .u8 (kd : Int), .slice A n c])) := Lib.hid (by rw [← hw1, ← hg1]; exact Bk.new w _ ([.int .u8 (kd : Int), .slice A n c]))
  have hb : Hid (Below w.heap.size w w1) := Lib.hid (by rw [← hw1]; exact bel1 w _)
  have GE_g1 : Hid (w.heap.size ≤ g1) := Lib.hid (by rw [← hg1]; exact K0.out.b.size)
  rw [hw1, hg1]
  have K1 := kp K0 hb
  clear hb K0
  have Kn := kb K1 hbk
  clear hbk K1 hg1 hw1
  have K1 := Kn
  clear Kn
  go_wp2_with (refine wpList_loadGg (by rfl) (.tmp 1) rfl rfl (rangeB (K1.out.k (g1, 47, [.int .u8 (kd : Int), .slice A n c]) (by simp))) Tryd.underlying47 rfl infoC ?_)
  refine (cof_at w1 kd p hkd HP.out A xs n c HN.out HNM.out HX.out (K1.out.r (A, cs32 xs) (by simp)) K HK.out S HSS.out).mono ?_
  rintro e w2 ⟨rfl, hb⟩
  have K2 := kp K1 hb
  clear hb K1
  go_upto_region 2 with fail
  obtain ⟨g3, hg3⟩ : ∃ g, w2.heap.size = g := ⟨_, rfl⟩
  obtain ⟨w3, hw3⟩ : ∃ v, w2.alloc (.cells #[.int .u32 (K : Int), .string S] 24) = v := ⟨_, rfl⟩
  have hbk : Hid (Bk w3 g3 24 (chL K S)) := Lib.hid (by rw [← hw3, ← hg3]; exact Bk.new w2 _ (chL K S))
  have hb : Hid (Below w2.heap.size w2 w3) := Lib.hid (by rw [← hw3]; exact bel1 w2 _)
  have GE_g3 : Hid (w.heap.size ≤ g3) := Lib.hid (by rw [← hg3]; exact K2.out.b.size)
  rw [hw3, hg3]
  have K3 := kp K2 hb
  clear hb K2
  have Kn := kb K3 hbk
  clear hbk K3 hg3 hw3
  have K3 := Kn
  clear Kn
  go_wp2_with (refine wpList_loadGg (by rfl) (.tmp 3) rfl rfl (rangeB (K3.out.k (g3, 24, chL K S) (by simp))) Tryd.underlying24 rfl infoCh ?_)
  refine (rput_at w3 K l H8.out HCHK.out S HS.out m N HMM.out HNN.out).mono ?_
  rintro e w4 ⟨A2, c2, rfl, hr, hm2, hb⟩
  have K4 := kp K3 hb
  clear hb K3
  have Kn := ka K4 hr
  clear hr K4
  have K4 := Kn
  clear Kn
  go_wp2_with (refine wpList_loadGg (by rfl) (.tmp 3) rfl rfl (rangeB (K4.out.k (g3, 24, chL K S) (by simp))) Tryd.underlying24 rfl infoCh ?_)
  refine (put_at w4 K hk32 l H8.out HL9.out S HS.out 0 HCHK.out m N HMM.out HNN.out K4.out.t).mono ?_
  rintro e w5 ⟨A3, rfl, hr, hb⟩
  have K5 := kp K4 hb
  clear hb K4
  have Kn := ka K5 hr
  clear hr K5
  have K5 := Kn
  clear Kn
  go_wp2_with (refine wpList_loadGg (by rfl) (.tmp 3) rfl rfl (rangeB (K5.out.k (g3, 24, chL K S) (by simp))) Tryd.underlying24 rfl infoCh ?_)
  refine (elem_at w5 K hk32 l H8.out HL9.out S HS.out 0 HCHK.out m N K HMM.out HNN.out HELN.out K5.out.t).mono ?_
  rintro e w6 ⟨A4, rfl, hr, hb⟩
  have K6 := kp K5 hb
  clear hb K5
  have Kn := ka K6 hr
  clear hr K6
  have K6 := Kn
  clear Kn
  go_upto_region 5 with fail
  obtain ⟨g7, hg7⟩ : ∃ g, w6.heap.size = g := ⟨_, rfl⟩
  obtain ⟨w7, hw7⟩ : ∃ v, w6.alloc (.cells #[.int .u8 0, .bool false, .int .u32 (K : Int), .slice A4 N N, .slice none 0 0] 40) = v := ⟨_, rfl⟩
  have hbk : Hid (Bk w7 g7 40 ([.int .u8 0, .bool false, .int .u32 (K : Int), .slice A4 N N, .slice none 0 0])) := Lib.hid (by rw [← hw7, ← hg7]; exact Bk.new w6 _ ([.int .u8 0, .bool false, .int .u32 (K : Int), .slice A4 N N, .slice none 0 0]))
  have hb : Hid (Below w6.heap.size w6 w7) := Lib.hid (by rw [← hw7]; exact bel1 w6 _)
  have GE_g7 : Hid (w.heap.size ≤ g7) := Lib.hid (by rw [← hg7]; exact K6.out.b.size)
  rw [hw7, hg7]
  have K7 := kp K6 hb
  clear hb K6
  have Kn := kb K7 hbk
  clear hbk K7 hg7 hw7
  have K7 := Kn
  clear Kn
  have c_g3_0 : w7.cell? ⟨g3, 0, none⟩ = some (.int .u32 (K : Int)) := by rw [(K7.out.k (g3, 24, chL K S) (by simp)).cell]; rfl
  go_upto_region 6 with fail
  obtain ⟨g9, hg9⟩ : ∃ g, w7.heap.size = g := ⟨_, rfl⟩
  obtain ⟨w8, hw8⟩ : ∃ v, w7.alloc (.cells #[.int .u8 0, .bool false, .int .u32 (K : Int)] 37) = v := ⟨_, rfl⟩
  have hbk : Hid (Bk w8 g9 37 ([.int .u8 0, .bool false, .int .u32 (K : Int)])) := Lib.hid (by rw [← hw8, ← hg9]; exact Bk.new w7 _ ([.int .u8 0, .bool false, .int .u32 (K : Int)]))
  have hb : Hid (Below w7.heap.size w7 w8) := Lib.hid (by rw [← hw8]; exact bel1 w7 _)
  have GE_g9 : Hid (w.heap.size ≤ g9) := Lib.hid (by rw [← hg9]; exact K7.out.b.size)
  rw [hw8, hg9]
  have K8 := kp K7 hb
  clear hb K7
  have Kn := kb K8 hbk
  clear hbk K8 hg9 hw8
  have K8 := Kn
  clear Kn
  clear c_g3_0
  go_wp2_with fail
  refine (same_at w8 A3 A2 m hm2.out.1 N c2 0 (K8.out.r (A3, cs8 m) (by simp)) (K8.out.r (A2, cs8 m) (by simp)) HNN.out).mono ?_
  rintro e w9 ⟨rfl, hb⟩
  have K9 := kp K8 hb
  clear hb K8
  have c_g3_0 : w9.cell? ⟨g3, 0, none⟩ = some (.int .u32 (K : Int)) := by rw [(K9.out.k (g3, 24, chL K S) (by simp)).cell]; rfl
  go_wp2_with (refine wpList_loadGg (by rfl) (.tmp 3) rfl rfl (rangeB (K9.out.k (g3, 24, chL K S) (by simp))) Tryd.underlying24 rfl infoCh ?_)
  clear c_g3_0
  refine (read_at w9 K hk32 A2 m hm2.out.1 N c2 HNN.out hm2.out.2.1 hm2.out.2.2 K l 0 HGET.out S HS.out (K9.out.r (A2, cs8 m) (by simp)) K9.out.t).mono ?_
  rintro e w10 ⟨rfl, hb⟩
  have K10 := kp K9 hb
  clear hb K9
  have c_g7_3 : w10.cell? ⟨g7, 3, none⟩ = some (.slice A4 N N) := by rw [(K10.out.k (g7, 40, [.int .u8 0, .bool false, .int .u32 (K : Int), .slice A4 N N, .slice none 0 0]) (by simp)).cell]; rfl
  have c_g7_4 : w10.cell? ⟨g7, 4, none⟩ = some (.slice none 0 0) := by rw [(K10.out.k (g7, 40, [.int .u8 0, .bool false, .int .u32 (K : Int), .slice A4 N N, .slice none 0 0]) (by simp)).cell]; rfl
  go_wp2_with (first | (refine wpList_loadGg (by rfl) (.tmp 49) rfl rfl (range3 (K10.out.k (g7, 40, [.int .u8 0, .bool false, .int .u32 (K : Int), .slice A4 N N, .slice none 0 0]) (by simp))) Tryd.underlying37 rfl infoT ?_) | (refine wpList_loadGg (by rfl) (.tmp 9) rfl rfl (rangeB (K10.out.k (g9, 37, [.int .u8 0, .bool false, .int .u32 (K : Int)]) (by simp))) Tryd.underlying37 rfl infoT ?_))
  clear c_g7_3 c_g7_4
  refine (same_at w10 A4 A2 m hm2.out.1 N c2 0 (K10.out.r (A4, cs8 m) (by simp)) (K10.out.r (A2, cs8 m) (by simp)) HNN.out).mono ?_
  rintro e w11 ⟨rfl, hb⟩
  have K11 := kp K10 hb
  clear hb K10
  have HNC : Hid (N ≤ N ∧ N ≤ maxLen) := Lib.hid ⟨Nat.le_refl _, Nat.le_trans hm2.out.2.1 hm2.out.2.2⟩
  go_wp2_with (refine wpList_loadGg (by rfl) (.tmp 7) rfl rfl (rangeB (K11.out.k (g7, 40, [.int .u8 0, .bool false, .int .u32 (K : Int), .slice A4 N N, .slice none 0 0]) (by simp))) Tryd.underlying40 rfl infoE ?_)
  refine (of_at w11 0 K false hk32 m hm2.out.1 A4 none N N 0 0 HNN.out HNC.out.1 HNC.out.2 (K11.out.r (A4, cs8 m) (by simp)) K11.out.t K l 0 HOF.out S HS.out).mono ?_
  rintro e w12 ⟨rfl, hb⟩
  have K12 := kp K11 hb
  clear hb K11
  go_upto_region 9 with fail
  obtain ⟨g10, hg10⟩ : ∃ g, w12.heap.size = g := ⟨_, rfl⟩
  obtain ⟨w13, hw13⟩ : ∃ v, w12.alloc (.cells #[.int .u32 (K : Int), .string S] 24) = v := ⟨_, rfl⟩
  have hbk : Hid (Bk w13 g10 24 (chL K S)) := Lib.hid (by rw [← hw13, ← hg10]; exact Bk.new w12 _ (chL K S))
  have hb : Hid (Below w12.heap.size w12 w13) := Lib.hid (by rw [← hw13]; exact bel1 w12 _)
  have GE_g10 : Hid (w.heap.size ≤ g10) := Lib.hid (by rw [← hg10]; exact K12.out.b.size)
  rw [hw13, hg10]
  have K13 := kp K12 hb
  clear hb K12
  have Kn := kb K13 hbk
  clear hbk K13 hg10 hw13
  have K13 := Kn
  clear Kn
  have c_g3_1 : w13.cell? ⟨g3, 1, none⟩ = some (.string S) := by rw [(K13.out.k (g3, 24, chL K S) (by simp)).cell]; rfl
  go_wp2_with fail
  clear c_g3_1
  refine (rdec_at w13 l H8.out S HS.out HL.out cs M HDEC.out HML.out).mono ?_
  rintro e w14 ⟨A5, c5, rfl, hr, hb⟩
  have K14 := kp K13 hb
  clear hb K13
  have Kn := ka K14 hr
  clear hr K14
  have K14 := Kn
  clear Kn
  go_wp2_with (first | (refine wpList_loadGg (by rfl) (.tmp 10) rfl rfl (rangeB (K14.out.k (g10, 24, chL K S) (by simp))) Tryd.underlying24 rfl infoCh ?_) | (refine wpList_loadGg (by rfl) (.tmp 3) rfl rfl (rangeB (K14.out.k (g3, 24, chL K S) (by simp))) Tryd.underlying24 rfl infoCh ?_))
  refine (len_at w14 K hk32 l H8.out HL9.out S HS.out M HLEN.out K14.out.t).mono ?_
  rintro e w15 ⟨rfl, hb⟩
  have K15 := kp K14 hb
  clear hb K14
  go_wp2_with fail
  refine (lives_at w15 K15.out.t).mono ?_
  rintro e w16 ⟨rfl, hb⟩
  have K16 := kp K15 hb
  clear hb K15
  go_wp2_with fail
  go_ret
  exact ⟨rfl, K16.out.b⟩

open Go.ChangeShapes Go.WideShapes Go.ChangeAt Go.WideMaps Go.WideElems
set_option maxRecDepth 100000 in
theorem charstringsBack_lifted (os : Os) (started : os.Started) (H : Type) (enc : TypeId × Value → H) :
    ReturnsInHanded {} Tryd.checked os 4 .any (fun w args => (Rows.charstringsBackSpec.pre enc Tryd.prog Tryd.f4 [] false w args ∧ laidMetH Tryd.prog laidL w) ∧ sizedMet enc Tryd.prog Tryd.f4 (OpenSpec.ofChange Rows.charstringsBackSpec) false w args)
      (Rows.charstringsBackSpec.post enc Tryd.prog Tryd.f4 false true false false) := by
  refine returnsInHanded_of_change_and (C := Tryd.checked) (X := fun w _ => laidMetH Tryd.prog laidL w) (fun _ _ _ hh h => h.of_heap hh) x_own started (by kernel_rfl) Tryd.func4
    (ChangeSpec.witness_shaped (enc := enc) (C := Tryd.checked) (os := os) (X := fun w _ => laidMetH Tryd.prog laidL w) false (World.laidAll Tryd.prog os laidL) #[.agg #[.int .u8 0, .slice none 0 0]] 8 (World.laidAll_os _ _ _) (World.shaped_of_ZipB (by kernel_rfl) (by kernel_rfl)) (by kernel_rfl) (by kernel_rfl) (by kernel_rfl) (door_met os _)) ?_
  intro W base args ds gs before hval0 hW _ _ hL _
  have hval : ∀ (j : Nat) t v, Tryd.f4.params[j]? = some t → args[j]? = some v → Value.okWide Tryd.prog W .any base t v := hval0
  have hW' := hW
  obtain ⟨p, q, hA0, hV, rfl, hfz, hnd⟩ := hW
  have hA : DataW.TrodAll enc Tryd.prog W 0 (fun _ => true) true Tryd.f4.params.toList args.toList ds p := hA0
  rw [Tryd.params4] at hA hval
  obtain ⟨v0, d0, rfl, rfl, h0⟩ := trodAll_one hA
  obtain ⟨rfl, rfl⟩ := trodVars_none hV
  obtain ⟨kd, A, l, c, rfl, hk, hR, hx, hlc, hcm⟩ := open_C (hval 0 _ v0 rfl rfl) h0
  have hE := of_laid hL
  clear hA0 hval0
  simp only [List.append_nil] at hW'
  refine (back_walk kd hk A l l.length c W hR hx rfl hlc hcm hE).mono fun e W' ⟨he, hb⟩ => ?_
  subst he
  exact ⟨_, rfl, law_post (tb := 4) x_laid (by decide +kernel) rfl rfl (by kernel_rfl) Tryd.underlying4 hW' hb⟩

/-- The row's statement. -/
theorem charstringsBack_row : Rows.CharstringsBackSaid :=
  OpenClaim.holds_of_wide 4 Tryd.f4 rfl rfl rfl rfl rfl rfl rfl ⟨rfl, rfl, rfl, rfl, rfl⟩ rfl rfl rfl rfl rfl (by kernel_rfl) Tryd.func4 (by kernel_rfl)
    (of_decide_eq_true (by kernel_rfl)) (by unfold Func.isWrapper; first | (rw [if_pos (by decide +kernel)]; kernel_rfl) | (rw [if_neg (by decide +kernel)]; exact ⟨rfl, rfl⟩))
    (fun os started H enc _ => charstringsBack_lifted os started H enc)

/-- The statement: the card. -/
theorem charstringsBack_holds : Rows.CharstringsBackCardSaid :=
  Claim7.holds_tied_plain_at .later [] [.data, .pinned] true Rows.charstringsBackCard.stood.harness Rows.charstringsBackCard.stood.looks
    charstringsBack_row (fun _ h => by cases h) (by kernel_rfl) (fun _ h => by cases h) charstringsBack_row_tie rfl ⟨rfl, rfl⟩ (by kernel_rfl) rfl
    (fun f fn hf hfn => by
      obtain rfl : f = 4 := Option.some.inj ((show Tryd.prog.funcNamed "vidimus/vidimuslaw09.CharstringsBack" = some 4 by kernel_rfl).symm.trans hf) |>.symm
      obtain rfl : fn = Tryd.f4 := (Option.some.inj (Tryd.func4.symm.trans hfn)).symm
      exact ⟨by kernel_rfl, fun j t ht => by
        rw [Tryd.params4] at ht
        have hm : t ∈ Tryd.f4.params.toList := by rw [Tryd.params4]; exact Array.mem_toList_iff.2 (Array.mem_of_getElem? ht)
        have hall : (Tryd.f4.params.toList.all fun u => !Tryd.prog.wantsStandIn u) = true := by kernel_rfl
        exact (show Tryd.prog.wantsStandIn t = false by simpa using List.all_eq_true.1 hall t hm)⟩)
    (by kernel_rfl)
end Go.Proofs.YthefnfjhnallfaaDoor.Chs
