/-
  Layer 12: FieldsSequence: the fields of a SEQUENCE are those of the definition, or there is the first fault.
  Conditions: none beyond that the codes are bytes.
-/
import Derived.Test.YtklljbcnfamikaaFlP
import Derived.Test.YtklljbcnfamikaaFlT
import Derived.Test.YtklljbcnfamikaaFlFd
import Derived.Test.YtklljbcnfamikaaFlX
namespace Go.Proofs.Ytklljbcnfamikaa.Fl
open Go.RowKit

theorem maxN {n : Nat} (h : n ≤ maxLen) : n ≤ 9223372036854775807 := by unfold maxLen at h; omega
/-- A row of fields that a call has built, opened. -/
theorem own_fd {w : World} {base : Nat} {v : Value} {l : List Fd} (h : w.ownsRow base 49 5 v l.length (csF l)) : ∃ A n c, v = .slice A n c ∧ l.length = n ∧ n ≤ c ∧ c ≤ maxLen ∧ Rd w A (csF l) := by
  have hc := fun (g : Nat) (hg : v.ownBlock = some g) => h.cells hg
  rcases h.2 with ⟨rfl, h0⟩ | ⟨g, cap, cur, rfl, hb, hg, hn, hm, hs, ht⟩
  · exact ⟨none, 0, 0, rfl, h0, by omega, by unfold maxLen; omega, by rw [List.eq_nil_of_length_eq_zero h0]; exact Rd.nil⟩
  · refine ⟨_, _, cap, rfl, rfl, hn, hm, fun _ => ⟨g, 0, rfl, ?_, fun j u hu => ?_⟩⟩
    · rcases Nat.lt_or_ge g w.heap.size with hlt | hge
      · exact hlt
      · rw [Array.getElem?_eq_none hge] at hg; cases hg
    · have := hc g rfl j u hu
      rw [Nat.zero_add]
      have e : (⟨g, 0, none⟩ : Addr).add j = ⟨g, j, none⟩ := by unfold Addr.add; split <;> simp_all
      rwa [e] at this
theorem infoT3 : (Try.prog.info? 29).map (·.size) = some 3 := by kernel_rfl
theorem fldL_len (l : List (Nat × Nat)) : (fldL l).length ≤ 20 := by unfold fldL; rw [List.length_map, List.length_take]; omega
set_option linter.unusedSimpArgs false in
set_option maxHeartbeats 4000000 in
set_option maxRecDepth 100000 in
theorem seq_law (code : List Nat) (A : Option Addr) (n c : Nat) (l : List (Nat × Nat)) (A2 : Option Addr) (n2 c2 t : Nat) (w : World) (hA : Rb w A code) (hn : code.length = n) (hnm : n ≤ maxLen) (hA2 : Rd w A2 (csP l)) (hf : fitP l) (hn2 : l.length = n2) (hm2 : n2 ≤ maxLen) (ht : t < 256) :
    Calls Try.prog 3 #[.agg #[.slice A n c], .slice A2 n2 c2, .int .u8 (t : Int)] w fun e w' => e = .returned (.bool true) ∧ Below w.heap.size w w' := by
  obtain ⟨r, hr⟩ : ∃ r, t % 8 = r := ⟨_, rfl⟩
  obtain ⟨q, hq⟩ : ∃ q, t / 8 = q := ⟨_, rfl⟩
  have hm : (t : Int).tmod 8 = (r : Int) := by rw [← hr]; exact (Int.ofNat_tmod t 8).symm
  have hmd : (t : Int) % 8 = (r : Int) := by omega
  have hd : (t : Int).tdiv 8 = (q : Int) := by rw [← hq]; exact (Int.ofNat_tdiv t 8).symm
  have hdd : (t : Int) / 8 = (q : Int) := by omega
  have hq8 : q < 256 := by omega
  have HT := Lib.hid ht
  have RA := Lib.hid hA
  have RL := Lib.hid hA2
  have HF := Lib.hid hf
  have HN := Lib.hid (And.intro hn hnm)
  have HN2 := Lib.hid (And.intro hn2 hm2)
  have B := Lib.hid (Below.refl w.heap.size w)
  clear hA hA2 hf hn hnm hn2 hm2 hr hq ht
  go_enter Try.func3, Try.ntmps3
  go_upto_region 1 with fail
  obtain ⟨g3, hg3⟩ : ∃ g, w.heap.size = g := ⟨_, rfl⟩
  obtain ⟨w1, hw⟩ : ∃ v, w.alloc (.cells #[.slice A n c] 24) = v := ⟨_, rfl⟩
  have hbh := Lib.hid (show Below w.heap.size w w1 by rw [← hw]; exact bel1 _ _)
  have K3n := Lib.hid (show Bk w1 g3 24 [.slice A n c] by rw [← hw, ← hg3]; exact Bk.new w _ [_])
  rw [hw, hg3]
  replace RA := Lib.hid (RA.out.below hbh.out)
  replace RL := rt RL hbh
  replace B := bt B hbh
  have K3 := K3n
  clear hbh hw K3n
  have c0 : w1.cell? ⟨g3, 0, none⟩ = some (.slice A n c) := K3.out.cell 0
  go_wp2_with fail
  refine (tof_any code A n c HN.out.1 HN.out.2 _ RA.out).mono ?_
  rintro e w2 ⟨B1, m, cb, rfl, hm1, hmc, hcm, hrs, hb⟩
  have HM := Lib.hid (And.intro hm1 (And.intro hmc hcm))
  have hbh := Lib.hid hb
  replace RA := Lib.hid (RA.out.below hbh.out)
  replace RL := rt RL hbh
  replace B := bt B hbh
  replace K3 := kt K3 hbh
  have RS := Lib.hid hrs
  clear hbh hb hm1 hmc hcm hrs c0
  go_upto_region 2 with fail
  obtain ⟨gE, hgE⟩ : ∃ g, w2.heap.size = g := ⟨_, rfl⟩
  obtain ⟨w3, hw⟩ : ∃ v, w2.alloc (.cells #[.int .u8 0, .bool true, .int .u32 16, .slice none 0 0, .slice B1 m cb] 32) = v := ⟨_, rfl⟩
  have hbh := Lib.hid (show Below w2.heap.size w2 w3 by rw [← hw]; exact bel1 _ _)
  have KEn := Lib.hid (show Bk w3 gE 32 [.int .u8 0, .bool true, .int .u32 16, .slice none 0 0, .slice B1 m cb] by rw [← hw, ← hgE]; exact Bk.new w2 _ [_, _, _, _, _])
  rw [hw, hgE]
  replace RA := Lib.hid (RA.out.below hbh.out)
  replace RL := rt RL hbh
  replace B := bt B hbh
  replace K3 := kt K3 hbh
  replace RS := Lib.hid (RS.out.stay hbh.out)
  have KE := KEn
  clear hbh hw KEn
  go_wp2_with fail
  refine (fields_any l A2 n2 c2 HN2.out.1 HN2.out.2 _ RL.out HF.out).mono ?_
  rintro e w4 ⟨v, rfl, hown, hb⟩
  obtain ⟨AF, nF, cF, rfl, hLn, hFc, hFm, hrF⟩ := own_fd hown
  have H3 := Lib.hid (And.intro hLn (And.intro hFc hFm))
  have hbh := Lib.hid hb
  replace RA := Lib.hid (RA.out.below hbh.out)
  replace RL := rt RL hbh
  replace B := bt B hbh
  replace K3 := kt K3 hbh
  replace RS := Lib.hid (RS.out.stay hbh.out)
  replace KE := kt KE hbh
  have RF := Lib.hid hrF
  clear hbh hb hown hLn hFc hFm hrF
  clear RL
  go_wp2_with fail
  refine (tag_any 0 0 16 true _ (by decide) rfl).mono ?_
  rintro e w5 ⟨rfl, hb⟩
  have hbh := Lib.hid hb
  replace RA := Lib.hid (RA.out.below hbh.out)
  replace B := bt B hbh
  replace K3 := kt K3 hbh
  replace RS := Lib.hid (RS.out.stay hbh.out)
  replace KE := kt KE hbh
  replace RF := rt RF hbh
  clear hbh hb 
  go_upto_region 4 with fail
  obtain ⟨gT, hgT⟩ : ∃ g, w5.heap.size = g := ⟨_, rfl⟩
  obtain ⟨w6, hw⟩ : ∃ v, w5.alloc (.cells #[.int .u8 0, .bool true, .int .u32 16] 29) = v := ⟨_, rfl⟩
  have HB56 := Lib.hid (show Below w5.heap.size w5 w6 by rw [← hw]; exact bel1 _ _)
  have KT := Lib.hid (show Bk w6 gT 29 [.int .u8 0, .bool true, .int .u32 16] by rw [← hw, ← hgT]; exact Bk.new w5 _ [_, _, _])
  rw [hw, hgT]
  have HGT := Lib.hid hgT
  clear hw hgT
  go_upto_if 21 with fail
  go_cut [9] (fun z9 wx => ∃ (tc tn : Nat) (tk : Bool), z9 = .pointer (some ⟨gT, 0, none⟩) ∧ Bk wx gT 29 [.int .u8 (tc : Int), .bool tk, .int .u32 (tn : Int)] ∧ Below w5.heap.size w5 wx)
  case first =>
    by_cases h7 : r = 7
    · subst h7
      have htn := tagN_lt hq8
      obtain ⟨p3, hp3⟩ : ∃ p, tagN q = p := ⟨_, rfl⟩
      obtain ⟨tc, tn, tk⟩ := p3
      clear htn
      have HQ3 := Lib.hid hp3
      clear hp3
      go_wp2_with fail
      refine (tag_any q tc tn tk _ hq8 HQ3.out).mono ?_
      rintro e wy ⟨rfl, hby⟩
      have ky := kt KT (Lib.hid hby)
      have HB5y := bt HB56 (Lib.hid hby)
      clear hby
      go_wp2_with (refine wpList_storeG rfl _ _ rfl (ds := [.int .u8 (tc : Int), .bool tk, .int .u32 (tn : Int)]) rfl rfl ky.out infoT3 rfl rfl ?_; intro wz hz1 hz2 _)
      go_meet
      exact ⟨tc, tn, tk, rfl, hz1, HB5y.out.trans (only_below hz2 (by have := HGT.out; omega) HB5y.out.size)⟩
    · have h7b : ((r : Int) == 7) = false := by simp; omega
      go_wp2_with fail
      go_meet
      exact ⟨0, 16, true, rfl, KT.out, HB56.out⟩
  case rest =>
    obtain ⟨tc, tn, tk, rfl, hkt, hbx⟩ := hcut
    generalize wc = w6' at *
    have KTx := Lib.hid hkt
    have hbh := Lib.hid hbx
    clear hkt hbx KT HB56 HGT hm hmd hd hdd hq8 HT
    replace RA := Lib.hid (RA.out.below hbh.out)
    replace B := bt B hbh
    replace K3 := kt K3 hbh
    replace RS := Lib.hid (RS.out.stay hbh.out)
    replace KE := kt KE hbh
    replace RF := rt RF hbh
    clear hbh
    obtain ⟨R, hR⟩ : ∃ R, sqR tc tn tk (.mk 0 16 true [] (tofS code)) (fldL l) = R := ⟨_, rfl⟩
    obtain ⟨I, P, f⟩ := R
    have HR := Lib.hid hR
    clear hR
    have HS1 := Lib.hid fun W hS hA => seq_any (x := false) (S := fun j => w1.heap.size ≤ j ∧ j < w2.heap.size) 0 16 true (.slice none 0 0) [] (tofS code) B1 m cb tc tn tk (fldL l) AF nF cF W HM.out.1 HM.out.2.1 HM.out.2.2 hS H3.out.1 hA (maxN (Nat.le_trans H3.out.2.1 H3.out.2.2)) I P f HR.out
    have HS2 := Lib.hid fun W hS hA => rseq_any (x := false) (S := fun j => w1.heap.size ≤ j ∧ j < w2.heap.size) 0 16 true (.slice none 0 0) [] (tofS code) B1 m cb tc tn tk (fldL l) AF nF cF W HM.out.1 HM.out.2.1 HM.out.2.2 hS H3.out.1 hA (by have := fldL_len l; have := H3.out.1; omega) I P f HR.out
    obtain ⟨e0, e1, e2, e3, e4, ez⟩ := KE.out.five
    have t0 := KTx.out.cell 0
    have t1 := KTx.out.cell 1
    have t2 := KTx.out.cell 2
    simp only [List.getElem?_cons_zero, List.getElem?_cons_succ] at t0 t1 t2
    go_wp2_with fail
    refine (HS1.out _ RS.out RF.out).mono ?_
    rintro e w7 ⟨A5, n5, c5, A6, m5, q5, rfl, hI, _, hcm5, hrI, hP, _, hdm, hrP, hx, hb⟩
    obtain ⟨hx1, hx2⟩ := hx rfl
    subst hx1 hx2
    have HI := Lib.hid (And.intro hI hcm5)
    have HP := Lib.hid (And.intro hP hdm)
    have hbh := Lib.hid hb
    replace RA := Lib.hid (RA.out.below hbh.out)
    replace B := bt B hbh
    replace K3 := kt K3 hbh
    replace RS := Lib.hid (RS.out.stay hbh.out)
    replace KE := kt KE hbh
    replace RF := rt RF hbh
    replace KTx := kt KTx hbh
    have RI := Lib.hid hrI.rd
    have RP := Lib.hid hrP.rd
    clear hbh hb hI hcm5 hP hdm hrI hrP hx e0 e1 e2 e3 e4 ez t0 t1 t2
    go_upto_region 7 with fail
    obtain ⟨gF, hgF⟩ : ∃ g, w7.heap.size = g := ⟨_, rfl⟩
    obtain ⟨w8, hw⟩ : ∃ v, w7.alloc (.cells #[.slice A6 q5 q5, .int .i64 (f : Int)] 40) = v := ⟨_, rfl⟩
    have hbh := Lib.hid (show Below w7.heap.size w7 w8 by rw [← hw]; exact bel1 _ _)
    have KFn := Lib.hid (show Bk w8 gF 40 [.slice A6 q5 q5, .int .i64 (f : Int)] by rw [← hw, ← hgF]; exact Bk.new w7 _ [_, _])
    rw [hw, hgF]
    replace RA := Lib.hid (RA.out.below hbh.out)
    replace B := bt B hbh
    replace K3 := kt K3 hbh
    replace RS := Lib.hid (RS.out.stay hbh.out)
    replace KE := kt KE hbh
    replace RF := rt RF hbh
    replace KTx := kt KTx hbh
    replace RI := rt RI hbh
    replace RP := rt RP hbh
    have KF := KFn
    clear hbh hw KFn
    obtain ⟨e0, e1, e2, e3, e4, ez⟩ := KE.out.five
    have t0 := KTx.out.cell 0
    have t1 := KTx.out.cell 1
    have t2 := KTx.out.cell 2
    simp only [List.getElem?_cons_zero, List.getElem?_cons_succ] at t0 t1 t2
    go_wp2_with fail
    refine (HS2.out _ RS.out RF.out).mono ?_
    rintro e w9 ⟨A7, n7, c7, A8, m7, d7, rfl, hI, _, _, hrI, hP, _, _, hrP, _, hb⟩
    obtain rfl : c5 = n7 := by rw [← hI]; exact HI.out.1.symm
    obtain rfl : q5 = m7 := by rw [← hP]; exact HP.out.1.symm
    have hbh := Lib.hid hb
    replace RA := Lib.hid (RA.out.below hbh.out)
    replace B := bt B hbh
    replace K3 := kt K3 hbh
    replace RS := Lib.hid (RS.out.stay hbh.out)
    replace KE := kt KE hbh
    replace RF := rt RF hbh
    replace KTx := kt KTx hbh
    replace RI := rt RI hbh
    replace RP := rt RP hbh
    replace KF := kt KF hbh
    have RJ := Lib.hid hrI.rd
    have RQ := Lib.hid hrP.rd
    clear hbh hb hI hP hrI hrP e0 e1 e2 e3 e4 ez t0 t1 t2
    go_upto_region 8 with fail
    obtain ⟨gG, hgG⟩ : ∃ g, w9.heap.size = g := ⟨_, rfl⟩
    obtain ⟨w10, hw⟩ : ∃ v, w9.alloc (.cells #[.slice A8 q5 d7, .int .i64 (f : Int)] 40) = v := ⟨_, rfl⟩
    have hbh := Lib.hid (show Below w9.heap.size w9 w10 by rw [← hw]; exact bel1 _ _)
    have KGn := Lib.hid (show Bk w10 gG 40 [.slice A8 q5 d7, .int .i64 (f : Int)] by rw [← hw, ← hgG]; exact Bk.new w9 _ [_, _])
    rw [hw, hgG]
    replace RA := Lib.hid (RA.out.below hbh.out)
    replace B := bt B hbh
    replace K3 := kt K3 hbh
    replace RS := Lib.hid (RS.out.stay hbh.out)
    replace KE := kt KE hbh
    replace RF := rt RF hbh
    replace KTx := kt KTx hbh
    replace RI := rt RI hbh
    replace RP := rt RP hbh
    replace KF := kt KF hbh
    replace RJ := rt RJ hbh
    replace RQ := rt RQ hbh
    have KG := KGn
    clear hbh hw KGn
    have hw1 : IntKind.i64.wrap 1 = 1 := by rw [IntKind.wrap_i64]; omega
    have HSR := Lib.hid (show ∀ W, Below w10.heap.size w10 W → W.cell? ⟨gF, 0, none⟩ = some (.slice A6 q5 q5) ∧ W.cell? ⟨gF, 1, none⟩ = some (.int .i64 (f : Int)) ∧ W.cell? ⟨gG, 0, none⟩ = some (.slice A8 q5 d7) ∧ W.cell? ⟨gG, 1, none⟩ = some (.int .i64 (f : Int)) ∧ W.cell? ⟨gE, 0, none⟩ = some (.int .u8 0) ∧ W.cell? ⟨gE, 1, none⟩ = some (.bool true) ∧ W.cell? ⟨gE, 2, none⟩ = some (.int .u32 16) ∧ W.cell? ⟨gE, 3, none⟩ = some (.slice none 0 0) ∧ W.cell? ⟨gE, 4, none⟩ = some (.slice B1 m cb) ∧ W.cell? ⟨g3, 0, none⟩ = some (.slice A n c) ∧ Below w10.heap.size w10 W from fun W hW => ⟨(hW.cell (p := ⟨gF, 0, none⟩) KF.out.lt).trans (KF.out.cell 0), (hW.cell (p := ⟨gF, 1, none⟩) KF.out.lt).trans (KF.out.cell 1), (hW.cell (p := ⟨gG, 0, none⟩) KG.out.lt).trans (KG.out.cell 0), (hW.cell (p := ⟨gG, 1, none⟩) KG.out.lt).trans (KG.out.cell 1), (hW.cell (p := ⟨gE, 0, none⟩) KE.out.lt).trans (KE.out.cell 0), (hW.cell (p := ⟨gE, 1, none⟩) KE.out.lt).trans (KE.out.cell 1), (hW.cell (p := ⟨gE, 2, none⟩) KE.out.lt).trans (KE.out.cell 2), (hW.cell (p := ⟨gE, 3, none⟩) KE.out.lt).trans (KE.out.cell 3), (hW.cell (p := ⟨gE, 4, none⟩) KE.out.lt).trans (KE.out.cell 4), (hW.cell (p := ⟨g3, 0, none⟩) K3.out.lt).trans (K3.out.cell 0), hW⟩)
    have d0 : Below w10.heap.size w10 w10.drew := (Below.refl w10.heap.size w10).drew
    go_region_held3 (fun W => W.cell? ⟨gF, 0, none⟩ = some (.slice A6 q5 q5) ∧ W.cell? ⟨gF, 1, none⟩ = some (.int .i64 (f : Int)) ∧ W.cell? ⟨gG, 0, none⟩ = some (.slice A8 q5 d7) ∧ W.cell? ⟨gG, 1, none⟩ = some (.int .i64 (f : Int)) ∧ W.cell? ⟨gE, 0, none⟩ = some (.int .u8 0) ∧ W.cell? ⟨gE, 1, none⟩ = some (.bool true) ∧ W.cell? ⟨gE, 2, none⟩ = some (.int .u32 16) ∧ W.cell? ⟨gE, 3, none⟩ = some (.slice none 0 0) ∧ W.cell? ⟨gE, 4, none⟩ = some (.slice B1 m cb) ∧ W.cell? ⟨g3, 0, none⟩ = some (.slice A n c) ∧ Below w10.heap.size w10 W)
      (first | exact HSR.out _ d5 | exact HSR.out _ d4 | exact HSR.out _ d3 | exact HSR.out _ d2 | exact HSR.out _ d1 | exact HSR.out _ d0)
      (first | (have dz := d4; go_at_call 19; refine (lives_any _).mono ?_; rintro e v5 ⟨rfl, hv5⟩; have d5 : Below w10.heap.size w10 v5 := d4.trans (hv5.mono d4.size); clear dz) | (have dz := d3; go_at_call 18; refine (same_eq (tofE code) _ _ _ (rdE_parts (x := false) (by decide) (by decide) HM.out.1 HM.out.2.1 HM.out.2.2 (fun h => by cases h) (RS.out.stay d3)) (rdE_parts (x := false) (by decide) (by decide) hm3 hmc3 hcm3 (fun h => by cases h) hrs3)).mono ?_; rintro e v4 ⟨rfl, hv4⟩; have d4 : Below w10.heap.size w10 v4 := d3.trans (hv4.mono d3.size); clear dz) | (have dz := d2; go_at_call 11; refine (tof_any code A n c HN.out.1 HN.out.2 _ (RA.out.below d2)).mono ?_; rintro e v3 ⟨B3, m3, cb3, rfl, hm3, hmc3, hcm3, hrs3, hv3⟩; have d3 : Below w10.heap.size w10 v3 := d2.trans (hv3.mono d2.size); clear dz) | (have dz := d1; go_at_call 17; refine (lfault_eq P f A6 A8 q5 d7 _ (RP.out.below d1) (RQ.out.below d1) HP.out.1 HP.out.2).mono ?_; rintro e v2 ⟨rfl, hv2⟩; have d2 : Below w10.heap.size w10 v2 := d1.trans (hv2.mono d1.size); clear dz) | (go_at_call 16; refine (ints_eq I A5 A7 c5 c5 c7 _ (RI.out.below d0) (RJ.out.below d0) HI.out.1 HI.out.2).mono ?_; rintro e v1 ⟨rfl, hv1⟩; have d1 : Below w10.heap.size w10 v1 := d0.trans (hv1.mono d0.size)))
    have BZ := bt B (Lib.hid d5)
    clear HSR
    go_wp2_with fail
    go_ret
    exact ⟨rfl, BZ.out⟩
open Go.WideMaps Go.WideElems

open Go.ChangeShapes Go.WideShapes Go.ChangeAt
set_option maxRecDepth 100000 in
theorem fieldsSequence_lifted (os : Os) (started : os.Started) (H : Type) (enc : TypeId × Value → H) :
    ReturnsInHanded {} Try.checked os 3 .any (Rows.fieldsSequenceSpec.pre6 enc Try.prog Try.f3 Rows.fieldsSequenceRow.domain false) (Rows.fieldsSequenceSpec.post enc Try.prog Try.f3 false true false false) := by
  refine returnsInHanded_of_change (C := Try.checked) x_own started (by kernel_rfl) Try.func3
    (ChangeSpec.witness6 (enc := enc) (C := Try.checked) false ⟨#[], #[.agg #[.slice none 0 0], .slice none 0 0, .int .u8 0], []⟩ 8 (by kernel_rfl) (by kernel_rfl) (by kernel_rfl) (by kernel_rfl)) ?_
  intro W base args ds gs before hval0 hW hcnd _
  have hval : ∀ (j : Nat) t v, Try.f3.params[j]? = some t → args[j]? = some v → Value.okWide Try.prog W .any base t v := hval0
  have hW' := hW
  obtain ⟨p, q, hA0, hV, rfl, hfz, hnd⟩ := hW
  have hA : DataW.TrodAll enc Try.prog W 0 (fun _ => true) true Try.f3.params.toList args.toList ds p := hA0
  rw [Try.params3] at hA hval
  obtain ⟨v0, v1, v2, d0, d1, d2, p0, p1, p2, rfl, rfl, rfl, h0, h1, h2⟩ := trodAll_three hA
  obtain ⟨rfl, rfl⟩ := trodVars_none hV
  obtain ⟨A, l, c, rfl, hA1, hl1, hm1⟩ := open_T (hval 0 _ _ rfl rfl) h0
  obtain ⟨A2, l2, c2, rfl, hA2, hf2, hl2, hm2⟩ := open_Fs (hval 1 _ _ rfl rfl) h1
  obtain ⟨t, rfl, ht1⟩ := open_u8 (hval 2 _ _ rfl rfl) h2
  clear hA0 hval0
  refine (seq_law l A l.length c l2 A2 l2.length c2 t W hA1 rfl (Nat.le_trans hl1 hm1) hA2 hf2 rfl (Nat.le_trans hl2 hm2) ht1).mono fun e W' ⟨he, hb⟩ => ?_
  subst he
  exact ⟨_, rfl, law_post (tb := 4) x_laid (by decide +kernel) rfl rfl (by kernel_rfl) Try.underlying4 hW' hb⟩

/-- The statement. -/
theorem fieldsSequence_holds : Rows.FieldsSequenceSaid :=
  OpenClaim.holds_of_wide 3 Try.f3 rfl rfl rfl rfl rfl rfl rfl ⟨rfl, rfl, rfl, rfl, rfl⟩ rfl rfl rfl rfl rfl (by kernel_rfl) Try.func3 (by kernel_rfl)
    (of_decide_eq_true (by kernel_rfl)) (by unfold Func.isWrapper; first | (rw [if_pos (by decide +kernel)]; kernel_rfl) | (rw [if_neg (by decide +kernel)]; exact ⟨rfl, rfl⟩))
    (fun os started H enc _ => fieldsSequence_lifted os started H enc)
end Go.Proofs.Ytklljbcnfamikaa.Fl
