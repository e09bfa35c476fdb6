/-
  Layer 12: FieldsList: the number of elements is checked as it is defined, also explicitly tagged ones.
  Conditions: none beyond that the codes are bytes.
-/
import Derived.Test.YtklljbcnfamikaaFlSq
namespace Go.Proofs.Ytklljbcnfamikaa.Fl
open Go.RowKit

set_option linter.unusedSimpArgs false in
set_option maxHeartbeats 4000000 in
set_option maxRecDepth 100000 in
theorem list_law (code : List Nat) (A : Option Addr) (n c : Nat) (lo hi : Int) (t : Nat) (w : World) (hA : Rb w A code) (hn : code.length = n) (hnm : n ≤ maxLen) (hlo : -9223372036854775808 ≤ lo ∧ lo < 9223372036854775808) (hhi : -9223372036854775808 ≤ hi ∧ hi < 9223372036854775808) (ht : t < 4294967296) :
    Calls Try.prog 5 #[.agg #[.slice A n c], .agg #[.int .i64 lo, .int .i64 hi], .int .u32 (t : Int)] w fun e w' => e = .returned (.bool true) ∧ Below w.heap.size w w' := by
  obtain ⟨r, hr⟩ : ∃ r, t % 5 = r := ⟨_, rfl⟩
  obtain ⟨q, hq⟩ : ∃ q, t % 256 = q := ⟨_, rfl⟩
  have hm : (t : Int).tmod 5 = (r : Int) := by rw [← hr]; exact (Int.ofNat_tmod t 5).symm
  have hmd : (t : Int) % 5 = (r : Int) := by omega
  have hdd : (t : Int) % 256 = (q : Int) := by omega
  have hq8 : q < 256 := by omega
  have hwu : IntKind.u8.wrap (t : Int) = (q : Int) := by rw [IntKind.wrap_u8]; exact hdd
  have HT := Lib.hid ht
  have RA := Lib.hid hA
  have HN := Lib.hid (And.intro hn hnm)
  have HZ := Lib.hid (And.intro hlo hhi)
  have B := Lib.hid (Below.refl w.heap.size w)
  clear hA hn hnm hr hq ht hlo hhi
  go_enter Try.func5, Try.ntmps5
  go_upto_region 1 with fail
  obtain ⟨g3, hg3⟩ : ∃ g, w.heap.size = g := ⟨_, rfl⟩
  obtain ⟨w1, hwa⟩ : ∃ v, w.alloc (.cells #[.slice A n c] 24) = v := ⟨_, rfl⟩
  obtain ⟨w2, hwb⟩ : ∃ v, w1.alloc (.cells #[.int .i64 lo, .int .i64 hi] 51) = v := ⟨_, rfl⟩
  have z1 : w1.heap.size = g3 + 1 := by rw [← hwa, World.size_alloc, hg3]
  obtain ⟨g4, hg4⟩ : ∃ g, g3 + 1 = g := ⟨_, rfl⟩
  have ba := Lib.hid (show Below w.heap.size w w1 by rw [← hwa]; exact bel1 _ _)
  have bb := Lib.hid (show Below w1.heap.size w1 w2 by rw [← hwb]; exact bel1 _ _)
  have K3 := kt (Lib.hid (show Bk w1 g3 24 [.slice A n c] by rw [← hwa, ← hg3]; exact Bk.new w _ [_])) bb
  have K4 := Lib.hid (show Bk w2 g4 51 [.int .i64 lo, .int .i64 hi] by rw [← hwb, ← hg4, ← z1]; exact Bk.new w1 _ [_, _])
  rw [hwa, hwb, hg3, hg4]
  have hbh := bt ba bb
  clear ba bb hwa hwb z1 hg4
  replace RA := Lib.hid (RA.out.below hbh.out)
  replace B := bt B hbh
  clear hbh
  have c0 : w2.cell? ⟨g3, 0, none⟩ = some (.slice A n c) := K3.out.cell 0
  go_wp2_with fail
  refine (tof_any code A n c HN.out.1 HN.out.2 _ RA.out).mono ?_
  rintro e w3 ⟨B1, m, cb, rfl, hm1, hmc, hcm, hrs, hb⟩
  have HM := Lib.hid (And.intro hm1 (And.intro hmc hcm))
  have hbh := Lib.hid hb
  replace RA := Lib.hid (RA.out.below hbh.out)
  replace B := bt B hbh
  replace K3 := kt K3 hbh
  replace K4 := kt K4 hbh
  have RS := Lib.hid hrs
  clear hbh hb hm1 hmc hcm hrs c0
  clear RA K3
  go_upto_region 2 with fail
  obtain ⟨gE, hgE⟩ : ∃ g, w3.heap.size = g := ⟨_, rfl⟩
  obtain ⟨w4, hw⟩ : ∃ v, w3.alloc (.cells #[.int .u8 0, .bool true, .int .u32 16, .slice none 0 0, .slice B1 m cb] 32) = v := ⟨_, rfl⟩
  have hbh := Lib.hid (show Below w3.heap.size w3 w4 by rw [← hw]; exact bel1 _ _)
  have KEn := Lib.hid (show Bk w4 gE 32 [.int .u8 0, .bool true, .int .u32 16, .slice none 0 0, .slice B1 m cb] by rw [← hw, ← hgE]; exact Bk.new w3 _ [_, _, _, _, _])
  rw [hw, hgE]
  replace B := bt B hbh
  replace K4 := kt K4 hbh
  replace RS := Lib.hid (RS.out.stay hbh.out)
  have KE := KEn
  clear hbh hw KEn
  go_wp2_with fail
  refine (tag_any 0 0 16 true _ (by decide) rfl).mono ?_
  rintro e w5 ⟨rfl, hb⟩
  have hbh := Lib.hid hb
  replace B := bt B hbh
  replace K4 := kt K4 hbh
  replace RS := Lib.hid (RS.out.stay hbh.out)
  replace KE := kt KE hbh
  clear hbh hb 
  go_upto_region 3 with fail
  obtain ⟨gT, hgT⟩ : ∃ g, w5.heap.size = g := ⟨_, rfl⟩
  obtain ⟨w6, hw⟩ : ∃ v, w5.alloc (.cells #[.int .u8 0, .bool true, .int .u32 16] 29) = v := ⟨_, rfl⟩
  have HB56 := Lib.hid (show Below w5.heap.size w5 w6 by rw [← hw]; exact bel1 _ _)
  have KT := Lib.hid (show Bk w6 gT 29 [.int .u8 0, .bool true, .int .u32 16] by rw [← hw, ← hgT]; exact Bk.new w5 _ [_, _, _])
  rw [hw, hgT]
  have HGT := Lib.hid hgT
  clear hw hgT
  go_upto_if 16 with fail
  go_cut [8] (fun z9 wx => ∃ (tc tn : Nat) (tk : Bool), z9 = .pointer (some ⟨gT, 0, none⟩) ∧ Bk wx gT 29 [.int .u8 (tc : Int), .bool tk, .int .u32 (tn : Int)] ∧ Below w5.heap.size w5 wx)
  case first =>
    by_cases h7 : r = 4
    · subst h7
      obtain ⟨p3, hp3⟩ : ∃ p, tagN q = p := ⟨_, rfl⟩
      obtain ⟨tc, tn, tk⟩ := p3
      have HQ3 := Lib.hid hp3
      clear hp3
      go_wp2_with fail
      (try rw [hdd])
      refine (tag_any q tc tn tk _ hq8 HQ3.out).mono ?_
      rintro e wy ⟨rfl, hby⟩
      have ky := kt KT (Lib.hid hby)
      have HB5y := bt HB56 (Lib.hid hby)
      clear hby
      go_wp2_with (refine wpList_storeG rfl _ _ rfl (ds := [.int .u8 (tc : Int), .bool tk, .int .u32 (tn : Int)]) rfl rfl ky.out infoT3 rfl rfl ?_; intro wz hz1 hz2 _)
      go_meet
      exact ⟨tc, tn, tk, rfl, hz1, HB5y.out.trans (only_below hz2 (by have := HGT.out; omega) HB5y.out.size)⟩
    · have h7b : ((r : Int) == 4) = false := by simp; omega
      go_wp2_with fail
      go_meet
      exact ⟨0, 16, true, rfl, KT.out, HB56.out⟩
  case rest =>
    obtain ⟨tc, tn, tk, rfl, hkt, hbx⟩ := hcut
    generalize wc = w6' at *
    have KTx := Lib.hid hkt
    have hbh := Lib.hid hbx
    clear hkt hbx KT HB56 HGT hm hmd hdd hq8 hwu
    replace B := bt B hbh
    replace K4 := kt K4 hbh
    replace RS := Lib.hid (RS.out.stay hbh.out)
    replace KE := kt KE hbh
    clear hbh
    go_upto_region 5 with fail
    obtain ⟨R1, hR⟩ : ∃ R, lstR tc tn tk lo hi (.mk 0 16 true [] (tofS code)) = R := ⟨_, rfl⟩
    obtain ⟨P1, f1⟩ := R1
    have HR1 := Lib.hid hR
    clear hR
    have hw1 : IntKind.i64.wrap 1 = 1 := by rw [IntKind.wrap_i64]; omega
    have HSR := Lib.hid (show ∀ W, Below w6'.heap.size w6' W → W.cell? ⟨gE, 0, none⟩ = some (.int .u8 0) ∧ W.cell? ⟨gE, 1, none⟩ = some (.bool true) ∧ W.cell? ⟨gE, 2, none⟩ = some (.int .u32 16) ∧ W.cell? ⟨gE, 3, none⟩ = some (.slice none 0 0) ∧ W.cell? ⟨gE, 4, none⟩ = some (.slice B1 m cb) ∧ W.cell? ⟨gT, 0, none⟩ = some (.int .u8 (tc : Int)) ∧ W.cell? ⟨gT, 1, none⟩ = some (.bool tk) ∧ W.cell? ⟨gT, 2, none⟩ = some (.int .u32 (tn : Int)) ∧ W.cell? ⟨g4, 0, none⟩ = some (.int .i64 lo) ∧ W.cell? ⟨g4, 1, none⟩ = some (.int .i64 hi) ∧ Below w6'.heap.size w6' W from fun W hW => ⟨(hW.cell (p := ⟨gE, 0, none⟩) KE.out.lt).trans (KE.out.cell 0), (hW.cell (p := ⟨gE, 1, none⟩) KE.out.lt).trans (KE.out.cell 1), (hW.cell (p := ⟨gE, 2, none⟩) KE.out.lt).trans (KE.out.cell 2), (hW.cell (p := ⟨gE, 3, none⟩) KE.out.lt).trans (KE.out.cell 3), (hW.cell (p := ⟨gE, 4, none⟩) KE.out.lt).trans (KE.out.cell 4), (hW.cell (p := ⟨gT, 0, none⟩) KTx.out.lt).trans (KTx.out.cell 0), (hW.cell (p := ⟨gT, 1, none⟩) KTx.out.lt).trans (KTx.out.cell 1), (hW.cell (p := ⟨gT, 2, none⟩) KTx.out.lt).trans (KTx.out.cell 2), (hW.cell (p := ⟨g4, 0, none⟩) K4.out.lt).trans (K4.out.cell 0), (hW.cell (p := ⟨g4, 1, none⟩) K4.out.lt).trans (K4.out.cell 1), hW⟩)
    refine wp_region_held_drew (S := fun W => W.cell? ⟨gE, 0, none⟩ = some (.int .u8 0) ∧ W.cell? ⟨gE, 1, none⟩ = some (.bool true) ∧ W.cell? ⟨gE, 2, none⟩ = some (.int .u32 16) ∧ W.cell? ⟨gE, 3, none⟩ = some (.slice none 0 0) ∧ W.cell? ⟨gE, 4, none⟩ = some (.slice B1 m cb) ∧ W.cell? ⟨gT, 0, none⟩ = some (.int .u8 (tc : Int)) ∧ W.cell? ⟨gT, 1, none⟩ = some (.bool tk) ∧ W.cell? ⟨gT, 2, none⟩ = some (.int .u32 (tn : Int)) ∧ W.cell? ⟨g4, 0, none⟩ = some (.int .i64 lo) ∧ W.cell? ⟨g4, 1, none⟩ = some (.int .i64 hi) ∧ Below w6'.heap.size w6' W) (by kernel_rfl) (HSR.out _ (Below.refl w6'.heap.size w6').drew) (fun hS => ?_)
    obtain ⟨wd, hwd⟩ : ∃ v, w6'.drew = v := ⟨_, rfl⟩
    have d0 : Below w6'.heap.size w6' wd := by rw [← hwd]; exact (Below.refl w6'.heap.size w6').drew
    rw [hwd] at hS ⊢
    clear hwd
    refine wpAnyH_take (i := 0) (oi := ⟨some 20, _, _, _, _, _⟩) (v := .agg #[.int .u8 0, .bool true, .int .u32 16, .slice none 0 0, .slice B1 m cb]) rfl (by kernel_rfl) (by kernel_rfl) (by kernel_rfl) (fun _ _ _ h => h) (Or.inl ⟨by rfl, fun w hSw => by (try obtain ⟨s1, s2, s3, s4, s5, s6, s7, s8, s9, s10, s11⟩ := hSw); go_simp⟩) hS ?_
    (try simp only [Act.put, List.setIfInBounds_toArray, List.set_cons_zero, List.set_cons_succ])
    refine wpAnyH_take (i := 1) (oi := ⟨some 21, _, _, _, _, _⟩) (v := .agg #[.int .u8 (tc : Int), .bool tk, .int .u32 (tn : Int)]) rfl (by kernel_rfl) (by kernel_rfl) (by kernel_rfl) (fun _ _ _ h => h) (Or.inl ⟨by rfl, fun w hSw => by (try obtain ⟨s1, s2, s3, s4, s5, s6, s7, s8, s9, s10, s11⟩ := hSw); go_simp⟩) hS ?_
    (try simp only [Act.put, List.setIfInBounds_toArray, List.set_cons_zero, List.set_cons_succ])
    refine wpAnyH_take (i := 2) (oi := ⟨some 22, _, _, _, _, _⟩) (v := .pointer (some ⟨g4, 0, none⟩)) rfl (by kernel_rfl) (by kernel_rfl) (by kernel_rfl) (fun _ _ _ h => h) (Or.inl ⟨by rfl, fun w _ => by go_simp⟩) hS ?_
    (try simp only [Act.put, List.setIfInBounds_toArray, List.set_cons_zero, List.set_cons_succ])
    refine wpAnyH_take (i := 4) (oi := ⟨some 24, _, _, _, _, _⟩) (v := .pointer (some ⟨g4, 1, none⟩)) rfl (by kernel_rfl) (by kernel_rfl) (by kernel_rfl) (fun _ _ _ h => h) (Or.inl ⟨by rfl, fun w _ => by go_simp⟩) hS ?_
    (try simp only [Act.put, List.setIfInBounds_toArray, List.set_cons_zero, List.set_cons_succ])
    refine wpAnyH_take (i := 7) (oi := ⟨some 27, _, _, _, _, _⟩) (v := .agg #[.int .u8 0, .bool true, .int .u32 16, .slice none 0 0, .slice B1 m cb]) rfl (by kernel_rfl) (by kernel_rfl) (by kernel_rfl) (fun _ _ _ h => h) (Or.inl ⟨by rfl, fun w hSw => by (try obtain ⟨s1, s2, s3, s4, s5, s6, s7, s8, s9, s10, s11⟩ := hSw); go_simp⟩) hS ?_
    (try simp only [Act.put, List.setIfInBounds_toArray, List.set_cons_zero, List.set_cons_succ])
    refine wpAnyH_take (i := 8) (oi := ⟨some 28, _, _, _, _, _⟩) (v := .agg #[.int .u8 (tc : Int), .bool tk, .int .u32 (tn : Int)]) rfl (by kernel_rfl) (by kernel_rfl) (by kernel_rfl) (fun _ _ _ h => h) (Or.inl ⟨by rfl, fun w hSw => by (try obtain ⟨s1, s2, s3, s4, s5, s6, s7, s8, s9, s10, s11⟩ := hSw); go_simp⟩) hS ?_
    (try simp only [Act.put, List.setIfInBounds_toArray, List.set_cons_zero, List.set_cons_succ])
    refine wpAnyH_take (i := 9) (oi := ⟨some 29, _, _, _, _, _⟩) (v := .pointer (some ⟨g4, 0, none⟩)) rfl (by kernel_rfl) (by kernel_rfl) (by kernel_rfl) (fun _ _ _ h => h) (Or.inl ⟨by rfl, fun w _ => by go_simp⟩) hS ?_
    (try simp only [Act.put, List.setIfInBounds_toArray, List.set_cons_zero, List.set_cons_succ])
    refine wpAnyH_take (i := 11) (oi := ⟨some 31, _, _, _, _, _⟩) (v := .pointer (some ⟨g4, 1, none⟩)) rfl (by kernel_rfl) (by kernel_rfl) (by kernel_rfl) (fun _ _ _ h => h) (Or.inl ⟨by rfl, fun w _ => by go_simp⟩) hS ?_
    (try simp only [Act.put, List.setIfInBounds_toArray, List.set_cons_zero, List.set_cons_succ])
    refine wpAnyH_take (i := 3) (oi := ⟨some 23, _, _, _, _, _⟩) (v := .int .i64 lo) rfl (by kernel_rfl) (by kernel_rfl) (by kernel_rfl) (fun _ _ _ h => h) (Or.inl ⟨by rfl, fun w hSw => by (try obtain ⟨s1, s2, s3, s4, s5, s6, s7, s8, s9, s10, s11⟩ := hSw); go_simp⟩) hS ?_
    (try simp only [Act.put, List.setIfInBounds_toArray, List.set_cons_zero, List.set_cons_succ])
    refine wpAnyH_take (i := 5) (oi := ⟨some 25, _, _, _, _, _⟩) (v := .int .i64 hi) rfl (by kernel_rfl) (by kernel_rfl) (by kernel_rfl) (fun _ _ _ h => h) (Or.inl ⟨by rfl, fun w hSw => by (try obtain ⟨s1, s2, s3, s4, s5, s6, s7, s8, s9, s10, s11⟩ := hSw); go_simp⟩) hS ?_
    (try simp only [Act.put, List.setIfInBounds_toArray, List.set_cons_zero, List.set_cons_succ])
    refine wpAnyH_take (i := 10) (oi := ⟨some 30, _, _, _, _, _⟩) (v := .int .i64 lo) rfl (by kernel_rfl) (by kernel_rfl) (by kernel_rfl) (fun _ _ _ h => h) (Or.inl ⟨by rfl, fun w hSw => by (try obtain ⟨s1, s2, s3, s4, s5, s6, s7, s8, s9, s10, s11⟩ := hSw); go_simp⟩) hS ?_
    (try simp only [Act.put, List.setIfInBounds_toArray, List.set_cons_zero, List.set_cons_succ])
    refine wpAnyH_take (i := 12) (oi := ⟨some 32, _, _, _, _, _⟩) (v := .int .i64 hi) rfl (by kernel_rfl) (by kernel_rfl) (by kernel_rfl) (fun _ _ _ h => h) (Or.inl ⟨by rfl, fun w hSw => by (try obtain ⟨s1, s2, s3, s4, s5, s6, s7, s8, s9, s10, s11⟩ := hSw); go_simp⟩) hS ?_
    (try simp only [Act.put, List.setIfInBounds_toArray, List.set_cons_zero, List.set_cons_succ])
    refine wpAnyH_ready (rs := [6]) (by kernel_rfl) (by simp) ?_
    refine AllReadyH.cons (o := _) rfl (fun K hK => ?_) (AllReadyH.nil)
    go_simp
    refine (list_any 0 16 true (.slice none 0 0) [] (tofS code) B1 m cb tc tn tk lo hi _ HM.out.1 P1 f1 HR1.out HZ.out.1 HZ.out.2).mono ?_
    rintro e wC6 ⟨A1, m1, n1, rfl, hl5, _, hm5, hx5, hr5, hv⟩
    obtain rfl := hx5 rfl
    have HL1 := Lib.hid (And.intro hl5 hm5)
    have R1 := Lib.hid hr5.rd
    have d1 : Below w6'.heap.size w6' wC6 := d0.trans (hv.mono d0.size)
    clear hv hr5 hl5 hm5 hx5
    refine hK.out _ _ (HSR.out _ d1) (fun hS9 => ?_)
    clear hK K hS
    have hS := hS9
    clear hS9
    (try simp only [Act.put, List.setIfInBounds_toArray, List.set_cons_zero, List.set_cons_succ])
    refine wpAnyH_ready (rs := [13]) (by kernel_rfl) (by simp) ?_
    refine AllReadyH.cons (o := _) rfl (fun K hK => ?_) (AllReadyH.nil)
    go_simp
    refine (rlist_any 0 16 true (.slice none 0 0) [] (tofS code) B1 m cb tc tn tk lo hi _ HM.out.1 P1 f1 HR1.out HZ.out.1 HZ.out.2).mono ?_
    rintro e wC13 ⟨X1, k1, y1, rfl, hl5, _, _, _, hr5, hv⟩
    obtain rfl : n1 = k1 := HL1.out.1.symm.trans hl5
    have Q1 := Lib.hid hr5.rd
    have d2 : Below w6'.heap.size w6' wC13 := d1.trans (hv.mono d1.size)
    replace R1 := Lib.hid (R1.out.below hv)
    clear hv hr5 hl5
    refine hK.out _ _ (HSR.out _ d2) (fun hS9 => ?_)
    clear hK K hS
    have hS := hS9
    clear hS9
    (try simp only [Act.put, List.setIfInBounds_toArray, List.set_cons_zero, List.set_cons_succ])
    refine wpAnyH_ready (rs := [14]) (by kernel_rfl) (by simp) ?_
    refine AllReadyH.cons (o := _) rfl (fun K hK => ?_) (AllReadyH.nil)
    go_simp
    refine (lfault_eq P1 f1 A1 X1 n1 y1 _ R1.out Q1.out HL1.out.1 HL1.out.2).mono ?_
    rintro e wC14 ⟨rfl, hv⟩
    have d3 : Below w6'.heap.size w6' wC14 := d2.trans (hv.mono d2.size)
    replace R1 := Lib.hid (R1.out.below hv)
    replace Q1 := Lib.hid (Q1.out.below hv)
    clear hv
    refine hK.out _ _ (HSR.out _ d3) (fun hS9 => ?_)
    clear hK K hS
    have hS := hS9
    clear hS9
    (try simp only [Act.put, List.setIfInBounds_toArray, List.set_cons_zero, List.set_cons_succ])
    refine wpAnyH_take (i := 15) (oi := ⟨some 35, _, _, _, _, _⟩) (v := .bool false) rfl (by kernel_rfl) (by kernel_rfl) (by kernel_rfl) (fun _ _ _ h => h) (Or.inl ⟨by rfl, fun w _ => by go_simp⟩) hS ?_
    (try simp only [Act.put, List.setIfInBounds_toArray, List.set_cons_zero, List.set_cons_succ])
    refine wpAnyH_done (by kernel_rfl) ?_ _
    clear hS
    have D5 := Lib.hid d3
    clear HSR d0 d1 d2 d3
    generalize wC14 = W5 at *
    go_upto_region 7 with fail
    clear KTx K4
    replace B := bt B D5
    replace RS := Lib.hid (RS.out.stay D5.out)
    replace KE := kt KE D5
    clear D5 R1 Q1 HL1 HR1
    go_wp2_with fail
    obtain ⟨e0, e1, e2, e3, e4, ez⟩ := KE.out.five
    clear e0 e1 e2 e3 e4 ez
    go_loopw [9, 10] (fun z9 _ wr => ∃ q : Nat, z9 = .int .i64 (q : Int) ∧ q ≤ m ∧ Below W5.heap.size W5 wr) (fun z9 _ _ => m - (intOf z9).toNat)
    case atStart => exact ⟨0, rfl, Nat.zero_le _, Below.refl _ _⟩
    case round =>
      obtain ⟨q, rfl, hq, hbl⟩ := hrel
      have hmm : m ≤ 9223372036854775807 := maxN (Nat.le_trans HM.out.2.1 HM.out.2.2)
      have HQ := Lib.hid hq
      have hbh := Lib.hid hbl
      clear hbl hq
      have hbhk := hbh
      replace B := bt B hbh
      replace RS := Lib.hid (RS.out.stay hbh.out)
      replace KE := kt KE hbh
      obtain ⟨e0, e1, e2, e3, e4, ez⟩ := KE.out.five
      by_cases hlt : q < m
      · obtain ⟨sb, so, ec, en, ek, aA, l1, ca, aB, l2, cz, rfl, hsb, _, s0, s1, s2, s3, s4, hE⟩ := RS.out.fives (i := q) (by rw [HM.out.1]; exact hlt)
        obtain ⟨E0, hE0⟩ : ∃ E0, (tofS code)[q]'(by rw [HM.out.1]; exact hlt) = E0 := ⟨_, rfl⟩
        rw [hE0] at hE
        obtain ⟨c', n', k', bs, ts⟩ := E0
        obtain ⟨_, hn4, _, X1, xc, X2, xd, hv, _, _, _, hlx, hcx, _, hrx⟩ := hE
        simp only [elV, Value.agg.injEq, Array.mk.injEq, List.cons.injEq, Value.int.injEq, Value.bool.injEq, Value.slice.injEq, and_true, true_and, Int.ofNat_inj] at hv
        obtain ⟨rfl, rfl, rfl, ⟨rfl, rfl, rfl⟩, rfl, rfl, rfl⟩ := hv
        have HEN := Lib.hid hn4
        clear hE0 hn4 hlx hcx hrx
        obtain ⟨b9, hb9⟩ : ∃ b9, bs.length = b9 := ⟨_, rfl⟩
        obtain ⟨t9, ht9⟩ : ∃ t9, ts.length = t9 := ⟨_, rfl⟩
        rw [hb9] at s3
        rw [ht9] at s4
        have HT9 := Lib.hid ht9
        clear hb9 ht9
        go_upto_region 11 with fail
        clear e0 e1 e2 e3 e4 ez s0 s1 s2 s3 s4
        obtain ⟨gS, hgS⟩ : ∃ g, wr.heap.size = g := ⟨_, rfl⟩
        obtain ⟨w9, hw⟩ : ∃ v, wr.alloc (.cells #[.int .u8 (ec : Int), .bool ek, .int .u32 (en : Int), .slice aA b9 ca, .slice aB t9 cz] 32) = v := ⟨_, rfl⟩
        have hbh := Lib.hid (show Below wr.heap.size wr w9 by rw [← hw]; exact bel1 _ _)
        have KSn := Lib.hid (show Bk w9 gS 32 [.int .u8 (ec : Int), .bool ek, .int .u32 (en : Int), .slice aA b9 ca, .slice aB t9 cz] by rw [← hw, ← hgS]; exact Bk.new wr _ [_, _, _, _, _])
        rw [hw, hgS]
        replace B := bt B hbh
        replace RS := Lib.hid (RS.out.stay hbh.out)
        replace KE := kt KE hbh
        have KS := KSn
        have hbhs := hbh
        clear hbh hw KSn
        obtain ⟨RX, hRX⟩ : ∃ R, expR t (.mk ec en ek bs ts) = R := ⟨_, rfl⟩
        obtain ⟨P1, f1⟩ := RX
        obtain ⟨RY, hRY⟩ : ∃ R, expR en (.mk ec en ek bs ts) = R := ⟨_, rfl⟩
        obtain ⟨P2, f2⟩ := RY
        have HRX := Lib.hid hRX
        have HRY := Lib.hid hRY
        clear hRX hRY
        have hbh0 := bt hbhk hbhs
        have HSR := Lib.hid (show ∀ W, Below w9.heap.size w9 W → W.cell? ⟨gS, 0, none⟩ = some (.int .u8 (ec : Int)) ∧ W.cell? ⟨gS, 1, none⟩ = some (.bool ek) ∧ W.cell? ⟨gS, 2, none⟩ = some (.int .u32 (en : Int)) ∧ W.cell? ⟨gS, 3, none⟩ = some (.slice aA b9 ca) ∧ W.cell? ⟨gS, 4, none⟩ = some (.slice aB t9 cz) ∧ Below w9.heap.size w9 W from fun W hW => ⟨(hW.cell (p := ⟨gS, 0, none⟩) KS.out.lt).trans (KS.out.cell 0), (hW.cell (p := ⟨gS, 1, none⟩) KS.out.lt).trans (KS.out.cell 1), (hW.cell (p := ⟨gS, 2, none⟩) KS.out.lt).trans (KS.out.cell 2), (hW.cell (p := ⟨gS, 3, none⟩) KS.out.lt).trans (KS.out.cell 3), (hW.cell (p := ⟨gS, 4, none⟩) KS.out.lt).trans (KS.out.cell 4), hW⟩)
        refine wp_region_held_drew (S := fun W => W.cell? ⟨gS, 0, none⟩ = some (.int .u8 (ec : Int)) ∧ W.cell? ⟨gS, 1, none⟩ = some (.bool ek) ∧ W.cell? ⟨gS, 2, none⟩ = some (.int .u32 (en : Int)) ∧ W.cell? ⟨gS, 3, none⟩ = some (.slice aA b9 ca) ∧ W.cell? ⟨gS, 4, none⟩ = some (.slice aB t9 cz) ∧ Below w9.heap.size w9 W) (by kernel_rfl) (HSR.out _ (Below.refl w9.heap.size w9).drew) (fun hS => ?_)
        obtain ⟨wd, hwd⟩ : ∃ v, w9.drew = v := ⟨_, rfl⟩
        have d0 : Below w9.heap.size w9 wd := by rw [← hwd]; exact (Below.refl w9.heap.size w9).drew
        rw [hwd] at hS ⊢
        clear hwd
        refine wpAnyH_take (i := 0) (oi := ⟨some 48, _, _, _, _, _⟩) (v := .agg #[.int .u8 (ec : Int), .bool ek, .int .u32 (en : Int), .slice aA b9 ca, .slice aB t9 cz]) rfl (by kernel_rfl) (by kernel_rfl) (by kernel_rfl) (fun _ _ _ h => h) (Or.inl ⟨by rfl, fun w hSw => by (try obtain ⟨s1, s2, s3, s4, s5, s6⟩ := hSw); go_simp⟩) hS ?_
        (try simp only [Act.put, List.setIfInBounds_toArray, List.set_cons_zero, List.set_cons_succ])
        refine wpAnyH_take (i := 1) (oi := ⟨some 49, _, _, _, _, _⟩) (v := .int .u32 (t : Int)) rfl (by kernel_rfl) (by kernel_rfl) (by kernel_rfl) (fun _ _ _ h => h) (Or.inl ⟨by rfl, fun w _ => by go_simp⟩) hS ?_
        (try simp only [Act.put, List.setIfInBounds_toArray, List.set_cons_zero, List.set_cons_succ])
        refine wpAnyH_take (i := 3) (oi := ⟨some 51, _, _, _, _, _⟩) (v := .agg #[.int .u8 (ec : Int), .bool ek, .int .u32 (en : Int), .slice aA b9 ca, .slice aB t9 cz]) rfl (by kernel_rfl) (by kernel_rfl) (by kernel_rfl) (fun _ _ _ h => h) (Or.inl ⟨by rfl, fun w hSw => by (try obtain ⟨s1, s2, s3, s4, s5, s6⟩ := hSw); go_simp⟩) hS ?_
        (try simp only [Act.put, List.setIfInBounds_toArray, List.set_cons_zero, List.set_cons_succ])
        refine wpAnyH_take (i := 4) (oi := ⟨some 52, _, _, _, _, _⟩) (v := .int .u32 (t : Int)) rfl (by kernel_rfl) (by kernel_rfl) (by kernel_rfl) (fun _ _ _ h => h) (Or.inl ⟨by rfl, fun w _ => by go_simp⟩) hS ?_
        (try simp only [Act.put, List.setIfInBounds_toArray, List.set_cons_zero, List.set_cons_succ])
        refine wpAnyH_ready (rs := [2]) (by kernel_rfl) (by simp) ?_
        refine AllReadyH.cons (o := _) rfl (fun K hK => ?_) (AllReadyH.nil)
        go_simp
        refine (expl_any ec en ek (.slice aA b9 ca) bs ts aB t9 cz t _ HT9.out P1 f1 HRX.out).mono ?_
        rintro e wC2 ⟨A1, m1, n1, rfl, hl5, _, hm5, hx5, hr5, hv⟩
        obtain rfl := hx5 rfl
        have HL1 := Lib.hid (And.intro hl5 hm5)
        have R1 := Lib.hid hr5.rd
        have d1 : Below w9.heap.size w9 wC2 := d0.trans (hv.mono d0.size)
        clear hv hr5 hl5 hm5 hx5
        refine hK.out _ _ (HSR.out _ d1) (fun hS9 => ?_)
        clear hK K hS
        have hS := hS9
        clear hS9
        (try simp only [Act.put, List.setIfInBounds_toArray, List.set_cons_zero, List.set_cons_succ])
        refine wpAnyH_ready (rs := [5]) (by kernel_rfl) (by simp) ?_
        refine AllReadyH.cons (o := _) rfl (fun K hK => ?_) (AllReadyH.nil)
        go_simp
        refine (rexpl_any ec en ek (.slice aA b9 ca) bs ts aB t9 cz t _ HT9.out P1 f1 HRX.out).mono ?_
        rintro e wC5 ⟨X1, k1, y1, rfl, hl5, _, _, _, hr5, hv⟩
        obtain rfl : n1 = k1 := HL1.out.1.symm.trans hl5
        have Q1 := Lib.hid hr5.rd
        have d2 : Below w9.heap.size w9 wC5 := d1.trans (hv.mono d1.size)
        replace R1 := Lib.hid (R1.out.below hv)
        clear hv hr5 hl5
        refine hK.out _ _ (HSR.out _ d2) (fun hS9 => ?_)
        clear hK K hS
        have hS := hS9
        clear hS9
        (try simp only [Act.put, List.setIfInBounds_toArray, List.set_cons_zero, List.set_cons_succ])
        refine wpAnyH_ready (rs := [6]) (by kernel_rfl) (by simp) ?_
        refine AllReadyH.cons (o := _) rfl (fun K hK => ?_) (AllReadyH.nil)
        go_simp
        refine (lfault_eq P1 f1 A1 X1 n1 y1 _ R1.out Q1.out HL1.out.1 HL1.out.2).mono ?_
        rintro e wC6 ⟨rfl, hv⟩
        have d3 : Below w9.heap.size w9 wC6 := d2.trans (hv.mono d2.size)
        replace R1 := Lib.hid (R1.out.below hv)
        replace Q1 := Lib.hid (Q1.out.below hv)
        clear hv
        refine hK.out _ _ (HSR.out _ d3) (fun hS9 => ?_)
        clear hK K hS
        have hS := hS9
        clear hS9
        (try simp only [Act.put, List.setIfInBounds_toArray, List.set_cons_zero, List.set_cons_succ])
        refine wpAnyH_take (i := 7) (oi := ⟨some 55, _, _, _, _, _⟩) (v := .bool false) rfl (by kernel_rfl) (by kernel_rfl) (by kernel_rfl) (fun _ _ _ h => h) (Or.inl ⟨by rfl, fun w _ => by go_simp⟩) hS ?_
        (try simp only [Act.put, List.setIfInBounds_toArray, List.set_cons_zero, List.set_cons_succ])
        refine wpAnyH_take (i := 8) (oi := ⟨some 56, _, _, _, _, _⟩) (v := .bool false) rfl (by kernel_rfl) (by kernel_rfl) (by kernel_rfl) (fun _ _ _ h => h) (Or.inl ⟨by rfl, fun w _ => by go_simp⟩) hS ?_
        (try simp only [Act.put, List.setIfInBounds_toArray, List.set_cons_zero, List.set_cons_succ])
        refine wpAnyH_take (i := 9) (oi := ⟨some 57, _, _, _, _, _⟩) (v := .agg #[.int .u8 (ec : Int), .bool ek, .int .u32 (en : Int), .slice aA b9 ca, .slice aB t9 cz]) rfl (by kernel_rfl) (by kernel_rfl) (by kernel_rfl) (fun _ _ _ h => h) (Or.inl ⟨by rfl, fun w hSw => by (try obtain ⟨s1, s2, s3, s4, s5, s6⟩ := hSw); go_simp⟩) hS ?_
        (try simp only [Act.put, List.setIfInBounds_toArray, List.set_cons_zero, List.set_cons_succ])
        refine wpAnyH_take (i := 10) (oi := ⟨some 58, _, _, _, _, _⟩) (v := .pointer (some ⟨gS, 0, none⟩)) rfl (by kernel_rfl) (by kernel_rfl) (by kernel_rfl) (fun _ _ _ h => h) (Or.inl ⟨by rfl, fun w _ => by go_simp⟩) hS ?_
        (try simp only [Act.put, List.setIfInBounds_toArray, List.set_cons_zero, List.set_cons_succ])
        refine wpAnyH_take (i := 14) (oi := ⟨some 62, _, _, _, _, _⟩) (v := .agg #[.int .u8 (ec : Int), .bool ek, .int .u32 (en : Int), .slice aA b9 ca, .slice aB t9 cz]) rfl (by kernel_rfl) (by kernel_rfl) (by kernel_rfl) (fun _ _ _ h => h) (Or.inl ⟨by rfl, fun w hSw => by (try obtain ⟨s1, s2, s3, s4, s5, s6⟩ := hSw); go_simp⟩) hS ?_
        (try simp only [Act.put, List.setIfInBounds_toArray, List.set_cons_zero, List.set_cons_succ])
        refine wpAnyH_take (i := 15) (oi := ⟨some 63, _, _, _, _, _⟩) (v := .pointer (some ⟨gS, 0, none⟩)) rfl (by kernel_rfl) (by kernel_rfl) (by kernel_rfl) (fun _ _ _ h => h) (Or.inl ⟨by rfl, fun w _ => by go_simp⟩) hS ?_
        (try simp only [Act.put, List.setIfInBounds_toArray, List.set_cons_zero, List.set_cons_succ])
        refine wpAnyH_take (i := 11) (oi := ⟨some 59, _, _, _, _, _⟩) (v := .pointer (some ⟨gS, 2, none⟩)) rfl (by kernel_rfl) (by kernel_rfl) (by kernel_rfl) (fun _ _ _ h => h) (Or.inl ⟨by rfl, fun w _ => by go_simp⟩) hS ?_
        (try simp only [Act.put, List.setIfInBounds_toArray, List.set_cons_zero, List.set_cons_succ])
        refine wpAnyH_take (i := 16) (oi := ⟨some 64, _, _, _, _, _⟩) (v := .pointer (some ⟨gS, 2, none⟩)) rfl (by kernel_rfl) (by kernel_rfl) (by kernel_rfl) (fun _ _ _ h => h) (Or.inl ⟨by rfl, fun w _ => by go_simp⟩) hS ?_
        (try simp only [Act.put, List.setIfInBounds_toArray, List.set_cons_zero, List.set_cons_succ])
        refine wpAnyH_take (i := 12) (oi := ⟨some 60, _, _, _, _, _⟩) (v := .int .u32 (en : Int)) rfl (by kernel_rfl) (by kernel_rfl) (by kernel_rfl) (fun _ _ _ h => h) (Or.inl ⟨by rfl, fun w hSw => by (try obtain ⟨s1, s2, s3, s4, s5, s6⟩ := hSw); go_simp⟩) hS ?_
        (try simp only [Act.put, List.setIfInBounds_toArray, List.set_cons_zero, List.set_cons_succ])
        refine wpAnyH_take (i := 17) (oi := ⟨some 65, _, _, _, _, _⟩) (v := .int .u32 (en : Int)) rfl (by kernel_rfl) (by kernel_rfl) (by kernel_rfl) (fun _ _ _ h => h) (Or.inl ⟨by rfl, fun w hSw => by (try obtain ⟨s1, s2, s3, s4, s5, s6⟩ := hSw); go_simp⟩) hS ?_
        (try simp only [Act.put, List.setIfInBounds_toArray, List.set_cons_zero, List.set_cons_succ])
        refine wpAnyH_ready (rs := [13]) (by kernel_rfl) (by simp) ?_
        refine AllReadyH.cons (o := _) rfl (fun K hK => ?_) (AllReadyH.nil)
        go_simp
        refine (expl_any ec en ek (.slice aA b9 ca) bs ts aB t9 cz en _ HT9.out P2 f2 HRY.out).mono ?_
        rintro e wC13 ⟨A2, m2, n2, rfl, hl5, _, hm5, hx5, hr5, hv⟩
        obtain rfl := hx5 rfl
        have HL2 := Lib.hid (And.intro hl5 hm5)
        have R2 := Lib.hid hr5.rd
        have d4 : Below w9.heap.size w9 wC13 := d3.trans (hv.mono d3.size)
        replace R1 := Lib.hid (R1.out.below hv)
        replace Q1 := Lib.hid (Q1.out.below hv)
        clear hv hr5 hl5 hm5 hx5
        refine hK.out _ _ (HSR.out _ d4) (fun hS9 => ?_)
        clear hK K hS
        have hS := hS9
        clear hS9
        (try simp only [Act.put, List.setIfInBounds_toArray, List.set_cons_zero, List.set_cons_succ])
        refine wpAnyH_ready (rs := [18]) (by kernel_rfl) (by simp) ?_
        refine AllReadyH.cons (o := _) rfl (fun K hK => ?_) (AllReadyH.nil)
        go_simp
        refine (rexpl_any ec en ek (.slice aA b9 ca) bs ts aB t9 cz en _ HT9.out P2 f2 HRY.out).mono ?_
        rintro e wC18 ⟨X2, k2, y2, rfl, hl5, _, _, _, hr5, hv⟩
        obtain rfl : n2 = k2 := HL2.out.1.symm.trans hl5
        have Q2 := Lib.hid hr5.rd
        have d5 : Below w9.heap.size w9 wC18 := d4.trans (hv.mono d4.size)
        replace R1 := Lib.hid (R1.out.below hv)
        replace Q1 := Lib.hid (Q1.out.below hv)
        replace R2 := Lib.hid (R2.out.below hv)
        clear hv hr5 hl5
        refine hK.out _ _ (HSR.out _ d5) (fun hS9 => ?_)
        clear hK K hS
        have hS := hS9
        clear hS9
        (try simp only [Act.put, List.setIfInBounds_toArray, List.set_cons_zero, List.set_cons_succ])
        refine wpAnyH_ready (rs := [19]) (by kernel_rfl) (by simp) ?_
        refine AllReadyH.cons (o := _) rfl (fun K hK => ?_) (AllReadyH.nil)
        go_simp
        refine (lfault_eq P2 f2 A2 X2 n2 y2 _ R2.out Q2.out HL2.out.1 HL2.out.2).mono ?_
        rintro e wC19 ⟨rfl, hv⟩
        have d6 : Below w9.heap.size w9 wC19 := d5.trans (hv.mono d5.size)
        replace R1 := Lib.hid (R1.out.below hv)
        replace Q1 := Lib.hid (Q1.out.below hv)
        replace R2 := Lib.hid (R2.out.below hv)
        replace Q2 := Lib.hid (Q2.out.below hv)
        clear hv
        refine hK.out _ _ (HSR.out _ d6) (fun hS9 => ?_)
        clear hK K hS
        have hS := hS9
        clear hS9
        (try simp only [Act.put, List.setIfInBounds_toArray, List.set_cons_zero, List.set_cons_succ])
        refine wpAnyH_take (i := 20) (oi := ⟨some 68, _, _, _, _, _⟩) (v := .bool false) rfl (by kernel_rfl) (by kernel_rfl) (by kernel_rfl) (fun _ _ _ h => h) (Or.inl ⟨by rfl, fun w _ => by go_simp⟩) hS ?_
        (try simp only [Act.put, List.setIfInBounds_toArray, List.set_cons_zero, List.set_cons_succ])
        refine wpAnyH_take (i := 21) (oi := ⟨some 69, _, _, _, _, _⟩) (v := .bool false) rfl (by kernel_rfl) (by kernel_rfl) (by kernel_rfl) (fun _ _ _ h => h) (Or.inl ⟨by rfl, fun w _ => by go_simp⟩) hS ?_
        (try simp only [Act.put, List.setIfInBounds_toArray, List.set_cons_zero, List.set_cons_succ])
        refine wpAnyH_done (by kernel_rfl) ?_ _
        clear hS
        have DX := Lib.hid d6
        clear HSR d0 d1 d2 d3 d4 d5 d6
        generalize wC19 = W9 at *
        have DY := bt hbh0 DX
        go_wp2_with fail
        exact ⟨⟨q + 1, by go_num, hlt, DY.out⟩, by simp [intOf]; omega⟩
      · obtain rfl : q = m := by have := HQ.out; omega
        obtain ⟨RX, hRX⟩ : ∃ R, expR t (.mk 0 16 true [] (tofS code)) = R := ⟨_, rfl⟩
        obtain ⟨P1, f1⟩ := RX
        have HRX := Lib.hid hRX
        clear hRX
        go_upto_region 13 with fail
        clear e0 e1 e2 e3 e4 ez
        have HSR := Lib.hid (show ∀ W, Below wr.heap.size wr W → W.cell? ⟨gE, 0, none⟩ = some (.int .u8 0) ∧ W.cell? ⟨gE, 1, none⟩ = some (.bool true) ∧ W.cell? ⟨gE, 2, none⟩ = some (.int .u32 16) ∧ W.cell? ⟨gE, 3, none⟩ = some (.slice none 0 0) ∧ W.cell? ⟨gE, 4, none⟩ = some (.slice B1 q cb) ∧ Below wr.heap.size wr W from fun W hW => ⟨(hW.cell (p := ⟨gE, 0, none⟩) KE.out.lt).trans (KE.out.cell 0), (hW.cell (p := ⟨gE, 1, none⟩) KE.out.lt).trans (KE.out.cell 1), (hW.cell (p := ⟨gE, 2, none⟩) KE.out.lt).trans (KE.out.cell 2), (hW.cell (p := ⟨gE, 3, none⟩) KE.out.lt).trans (KE.out.cell 3), (hW.cell (p := ⟨gE, 4, none⟩) KE.out.lt).trans (KE.out.cell 4), hW⟩)
        refine wp_region_held_drew (S := fun W => W.cell? ⟨gE, 0, none⟩ = some (.int .u8 0) ∧ W.cell? ⟨gE, 1, none⟩ = some (.bool true) ∧ W.cell? ⟨gE, 2, none⟩ = some (.int .u32 16) ∧ W.cell? ⟨gE, 3, none⟩ = some (.slice none 0 0) ∧ W.cell? ⟨gE, 4, none⟩ = some (.slice B1 q cb) ∧ Below wr.heap.size wr W) (by kernel_rfl) (HSR.out _ (Below.refl wr.heap.size wr).drew) (fun hS => ?_)
        obtain ⟨wd, hwd⟩ : ∃ v, wr.drew = v := ⟨_, rfl⟩
        have d0 : Below wr.heap.size wr wd := by rw [← hwd]; exact (Below.refl wr.heap.size wr).drew
        rw [hwd] at hS ⊢
        clear hwd
        refine wpAnyH_take (i := 0) (oi := ⟨some 70, _, _, _, _, _⟩) (v := .agg #[.int .u8 0, .bool true, .int .u32 16, .slice none 0 0, .slice B1 q cb]) rfl (by kernel_rfl) (by kernel_rfl) (by kernel_rfl) (fun _ _ _ h => h) (Or.inl ⟨by rfl, fun w hSw => by (try obtain ⟨s1, s2, s3, s4, s5, s6⟩ := hSw); go_simp⟩) hS ?_
        (try simp only [Act.put, List.setIfInBounds_toArray, List.set_cons_zero, List.set_cons_succ])
        refine wpAnyH_take (i := 1) (oi := ⟨some 71, _, _, _, _, _⟩) (v := .int .u32 (t : Int)) rfl (by kernel_rfl) (by kernel_rfl) (by kernel_rfl) (fun _ _ _ h => h) (Or.inl ⟨by rfl, fun w _ => by go_simp⟩) hS ?_
        (try simp only [Act.put, List.setIfInBounds_toArray, List.set_cons_zero, List.set_cons_succ])
        refine wpAnyH_take (i := 3) (oi := ⟨some 73, _, _, _, _, _⟩) (v := .agg #[.int .u8 0, .bool true, .int .u32 16, .slice none 0 0, .slice B1 q cb]) rfl (by kernel_rfl) (by kernel_rfl) (by kernel_rfl) (fun _ _ _ h => h) (Or.inl ⟨by rfl, fun w hSw => by (try obtain ⟨s1, s2, s3, s4, s5, s6⟩ := hSw); go_simp⟩) hS ?_
        (try simp only [Act.put, List.setIfInBounds_toArray, List.set_cons_zero, List.set_cons_succ])
        refine wpAnyH_take (i := 4) (oi := ⟨some 74, _, _, _, _, _⟩) (v := .int .u32 (t : Int)) rfl (by kernel_rfl) (by kernel_rfl) (by kernel_rfl) (fun _ _ _ h => h) (Or.inl ⟨by rfl, fun w _ => by go_simp⟩) hS ?_
        (try simp only [Act.put, List.setIfInBounds_toArray, List.set_cons_zero, List.set_cons_succ])
        refine wpAnyH_ready (rs := [2]) (by kernel_rfl) (by simp) ?_
        refine AllReadyH.cons (o := _) rfl (fun K hK => ?_) (AllReadyH.nil)
        go_simp
        refine (expl_any 0 16 true (.slice none 0 0) [] (tofS code) B1 q cb t _ HM.out.1 P1 f1 HRX.out).mono ?_
        rintro e wC2 ⟨A1, m1, n1, rfl, hl5, _, hm5, hx5, hr5, hv⟩
        obtain rfl := hx5 rfl
        have HL1 := Lib.hid (And.intro hl5 hm5)
        have R1 := Lib.hid hr5.rd
        have d1 : Below wr.heap.size wr wC2 := d0.trans (hv.mono d0.size)
        clear hv hr5 hl5 hm5 hx5
        refine hK.out _ _ (HSR.out _ d1) (fun hS9 => ?_)
        clear hK K hS
        have hS := hS9
        clear hS9
        (try simp only [Act.put, List.setIfInBounds_toArray, List.set_cons_zero, List.set_cons_succ])
        refine wpAnyH_ready (rs := [5]) (by kernel_rfl) (by simp) ?_
        refine AllReadyH.cons (o := _) rfl (fun K hK => ?_) (AllReadyH.nil)
        go_simp
        refine (rexpl_any 0 16 true (.slice none 0 0) [] (tofS code) B1 q cb t _ HM.out.1 P1 f1 HRX.out).mono ?_
        rintro e wC5 ⟨X1, k1, y1, rfl, hl5, _, _, _, hr5, hv⟩
        obtain rfl : n1 = k1 := HL1.out.1.symm.trans hl5
        have Q1 := Lib.hid hr5.rd
        have d2 : Below wr.heap.size wr wC5 := d1.trans (hv.mono d1.size)
        replace R1 := Lib.hid (R1.out.below hv)
        clear hv hr5 hl5
        refine hK.out _ _ (HSR.out _ d2) (fun hS9 => ?_)
        clear hK K hS
        have hS := hS9
        clear hS9
        (try simp only [Act.put, List.setIfInBounds_toArray, List.set_cons_zero, List.set_cons_succ])
        refine wpAnyH_ready (rs := [6]) (by kernel_rfl) (by simp) ?_
        refine AllReadyH.cons (o := _) rfl (fun K hK => ?_) (AllReadyH.nil)
        go_simp
        refine (lfault_eq P1 f1 A1 X1 n1 y1 _ R1.out Q1.out HL1.out.1 HL1.out.2).mono ?_
        rintro e wC6 ⟨rfl, hv⟩
        have d3 : Below wr.heap.size wr wC6 := d2.trans (hv.mono d2.size)
        replace R1 := Lib.hid (R1.out.below hv)
        replace Q1 := Lib.hid (Q1.out.below hv)
        clear hv
        refine hK.out _ _ (HSR.out _ d3) (fun hS9 => ?_)
        clear hK K hS
        have hS := hS9
        clear hS9
        (try simp only [Act.put, List.setIfInBounds_toArray, List.set_cons_zero, List.set_cons_succ])
        refine wpAnyH_take (i := 7) (oi := ⟨some 77, _, _, _, _, _⟩) (v := .bool true) rfl (by kernel_rfl) (by kernel_rfl) (by kernel_rfl) (fun _ _ _ h => h) (Or.inl ⟨by rfl, fun w _ => by go_simp⟩) hS ?_
        (try simp only [Act.put, List.setIfInBounds_toArray, List.set_cons_zero, List.set_cons_succ])
        refine wpAnyH_take (i := 8) (oi := ⟨some 78, _, _, _, _, _⟩) (v := .bool true) rfl (by kernel_rfl) (by kernel_rfl) (by kernel_rfl) (fun _ _ _ h => h) (Or.inl ⟨by rfl, fun w _ => by go_simp⟩) hS ?_
        (try simp only [Act.put, List.setIfInBounds_toArray, List.set_cons_zero, List.set_cons_succ])
        refine wpAnyH_ready (rs := [9]) (by kernel_rfl) (by simp) ?_
        refine AllReadyH.cons (o := _) rfl (fun K hK => ?_) (AllReadyH.nil)
        go_simp
        refine (lives_any _).mono ?_
        rintro e wC9 ⟨rfl, hv⟩
        have d4 : Below wr.heap.size wr wC9 := d3.trans (hv.mono d3.size)
        replace R1 := Lib.hid (R1.out.below hv)
        replace Q1 := Lib.hid (Q1.out.below hv)
        clear hv
        refine hK.out _ _ (HSR.out _ d4) (fun hS9 => ?_)
        clear hK K hS
        have hS := hS9
        clear hS9
        (try simp only [Act.put, List.setIfInBounds_toArray, List.set_cons_zero, List.set_cons_succ])
        refine wpAnyH_take (i := 10) (oi := ⟨some 80, _, _, _, _, _⟩) (v := .bool true) rfl (by kernel_rfl) (by kernel_rfl) (by kernel_rfl) (fun _ _ _ h => h) (Or.inl ⟨by rfl, fun w _ => by go_simp⟩) hS ?_
        (try simp only [Act.put, List.setIfInBounds_toArray, List.set_cons_zero, List.set_cons_succ])
        refine wpAnyH_take (i := 11) (oi := ⟨some 6, _, _, _, _, _⟩) (v := .bool true) rfl (by kernel_rfl) (by kernel_rfl) (by kernel_rfl) (fun _ _ _ h => h) (Or.inl ⟨by rfl, fun w _ => by go_simp⟩) hS ?_
        (try simp only [Act.put, List.setIfInBounds_toArray, List.set_cons_zero, List.set_cons_succ])
        refine wpAnyH_done (by kernel_rfl) ?_ _
        clear hS
        have DX := Lib.hid d4
        clear HSR d0 d1 d2 d3 d4
        have BZ := bt B DX
        clear DX
        go_wp2_with fail
        go_ret
        exact ⟨rfl, BZ.out⟩
open Go.WideMaps Go.WideElems

open Go.ChangeShapes Go.WideShapes Go.ChangeAt
set_option maxRecDepth 100000 in
theorem fieldsList_lifted (os : Os) (started : os.Started) (H : Type) (enc : TypeId × Value → H) :
    ReturnsInHanded {} Try.checked os 5 .any (Rows.fieldsListSpec.pre6 enc Try.prog Try.f5 Rows.fieldsListRow.domain false) (Rows.fieldsListSpec.post enc Try.prog Try.f5 false true false false) := by
  refine returnsInHanded_of_change (C := Try.checked) x_own started (by kernel_rfl) Try.func5
    (ChangeSpec.witness6 (enc := enc) (C := Try.checked) false ⟨#[], #[.agg #[.slice none 0 0], .agg #[.int .i64 0, .int .i64 0], .int .u32 0], []⟩ 8 (by kernel_rfl) (by kernel_rfl) (by kernel_rfl) (by kernel_rfl)) ?_
  intro W base args ds gs before hval0 hW hcnd _
  have hval : ∀ (j : Nat) t v, Try.f5.params[j]? = some t → args[j]? = some v → Value.okWide Try.prog W .any base t v := hval0
  have hW' := hW
  obtain ⟨p, q, hA0, hV, rfl, hfz, hnd⟩ := hW
  have hA : DataW.TrodAll enc Try.prog W 0 (fun _ => true) true Try.f5.params.toList args.toList ds p := hA0
  rw [Try.params5] at hA hval
  obtain ⟨v0, v1, v2, d0, d1, d2, p0, p1, p2, rfl, rfl, rfl, h0, h1, h2⟩ := trodAll_three hA
  obtain ⟨rfl, rfl⟩ := trodVars_none hV
  obtain ⟨A, l, c, rfl, hA1, hl1, hm1⟩ := open_T (hval 0 _ _ rfl rfl) h0
  obtain ⟨z0, z1, rfl, hz0, hz1⟩ := open_i2 (hval 1 _ _ rfl rfl) h1
  obtain ⟨t, rfl, ht1⟩ := open_u32 (hval 2 _ _ rfl rfl) h2
  clear hA0 hval0
  refine (list_law l A l.length c z0 z1 t W hA1 rfl (Nat.le_trans hl1 hm1) hz0 hz1 ht1).mono fun e W' ⟨he, hb⟩ => ?_
  subst he
  exact ⟨_, rfl, law_post (tb := 4) x_laid (by decide +kernel) rfl rfl (by kernel_rfl) Try.underlying4 hW' hb⟩

/-- The statement. -/
theorem fieldsList_holds : Rows.FieldsListSaid :=
  OpenClaim.holds_of_wide 5 Try.f5 rfl rfl rfl rfl rfl rfl rfl ⟨rfl, rfl, rfl, rfl, rfl⟩ rfl rfl rfl rfl rfl (by kernel_rfl) Try.func5 (by kernel_rfl)
    (of_decide_eq_true (by kernel_rfl)) (by unfold Func.isWrapper; first | (rw [if_pos (by decide +kernel)]; kernel_rfl) | (rw [if_neg (by decide +kernel)]; exact ⟨rfl, rfl⟩))
    (fun os started H enc _ => fieldsList_lifted os started H enc)
end Go.Proofs.Ytklljbcnfamikaa.Fl
