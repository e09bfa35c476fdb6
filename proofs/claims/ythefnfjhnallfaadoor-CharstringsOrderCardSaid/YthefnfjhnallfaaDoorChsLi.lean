/-
  Layer 9: the examples of the chapter hold: the statements' helper 'lives' returns true; what was there has not turned.
  Conditions: the variables hold what the program's text lays.
-/
import Derived.Test.YthefnfjhnallfaaDoorChsLc
namespace Go.Proofs.YthefnfjhnallfaaDoor.Chs
open Go.RowKit Go.Shelf

set_option linter.unusedSimpArgs false in
set_option linter.unusedVariables false in
set_option maxHeartbeats 6400000 in
set_option maxRecDepth 100000 in
theorem lives9 (w : World) (hT : Tab w) : Calls Tryd.prog 10 #[] w fun e w' => e = .returned (.bool true) ∧ Below w.heap.size w w' := by
  obtain ⟨Sz, hSz⟩ : ∃ s, S0 = s := ⟨_, rfl⟩
  have HSZ0 := Lib.hid hSz
  have HSZ : Hid (bstr [] = Sz) := Lib.hid (by rw [← hSz]; rfl)
  have hz : ∀ w : World, (zeroValue 24).run Tryd.prog w = .ok (.agg #[.int .u32 0, .string Sz]) w := by rw [← hSz]; exact zeroCh
  have K0 := Lib.hid (St.start hT)
  clear hSz hT
  go_enter Tryd.func10, Tryd.ntmps10
  go_upto_region 2 with fail
  obtain ⟨g1, hg1⟩ : ∃ g, w.heap.size = g := ⟨_, rfl⟩
  obtain ⟨w1, hw1⟩ : ∃ v, w.alloc (.cells #[.int .u32 0, .string Sz] 24) = v := ⟨_, rfl⟩
  have hbk : Hid (Bk w1 g1 24 (chL 0 Sz)) := Lib.hid (by rw [← hw1, ← hg1]; exact Bk.new w _ (chL 0 Sz))
  have hb : Hid (Below w.heap.size w w1) := Lib.hid (by rw [← hw1]; exact bel1 w _)
  have GE_g1 : Hid (w.heap.size ≤ g1) := Lib.hid (by rw [← hg1]; exact K0.out.b.size)
  rw [hw1, hg1]
  have K1 := kp K0 hb
  clear hb K0
  have Kn := kb K1 hbk
  clear hbk K1 hg1 hw1
  have K1 := Kn
  clear Kn
  go_wp2_with fail
  refine (made_at w1 19 ⟨#[97, 32, 98]⟩).mono ?_
  rintro e w2 ⟨rfl, hb⟩
  have K2 := kp K1 hb
  clear hb K1
  go_wp2_with fail
  refine (chk_at w2 19 (by decide) [97, 32, 98] (lt_lit rfl) (by decide) ⟨#[97, 32, 98]⟩ rfl 0 (by decide +kernel) K2.out.t).mono ?_
  rintro e w3 ⟨rfl, hb⟩
  have K3 := kp K2 hb
  clear hb K2
  go_wp2_with fail
  refine (made_at w3 19 ⟨#[97, 95, 98]⟩).mono ?_
  rintro e w4 ⟨rfl, hb⟩
  have K4 := kp K3 hb
  clear hb K3
  go_wp2_with fail
  refine (chk_at w4 19 (by decide) [97, 95, 98] (lt_lit rfl) (by decide) ⟨#[97, 95, 98]⟩ rfl 11 (by decide +kernel) K4.out.t).mono ?_
  rintro e w5 ⟨rfl, hb⟩
  have K5 := kp K4 hb
  clear hb K4
  go_wp2_with fail
  refine (made_at w5 4 ⟨#[]⟩).mono ?_
  rintro e w6 ⟨rfl, hb⟩
  have K6 := kp K5 hb
  clear hb K5
  go_wp2_with fail
  refine (chk_at w6 4 (by decide) [] (lt_lit rfl) (by decide) ⟨#[]⟩ rfl 9 (by decide +kernel) K6.out.t).mono ?_
  rintro e w7 ⟨rfl, hb⟩
  have K7 := kp K6 hb
  clear hb K6
  go_wp2_with fail
  refine (made_at w7 12 ⟨#[255]⟩).mono ?_
  rintro e w8 ⟨rfl, hb⟩
  have K8 := kp K7 hb
  clear hb K7
  go_wp2_with fail
  refine (chk_at w8 12 (by decide) [255] (lt_lit rfl) (by decide) ⟨#[255]⟩ rfl 11 (by decide +kernel) K8.out.t).mono ?_
  rintro e w9 ⟨rfl, hb⟩
  have K9 := kp K8 hb
  clear hb K8
  go_wp2_with fail
  refine (made_at w9 30 ⟨#[195, 169]⟩).mono ?_
  rintro e w10 ⟨rfl, hb⟩
  have K10 := kp K9 hb
  clear hb K9
  go_wp2_with fail
  refine (chk_at w10 30 (by decide) [195, 169] (lt_lit rfl) (by decide) ⟨#[195, 169]⟩ rfl 0 (by decide +kernel) K10.out.t).mono ?_
  rintro e w11 ⟨rfl, hb⟩
  have K11 := kp K10 hb
  clear hb K10
  go_wp2_with fail
  refine (made_at w11 22 ⟨#[97, 98]⟩).mono ?_
  rintro e w12 ⟨rfl, hb⟩
  have K12 := kp K11 hb
  clear hb K11
  go_wp2_with fail
  refine (put_at w12 22 (by decide) [97, 98] (lt_lit rfl) (by decide) ⟨#[97, 98]⟩ rfl 0 (by decide +kernel) [97, 98] 2 (by decide +kernel) rfl K12.out.t).mono ?_
  rintro e w13 ⟨A0, rfl, hr, hb⟩
  have K13 := kp K12 hb
  clear hb K12
  have Kn := ka K13 hr
  clear hr K13
  have K13 := Kn
  clear Kn
  go_wp2_with fail
  refine (made_at w13 30 ⟨#[195, 169]⟩).mono ?_
  rintro e w14 ⟨rfl, hb⟩
  have K14 := kp K13 hb
  clear hb K13
  go_wp2_with fail
  refine (put_at w14 30 (by decide) [195, 169] (lt_lit rfl) (by decide) ⟨#[195, 169]⟩ rfl 0 (by decide +kernel) [0, 233] 2 (by decide +kernel) rfl K14.out.t).mono ?_
  rintro e w15 ⟨A1, rfl, hr, hb⟩
  have K15 := kp K14 hb
  clear hb K14
  have Kn := ka K15 hr
  clear hr K15
  have K15 := Kn
  clear Kn
  go_wp2_with fail
  refine (made_at w15 12 ⟨#[195, 169]⟩).mono ?_
  rintro e w16 ⟨rfl, hb⟩
  have K16 := kp K15 hb
  clear hb K15
  go_wp2_with fail
  refine (put_at w16 12 (by decide) [195, 169] (lt_lit rfl) (by decide) ⟨#[195, 169]⟩ rfl 0 (by decide +kernel) [195, 169] 2 (by decide +kernel) rfl K16.out.t).mono ?_
  rintro e w17 ⟨A2, rfl, hr, hb⟩
  have K17 := kp K16 hb
  clear hb K16
  have Kn := ka K17 hr
  clear hr K17
  have K17 := Kn
  clear Kn
  have hcc := Joins.run_convert_bytes_const_at (P := Tryd.prog) w17 32 5 #[.int .u8 97, .int .u8 98] 2 2 w17.heap.size rfl Tryd.underlying32 Tryd.underlying5
  go_wp2_with fail
  refine (same_mark w17 A0 [97, 98] (lt_lit rfl) 2 0 (2, 3) (K17.out.r (A0, cs8 [97, 98]) (by simp)) rfl).mono ?_
  rintro e w18 ⟨rfl, hb⟩
  have K18 := kp K17 hb
  clear hb K17
  clear hcc
  go_wp2_with fail
  refine (same_lit w18 A1 [0, 233] (lt_lit rfl) 2 0 (K18.out.r (A1, cs8 [0, 233]) (by simp)) rfl).mono ?_
  rintro e w19 ⟨rfl, hb⟩
  have K19 := kp K18 hb
  clear hb K18
  go_wp2_with fail
  refine (same_lit w19 A2 [195, 169] (lt_lit rfl) 2 0 (K19.out.r (A2, cs8 [195, 169]) (by simp)) rfl).mono ?_
  rintro e w20 ⟨rfl, hb⟩
  have K20 := kp K19 hb
  clear hb K19
  go_wp2_with fail
  refine (made_lit w20 30 ⟨#[195, 169]⟩ [0, 233]).mono ?_
  rintro e w21 ⟨rfl, hr, hb⟩
  have K21 := kp K20 hb
  clear hb K20
  have Kn := ka K21 hr
  clear hr K21
  have K21 := Kn
  clear Kn
  go_wp2_with fail
  refine (read_at w21 30 (by decide) (some ⟨w20.heap.size, 0, none⟩) [0, 233] (lt_lit rfl) 2 2 rfl (by decide) (by decide) 30 [195, 169] 0 (by decide +kernel) ⟨#[195, 169]⟩ rfl (K21.out.r (some ⟨w20.heap.size, 0, none⟩, cs8 [0, 233]) (by simp)) K21.out.t).mono ?_
  rintro e w22 ⟨rfl, hb⟩
  have K22 := kp K21 hb
  clear hb K21
  go_wp2_with (refine wpList_loadGg (by rfl) (.tmp 1) rfl rfl (rangeB ((K22.out.k (g1, 24, chL 0 Sz) (by simp)).alloc _)) Tryd.underlying24 rfl infoCh ?_)
  refine (read_lit w22 30 (by decide) [0] (lt_lit rfl) 1 rfl (by decide) 0 [] 11 (by decide +kernel) Sz HSZ.out K22.out.t).mono ?_
  rintro e w23 ⟨rfl, hb⟩
  have K23 := kp K22 hb
  clear hb K22
  go_wp2_with (refine wpList_loadGg (by rfl) (.tmp 1) rfl rfl (rangeB ((K23.out.k (g1, 24, chL 0 Sz) (by simp)).alloc _)) Tryd.underlying24 rfl infoCh ?_)
  refine (read_lit w23 30 (by decide) [216, 0] (lt_lit rfl) 2 rfl (by decide) 0 [] 11 (by decide +kernel) Sz HSZ.out K23.out.t).mono ?_
  rintro e w24 ⟨rfl, hb⟩
  have K24 := kp K23 hb
  clear hb K23
  go_wp2_with (refine wpList_loadGg (by rfl) (.tmp 1) rfl rfl (rangeB ((K24.out.k (g1, 24, chL 0 Sz) (by simp)).alloc _)) Tryd.underlying24 rfl infoCh ?_)
  refine (read_lit w24 22 (by decide) [128] (lt_lit rfl) 1 rfl (by decide) 0 [] 11 (by decide +kernel) Sz HSZ.out K24.out.t).mono ?_
  rintro e w25 ⟨rfl, hb⟩
  have K25 := kp K24 hb
  clear hb K24
  go_wp2_with (refine wpList_loadGg (by rfl) (.tmp 1) rfl rfl (rangeB ((K25.out.k (g1, 24, chL 0 Sz) (by simp)).alloc _)) Tryd.underlying24 rfl infoCh ?_)
  refine (read_lit w25 12 (by decide) [0] (lt_lit rfl) 1 rfl (by decide) 0 [] 11 (by decide +kernel) Sz HSZ.out K25.out.t).mono ?_
  rintro e w26 ⟨rfl, hb⟩
  have K26 := kp K25 hb
  clear hb K25
  go_wp2_with fail
  refine (made_at w26 30 ⟨#[195, 169]⟩).mono ?_
  rintro e w27 ⟨rfl, hb⟩
  have K27 := kp K26 hb
  clear hb K26
  go_wp2_with fail
  refine (conv_at w27 30 (by decide) [195, 169] (lt_lit rfl) (by decide) ⟨#[195, 169]⟩ rfl 12 (by decide) 0 (by decide +kernel) 12 ⟨#[195, 169]⟩ rfl K27.out.t).mono ?_
  rintro e w28 ⟨rfl, hb⟩
  have K28 := kp K27 hb
  clear hb K27
  go_upto_region 12 with fail
  obtain ⟨g8, hg8⟩ : ∃ g, w28.heap.size = g := ⟨_, rfl⟩
  obtain ⟨w29, hw29⟩ : ∃ v, w28.alloc (.cells #[.int .u32 12, .string ⟨#[195, 169]⟩] 24) = v := ⟨_, rfl⟩
  have hbk : Hid (Bk w29 g8 24 (chL 12 ⟨#[195, 169]⟩)) := Lib.hid (by rw [← hw29, ← hg8]; exact Bk.new w28 _ (chL 12 ⟨#[195, 169]⟩))
  have hb : Hid (Below w28.heap.size w28 w29) := Lib.hid (by rw [← hw29]; exact bel1 w28 _)
  have GE_g8 : Hid (w.heap.size ≤ g8) := Lib.hid (by rw [← hg8]; exact K28.out.b.size)
  rw [hw29, hg8]
  have K29 := kp K28 hb
  clear hb K28
  have Kn := kb K29 hbk
  clear hbk K29 hg8 hw29
  have K29 := Kn
  clear Kn
  go_wp2_with fail
  refine (made_at w29 30 ⟨#[195, 169]⟩).mono ?_
  rintro e w30 ⟨rfl, hb⟩
  have K30 := kp K29 hb
  clear hb K29
  go_wp2_with fail
  refine (conv_at w30 30 (by decide) [195, 169] (lt_lit rfl) (by decide) ⟨#[195, 169]⟩ rfl 22 (by decide) 11 (by decide +kernel) 0 Sz (by rw [if_neg (by decide), HSZ0.out]) K30.out.t).mono ?_
  rintro e w31 ⟨rfl, hb⟩
  have K31 := kp K30 hb
  clear hb K30
  go_upto_region 13 with fail
  obtain ⟨g10, hg10⟩ : ∃ g, w31.heap.size = g := ⟨_, rfl⟩
  obtain ⟨w32, hw32⟩ : ∃ v, w31.alloc (.cells #[.int .u32 0, .string Sz] 24) = v := ⟨_, rfl⟩
  have hbk : Hid (Bk w32 g10 24 (chL 0 Sz)) := Lib.hid (by rw [← hw32, ← hg10]; exact Bk.new w31 _ (chL 0 Sz))
  have hb : Hid (Below w31.heap.size w31 w32) := Lib.hid (by rw [← hw32]; exact bel1 w31 _)
  have GE_g10 : Hid (w.heap.size ≤ g10) := Lib.hid (by rw [← hg10]; exact K31.out.b.size)
  rw [hw32, hg10]
  have K32 := kp K31 hb
  clear hb K31
  have Kn := kb K32 hbk
  clear hbk K32 hg10 hw32
  have K32 := Kn
  clear Kn
  have hdr : Hid (Below w32.heap.size w32 w32.drew) := Lib.hid (Below.refl _ _).drew
  have KD := kp K32 hdr
  clear K32 hdr
  go_upto_region 13 with fail
  refine wp_region_held_drew (S := fun W => Bk W g8 24 (chL 12 ⟨#[195, 169]⟩)) (by kernel_rfl) (KD.out.k (g8, 24, chL 12 ⟨#[195, 169]⟩) (by simp)) (fun hS => ?_)
  generalize w32.drew = w33 at *
  have K33 := KD
  clear KD
  refine wpAnyH_ready (rs := [0]) (by kernel_rfl) (by simp) ?_
  refine AllReadyH.cons (o := _) rfl (fun K hK => ?_) (AllReadyH.nil)
  go_simp
  refine (made_at w33 12 ⟨#[97, 195, 169]⟩).mono ?_
  rintro e w34 ⟨rfl, hb⟩
  have K34 := kp K33 hb
  clear hb K33
  go_simp
  refine hK.out _ _ (K34.out.k (g8, 24, chL 12 ⟨#[195, 169]⟩) (by simp)) (fun hS => ?_)
  clear hK K
  (try simp only [Act.put, List.setIfInBounds_toArray, List.set_cons_zero, List.set_cons_succ])
  refine wpAnyH_ready (rs := [1]) (by kernel_rfl) (by simp) ?_
  refine AllReadyH.cons (o := _) rfl (fun K hK => ?_) (AllReadyH.nil)
  go_simp
  refine (len_at w34 12 (by decide) [97, 195, 169] (lt_lit rfl) (by decide) ⟨#[97, 195, 169]⟩ rfl 2 (by decide +kernel) K34.out.t).mono ?_
  rintro e w35 ⟨rfl, hb⟩
  have K35 := kp K34 hb
  clear hb K34
  go_simp
  refine hK.out _ _ (K35.out.k (g8, 24, chL 12 ⟨#[195, 169]⟩) (by simp)) (fun hS => ?_)
  clear hK K
  (try simp only [Act.put, List.setIfInBounds_toArray, List.set_cons_zero, List.set_cons_succ])
  refine wpAnyH_take (i := 2) (oi := ⟨some 112, _, _, _, _, _⟩) (v := .bool false) rfl (by kernel_rfl) (by kernel_rfl) (by kernel_rfl) (fun _ _ _ h => h) (Or.inl ⟨by rfl, fun w hSw => by (try dsimp only at hSw); go_simp⟩) hS ?_
  simp only [Act.put, List.setIfInBounds_toArray, List.set_cons_zero, List.set_cons_succ]
  refine wpAnyH_take (i := 3) (oi := ⟨some 113, _, _, _, _, _⟩) (v := .bool false) rfl (by kernel_rfl) (by kernel_rfl) (by kernel_rfl) (fun _ _ _ h => h) (Or.inl ⟨by rfl, fun w hSw => by (try dsimp only at hSw); go_simp⟩) hS ?_
  simp only [Act.put, List.setIfInBounds_toArray, List.set_cons_zero, List.set_cons_succ]
  refine wpAnyH_ready (rs := [4]) (by kernel_rfl) (by simp) ?_
  refine AllReadyH.cons (o := _) rfl (fun K hK => ?_) (AllReadyH.nil)
  go_simp
  refine (made_at w35 22 ⟨#[97]⟩).mono ?_
  rintro e w36 ⟨rfl, hb⟩
  have K36 := kp K35 hb
  clear hb K35
  go_simp
  refine hK.out _ _ (K36.out.k (g8, 24, chL 12 ⟨#[195, 169]⟩) (by simp)) (fun hS => ?_)
  clear hK K
  (try simp only [Act.put, List.setIfInBounds_toArray, List.set_cons_zero, List.set_cons_succ])
  refine wpAnyH_ready (rs := [5]) (by kernel_rfl) (by simp) ?_
  refine AllReadyH.cons (o := _) rfl (fun K hK => ?_) (AllReadyH.nil)
  go_simp
  refine (made_at w36 12 ⟨#[97]⟩).mono ?_
  rintro e w37 ⟨rfl, hb⟩
  have K37 := kp K36 hb
  clear hb K36
  go_simp
  refine hK.out _ _ (K37.out.k (g8, 24, chL 12 ⟨#[195, 169]⟩) (by simp)) (fun hS => ?_)
  clear hK K
  (try simp only [Act.put, List.setIfInBounds_toArray, List.set_cons_zero, List.set_cons_succ])
  refine wpAnyH_ready (rs := [6]) (by kernel_rfl) (by simp) ?_
  refine AllReadyH.cons (o := _) rfl (fun K hK => ?_) (AllReadyH.nil)
  go_simp
  refine (cmp_at w37 22 [97] ⟨#[97]⟩ rfl 12 [97] ⟨#[97]⟩ rfl 1 (by decide +kernel)).mono ?_
  rintro e w38 ⟨rfl, hb⟩
  have K38 := kp K37 hb
  clear hb K37
  go_simp
  refine hK.out _ _ (K38.out.k (g8, 24, chL 12 ⟨#[195, 169]⟩) (by simp)) (fun hS => ?_)
  clear hK K
  (try simp only [Act.put, List.setIfInBounds_toArray, List.set_cons_zero, List.set_cons_succ])
  refine wpAnyH_take (i := 7) (oi := ⟨some 117, _, _, _, _, _⟩) (v := .bool false) rfl (by kernel_rfl) (by kernel_rfl) (by kernel_rfl) (fun _ _ _ h => h) (Or.inl ⟨by rfl, fun w hSw => by (try dsimp only at hSw); go_simp⟩) hS ?_
  simp only [Act.put, List.setIfInBounds_toArray, List.set_cons_zero, List.set_cons_succ]
  refine wpAnyH_take (i := 8) (oi := ⟨some 118, _, _, _, _, _⟩) (v := .bool false) rfl (by kernel_rfl) (by kernel_rfl) (by kernel_rfl) (fun _ _ _ h => h) (Or.inl ⟨by rfl, fun w hSw => by (try dsimp only at hSw); go_simp⟩) hS ?_
  simp only [Act.put, List.setIfInBounds_toArray, List.set_cons_zero, List.set_cons_succ]
  refine wpAnyH_take (i := 9) (oi := ⟨some 119, _, _, _, _, _⟩) (v := .bool false) rfl (by kernel_rfl) (by kernel_rfl) (by kernel_rfl) (fun _ _ _ h => h) (Or.inl ⟨by rfl, fun w hSw => by (try dsimp only at hSw); go_simp⟩) hS ?_
  simp only [Act.put, List.setIfInBounds_toArray, List.set_cons_zero, List.set_cons_succ]
  refine wpAnyH_ready (rs := [10]) (by kernel_rfl) (by simp) ?_
  refine AllReadyH.cons (o := _) rfl (fun K hK => ?_) (AllReadyH.nil)
  go_simp
  refine (made_at w38 22 ⟨#[97]⟩).mono ?_
  rintro e w39 ⟨rfl, hb⟩
  have K39 := kp K38 hb
  clear hb K38
  go_simp
  refine hK.out _ _ (K39.out.k (g8, 24, chL 12 ⟨#[195, 169]⟩) (by simp)) (fun hS => ?_)
  clear hK K
  (try simp only [Act.put, List.setIfInBounds_toArray, List.set_cons_zero, List.set_cons_succ])
  refine wpAnyH_ready (rs := [11]) (by kernel_rfl) (by simp) ?_
  refine AllReadyH.cons (o := _) rfl (fun K hK => ?_) (AllReadyH.nil)
  go_simp
  refine (made_at w39 12 ⟨#[98]⟩).mono ?_
  rintro e w40 ⟨rfl, hb⟩
  have K40 := kp K39 hb
  clear hb K39
  go_simp
  refine hK.out _ _ (K40.out.k (g8, 24, chL 12 ⟨#[195, 169]⟩) (by simp)) (fun hS => ?_)
  clear hK K
  (try simp only [Act.put, List.setIfInBounds_toArray, List.set_cons_zero, List.set_cons_succ])
  refine wpAnyH_ready (rs := [12]) (by kernel_rfl) (by simp) ?_
  refine AllReadyH.cons (o := _) rfl (fun K hK => ?_) (AllReadyH.nil)
  go_simp
  refine (cmp_at w40 22 [97] ⟨#[97]⟩ rfl 12 [98] ⟨#[98]⟩ rfl (-1) (by decide +kernel)).mono ?_
  rintro e w41 ⟨rfl, hb⟩
  have K41 := kp K40 hb
  clear hb K40
  go_simp
  refine hK.out _ _ (K41.out.k (g8, 24, chL 12 ⟨#[195, 169]⟩) (by simp)) (fun hS => ?_)
  clear hK K
  (try simp only [Act.put, List.setIfInBounds_toArray, List.set_cons_zero, List.set_cons_succ])
  refine wpAnyH_take (i := 13) (oi := ⟨some 123, _, _, _, _, _⟩) (v := .bool false) rfl (by kernel_rfl) (by kernel_rfl) (by kernel_rfl) (fun _ _ _ h => h) (Or.inl ⟨by rfl, fun w hSw => by (try dsimp only at hSw); go_simp⟩) hS ?_
  simp only [Act.put, List.setIfInBounds_toArray, List.set_cons_zero, List.set_cons_succ]
  refine wpAnyH_take (i := 14) (oi := ⟨some 124, _, _, _, _, _⟩) (v := .bool false) rfl (by kernel_rfl) (by kernel_rfl) (by kernel_rfl) (fun _ _ _ h => h) (Or.inl ⟨by rfl, fun w hSw => by (try dsimp only at hSw); go_simp⟩) hS ?_
  simp only [Act.put, List.setIfInBounds_toArray, List.set_cons_zero, List.set_cons_succ]
  refine wpAnyH_take (i := 15) (oi := ⟨some 125, _, _, _, _, _⟩) (v := .bool false) rfl (by kernel_rfl) (by kernel_rfl) (by kernel_rfl) (fun _ _ _ h => h) (Or.inl ⟨by rfl, fun w hSw => by (try dsimp only at hSw); go_simp⟩) hS ?_
  simp only [Act.put, List.setIfInBounds_toArray, List.set_cons_zero, List.set_cons_succ]
  refine wpAnyH_take (i := 16) (oi := ⟨some 126, _, _, _, _, _⟩) (v := chV 12 ⟨#[195, 169]⟩) rfl (by kernel_rfl) (by kernel_rfl) (by kernel_rfl) (fun _ _ _ h => h) (yieldsIf_load_mid (by rfl) 24 (.tmp 8) rfl g8 0 rfl (chL 12 ⟨#[195, 169]⟩) _ (fun W h => rangeB h) Tryd.underlying24 rfl infoCh) hS ?_
  (try simp only [Act.put, List.setIfInBounds_toArray, List.set_cons_zero, List.set_cons_succ])
  refine wpAnyH_ready (rs := [17]) (by kernel_rfl) (by simp) ?_
  refine AllReadyH.cons (o := _) rfl (fun K hK => ?_) (AllReadyH.nil)
  go_simp
  refine (made_at w41 12 ⟨#[195, 169]⟩).mono ?_
  rintro e w42 ⟨rfl, hb⟩
  have K42 := kp K41 hb
  clear hb K41
  go_simp
  refine hK.out _ _ (K42.out.k (g8, 24, chL 12 ⟨#[195, 169]⟩) (by simp)) (fun hS => ?_)
  clear hK K
  (try simp only [Act.put, List.setIfInBounds_toArray, List.set_cons_zero, List.set_cons_succ])
  refine wpAnyH_take (i := 18) (oi := ⟨some 128, _, _, _, _, _⟩) (v := .bool false) rfl (by kernel_rfl) (by kernel_rfl) (by kernel_rfl) (fun _ _ _ h => h) (Or.inl ⟨by rfl, fun w hSw => by (try dsimp only at hSw); go_simp⟩) hS ?_
  simp only [Act.put, List.setIfInBounds_toArray, List.set_cons_zero, List.set_cons_succ]
  refine wpAnyH_take (i := 19) (oi := ⟨some 129, _, _, _, _, _⟩) (v := .bool false) rfl (by kernel_rfl) (by kernel_rfl) (by kernel_rfl) (fun _ _ _ h => h) (Or.inl ⟨by rfl, fun w hSw => by (try dsimp only at hSw); go_simp⟩) hS ?_
  simp only [Act.put, List.setIfInBounds_toArray, List.set_cons_zero, List.set_cons_succ]
  refine wpAnyH_take (i := 20) (oi := ⟨some 130, _, _, _, _, _⟩) (v := .bool false) rfl (by kernel_rfl) (by kernel_rfl) (by kernel_rfl) (fun _ _ _ h => h) (Or.inl ⟨by rfl, fun w hSw => by (try dsimp only at hSw); go_simp⟩) hS ?_
  simp only [Act.put, List.setIfInBounds_toArray, List.set_cons_zero, List.set_cons_succ]
  refine wpAnyH_take (i := 21) (oi := ⟨some 131, _, _, _, _, _⟩) (v := .int .i64 0) rfl (by kernel_rfl) (by kernel_rfl) (by kernel_rfl) (fun _ _ _ h => h) (Or.inl ⟨by rfl, fun w hSw => by (try dsimp only at hSw); go_simp⟩) hS ?_
  simp only [Act.put, List.setIfInBounds_toArray, List.set_cons_zero, List.set_cons_succ]
  refine wpAnyH_take (i := 22) (oi := ⟨some 132, _, _, _, _, _⟩) (v := .bool false) rfl (by kernel_rfl) (by kernel_rfl) (by kernel_rfl) (fun _ _ _ h => h) (Or.inl ⟨by rfl, fun w hSw => by (try dsimp only at hSw); go_simp⟩) hS ?_
  simp only [Act.put, List.setIfInBounds_toArray, List.set_cons_zero, List.set_cons_succ]
  refine wpAnyH_take (i := 23) (oi := ⟨some 133, _, _, _, _, _⟩) (v := .bool false) rfl (by kernel_rfl) (by kernel_rfl) (by kernel_rfl) (fun _ _ _ h => h) (Or.inl ⟨by rfl, fun w hSw => by (try dsimp only at hSw); go_simp⟩) hS ?_
  simp only [Act.put, List.setIfInBounds_toArray, List.set_cons_zero, List.set_cons_succ]
  refine wpAnyH_take (i := 24) (oi := ⟨some 134, _, _, _, _, _⟩) (v := .bool false) rfl (by kernel_rfl) (by kernel_rfl) (by kernel_rfl) (fun _ _ _ h => h) (Or.inl ⟨by rfl, fun w hSw => by (try dsimp only at hSw); go_simp⟩) hS ?_
  simp only [Act.put, List.setIfInBounds_toArray, List.set_cons_zero, List.set_cons_succ]
  refine wpAnyH_take (i := 25) (oi := ⟨some 135, _, _, _, _, _⟩) (v := .int .i64 11) rfl (by kernel_rfl) (by kernel_rfl) (by kernel_rfl) (fun _ _ _ h => h) (Or.inl ⟨by rfl, fun w hSw => by (try dsimp only at hSw); go_simp⟩) hS ?_
  simp only [Act.put, List.setIfInBounds_toArray, List.set_cons_zero, List.set_cons_succ]
  refine wpAnyH_take (i := 26) (oi := ⟨some 136, _, _, _, _, _⟩) (v := .bool false) rfl (by kernel_rfl) (by kernel_rfl) (by kernel_rfl) (fun _ _ _ h => h) (Or.inl ⟨by rfl, fun w hSw => by (try dsimp only at hSw); go_simp⟩) hS ?_
  simp only [Act.put, List.setIfInBounds_toArray, List.set_cons_zero, List.set_cons_succ]
  refine wpAnyH_take (i := 27) (oi := ⟨some 137, _, _, _, _, _⟩) (v := .bool false) rfl (by kernel_rfl) (by kernel_rfl) (by kernel_rfl) (fun _ _ _ h => h) (Or.inl ⟨by rfl, fun w hSw => by (try dsimp only at hSw); go_simp⟩) hS ?_
  simp only [Act.put, List.setIfInBounds_toArray, List.set_cons_zero, List.set_cons_succ]
  refine wpAnyH_done (by kernel_rfl) ?_ _
  clear hS
  go_upto_region 16 with fail
  obtain ⟨g12, hg12⟩ : ∃ g, w42.heap.size = g := ⟨_, rfl⟩
  obtain ⟨w43, hw43⟩ : ∃ v, w42.alloc (.cells #[.int .u32 12, .int .u32 19, .int .u32 22, .int .u32 26, .int .u32 30] 22) = v := ⟨_, rfl⟩
  have hr : Hid (Rd w43 (some ⟨g12, 0, none⟩) (cs32 [12, 19, 22, 26, 30])) := Lib.hid (by
    rw [← hw43, ← hg12]
    have := (Bk.new w42 22 (cs32 [12, 19, 22, 26, 30])).rd 0
    exact this)
  have hb : Hid (Below w42.heap.size w42 w43) := Lib.hid (by rw [← hw43]; exact bel1 w42 _)
  rw [hw43, hg12]
  clear hw43 hg12
  have K43 := kp K42 hb
  clear hb K42
  have Kn := ka K43 hr
  clear hr K43
  have K43 := Kn
  clear Kn
  go_wp2_with fail
  refine (kinds_at w43 [97] (lt_lit rfl) (by decide) ⟨#[97]⟩ rfl [12, 19, 22, 26, 30] 5 (by decide +kernel) rfl K43.out.t).mono ?_
  rintro e w44 ⟨B1, rfl, hr, hb⟩
  have K44 := kp K43 hb
  clear hb K43
  have Kn := ka K44 hr
  clear hr K44
  have K44 := Kn
  clear Kn
  go_wp2_with fail
  refine (list_at w44 B1 (some ⟨g12, 0, none⟩) [12, 19, 22, 26, 30] 5 5 rfl (by decide) (K44.out.r (B1, cs32 [12, 19, 22, 26, 30]) (by simp)) (K44.out.r (some ⟨g12, 0, none⟩, cs32 [12, 19, 22, 26, 30]) (by simp))).mono ?_
  rintro e w45 ⟨rfl, hb⟩
  have K45 := kp K44 hb
  clear hb K44
  go_wp2_with fail
  refine (kinds_at w45 [95] (lt_lit rfl) (by decide) ⟨#[95]⟩ rfl [12, 22, 26, 30] 4 (by decide +kernel) rfl K45.out.t).mono ?_
  rintro e w46 ⟨B2, rfl, hr, hb⟩
  have K46 := kp K45 hb
  clear hb K45
  have Kn := ka K46 hr
  clear hr K46
  have K46 := Kn
  clear Kn
  go_wp2_with fail
  refine (list_lit w46 B2 [12, 22, 26, 30] 4 rfl (by decide) (K46.out.r (B2, cs32 [12, 22, 26, 30]) (by simp))).mono ?_
  rintro e w47 ⟨rfl, hb⟩
  have K47 := kp K46 hb
  clear hb K46
  go_wp2_with fail
  refine (kinds_at w47 [] (lt_lit rfl) (by decide) ⟨#[]⟩ rfl [12, 19, 22, 26, 30] 5 (by decide +kernel) rfl K47.out.t).mono ?_
  rintro e w48 ⟨B3, rfl, hr, hb⟩
  have K48 := kp K47 hb
  clear hb K47
  have Kn := ka K48 hr
  clear hr K48
  have K48 := Kn
  clear Kn
  go_wp2_with fail
  refine (list_at w48 B3 (some ⟨g12, 0, none⟩) [12, 19, 22, 26, 30] 5 5 rfl (by decide) (K48.out.r (B3, cs32 [12, 19, 22, 26, 30]) (by simp)) (K48.out.r (some ⟨g12, 0, none⟩, cs32 [12, 19, 22, 26, 30]) (by simp))).mono ?_
  rintro e w49 ⟨rfl, hb⟩
  have K49 := kp K48 hb
  clear hb K48
  go_wp2_with fail
  go_ret
  exact ⟨rfl, K49.out.b⟩
theorem lives_at (W : World) (hT : Tab W) : Calls Tryd.prog 10 #[] W fun e w' => e = .returned (.bool true) ∧ Hid (Below W.heap.size W w') :=
  (lives9 W hT).mono fun _ _ ⟨h1, h2⟩ => ⟨h1, Lib.hid h2⟩
end Go.Proofs.YthefnfjhnallfaaDoor.Chs
