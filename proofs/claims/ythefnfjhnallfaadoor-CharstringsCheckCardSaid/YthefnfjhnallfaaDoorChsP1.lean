/-
  Layer 9, the statement CharstringsCheck: exactly the valid character strings are accepted, with the first error; the other functions return the error; the examples hold.
  Conditions: the package-level variables that the row lists hold what the program's text lays (the card ties them).
-/
import Derived.Test.YthefnfjhnallfaaDoorChsLi
namespace Go.Proofs.YthefnfjhnallfaaDoor.Chs
open Go.RowKit Go.Shelf

set_option linter.unusedSimpArgs false in
set_option linter.unusedVariables false in
set_option maxHeartbeats 6400000 in
set_option maxRecDepth 100000 in
theorem check_long (k : Nat) (hk : k < 4294967296) (l : List Nat) (h8 : All8 l) (hlm : l.length ≤ maxLen) (k2 : Nat) (hk2 : k2 < 4294967296) (w : World) (hT : Tab w) (hg : 100 < l.length) :
    Calls Tryd.prog 3 #[chV k (bstr l), .int .u32 (k2 : Int)] w fun e w' => e = .returned (.bool true) ∧ Below w.heap.size w w' := by
  have K0 := Lib.hid (St.start hT)
  have H8 := Lib.hid h8
  obtain ⟨Sz, hSz⟩ : ∃ s, S0 = s := ⟨_, rfl⟩
  have HSZ0 := Lib.hid hSz
  have HSZ : Hid (bstr [] = Sz) := Lib.hid (by rw [← hSz]; rfl)
  have hz : ∀ w : World, (zeroValue 24).run Tryd.prog w = .ok (.agg #[.int .u32 0, .string Sz]) w := by rw [← hSz]; exact zeroCh
  clear hSz
  obtain ⟨S, hS⟩ : ∃ S, bstr l = S := ⟨_, rfl⟩
  have hsz : S.size = l.length := by rw [← hS]; exact size_bstr l
  have HS := Lib.hid hS
  rw [hS]
  obtain ⟨n, hn⟩ : ∃ n, l.length = n := ⟨_, rfl⟩
  rw [hn] at hsz
  have HNL := Lib.hid hn
  have hi : (100 : Int) < (n : Int) := by omega
  clear h8 hT hS hn hlm hg
  go_enter Tryd.func3, Tryd.ntmps3
  go_upto_region 1 with fail
  obtain ⟨g2, hg2⟩ : ∃ g, w.heap.size = g := ⟨_, rfl⟩
  obtain ⟨w1, hw1⟩ : ∃ v, w.alloc (.cells #[.int .u32 (k : Int), .string S] 24) = v := ⟨_, rfl⟩
  have hbk : Hid (Bk w1 g2 24 (chL k S)) := Lib.hid (by rw [← hw1, ← hg2]; exact Bk.new w _ (chL k S))
  have hb : Hid (Below w.heap.size w w1) := Lib.hid (by rw [← hw1]; exact bel1 w _)
  have GE_g2 : Hid (w.heap.size ≤ g2) := Lib.hid (by rw [← hg2]; exact K0.out.b.size)
  rw [hw1, hg2]
  have K1 := kp K0 hb
  clear hb K0
  have Kn := kb K1 hbk
  clear hbk K1 hg2 hw1
  have K1 := Kn
  clear Kn
  have c_g2_1 : w1.cell? ⟨g2, 1, none⟩ = some (.string S) := by rw [(K1.out.k (g2, 24, chL k S) (by simp)).cell]; rfl
  go_wp2_with fail
  refine (lives_at w1 K1.out.t).mono ?_
  rintro e w2 ⟨rfl, hb⟩
  have K2 := kp K1 hb
  clear hb K1
  go_wp2_with fail
  go_ret
  exact ⟨rfl, K2.out.b⟩
set_option linter.unusedSimpArgs false in
set_option linter.unusedVariables false in
set_option maxHeartbeats 6400000 in
set_option maxRecDepth 100000 in
theorem check_both (k : Nat) (hk : k < 4294967296) (l : List Nat) (h8 : All8 l) (hlm : l.length ≤ maxLen) (k2 : Nat) (hk2 : k2 < 4294967296) (w : World) (hT : Tab w) (hg : ¬ 100 < l.length) (h1 : chkC k l = 0) (h2 : chkC k2 l = 0) :
    Calls Tryd.prog 3 #[chV k (bstr l), .int .u32 (k2 : Int)] w fun e w' => e = .returned (.bool true) ∧ Below w.heap.size w w' := by
  have K0 := Lib.hid (St.start hT)
  have H8 := Lib.hid h8
  obtain ⟨Sz, hSz⟩ : ∃ s, S0 = s := ⟨_, rfl⟩
  have HSZ0 := Lib.hid hSz
  have HSZ : Hid (bstr [] = Sz) := Lib.hid (by rw [← hSz]; rfl)
  have hz : ∀ w : World, (zeroValue 24).run Tryd.prog w = .ok (.agg #[.int .u32 0, .string Sz]) w := by rw [← hSz]; exact zeroCh
  clear hSz
  obtain ⟨S, hS⟩ : ∃ S, bstr l = S := ⟨_, rfl⟩
  have hsz : S.size = l.length := by rw [← hS]; exact size_bstr l
  have HS := Lib.hid hS
  rw [hS]
  obtain ⟨n, hn⟩ : ∃ n, l.length = n := ⟨_, rfl⟩
  rw [hn] at hsz
  have HNL := Lib.hid hn
  have hi : ¬ (100 : Int) < (n : Int) := by omega
  have HL9 : Hid (l.length ≤ 9000000000000000000) := Lib.hid (by omega)
  have HF1 := Lib.hid h1
  have HF2 := Lib.hid h2
  have HCV : Hid (cvC k l k2 = 0) := Lib.hid (by unfold cvC; rw [if_neg (by rw [h1]; decide), h2])
  have heq := fun W => eqlS k2 S W
  clear h8 hT hS hn hlm hg h1 h2
  go_enter Tryd.func3, Tryd.ntmps3
  go_upto_region 1 with fail
  obtain ⟨g2, hg2⟩ : ∃ g, w.heap.size = g := ⟨_, rfl⟩
  obtain ⟨w1, hw1⟩ : ∃ v, w.alloc (.cells #[.int .u32 (k : Int), .string S] 24) = v := ⟨_, rfl⟩
  have hbk : Hid (Bk w1 g2 24 (chL k S)) := Lib.hid (by rw [← hw1, ← hg2]; exact Bk.new w _ (chL k S))
  have hb : Hid (Below w.heap.size w w1) := Lib.hid (by rw [← hw1]; exact bel1 w _)
  have GE_g2 : Hid (w.heap.size ≤ g2) := Lib.hid (by rw [← hg2]; exact K0.out.b.size)
  rw [hw1, hg2]
  have K1 := kp K0 hb
  clear hb K0
  have Kn := kb K1 hbk
  clear hbk K1 hg2 hw1
  have K1 := Kn
  clear Kn
  have c_g2_1 : w1.cell? ⟨g2, 1, none⟩ = some (.string S) := by rw [(K1.out.k (g2, 24, chL k S) (by simp)).cell]; rfl
  go_upto_region 4 with fail
  obtain ⟨g5, hg5⟩ : ∃ g, w1.heap.size = g := ⟨_, rfl⟩
  obtain ⟨w2, hw2⟩ : ∃ v, w1.alloc (.cells #[.int .u32 0, .string Sz] 24) = v := ⟨_, rfl⟩
  have hbk : Hid (Bk w2 g5 24 (chL 0 Sz)) := Lib.hid (by rw [← hw2, ← hg5]; exact Bk.new w1 _ (chL 0 Sz))
  have hb : Hid (Below w1.heap.size w1 w2) := Lib.hid (by rw [← hw2]; exact bel1 w1 _)
  have GE_g5 : Hid (w.heap.size ≤ g5) := Lib.hid (by rw [← hg5]; exact K1.out.b.size)
  rw [hw2, hg5]
  have K2 := kp K1 hb
  clear hb K1
  have Kn := kb K2 hbk
  clear hbk K2 hg5 hw2
  have K2 := Kn
  clear Kn
  clear c_g2_1
  go_wp2_with (refine wpList_loadGg (by rfl) (.tmp 2) rfl rfl (rangeB (K2.out.k (g2, 24, chL k S) (by simp))) Tryd.underlying24 rfl infoCh ?_)
  refine (rchk_at w2 k hk l H8.out HL9.out S HS.out 0 HF1.out).mono ?_
  rintro e w3 ⟨rfl, hb⟩
  have K3 := kp K2 hb
  clear hb K2
  go_wp2_with (refine wpList_loadGg (by rfl) (.tmp 2) rfl rfl (rangeB (K3.out.k (g2, 24, chL k S) (by simp))) Tryd.underlying24 rfl infoCh ?_)
  refine (chk_at w3 k hk l H8.out HL9.out S HS.out 0 HF1.out K3.out.t).mono ?_
  rintro e w4 ⟨rfl, hb⟩
  have K4 := kp K3 hb
  clear hb K3
  go_wp2_with (refine wpList_loadGg (by rfl) (.tmp 2) rfl rfl (rangeB (K4.out.k (g2, 24, chL k S) (by simp))) Tryd.underlying24 rfl infoCh ?_)
  refine (conv_at w4 k hk l H8.out HL9.out S HS.out k2 hk2 0 HCV.out k2 S rfl K4.out.t).mono ?_
  rintro e w5 ⟨rfl, hb⟩
  have K5 := kp K4 hb
  clear hb K4
  go_upto_region 8 with fail
  obtain ⟨g7, hg7⟩ : ∃ g, w5.heap.size = g := ⟨_, rfl⟩
  obtain ⟨w6, hw6⟩ : ∃ v, w5.alloc (.cells #[.int .u32 (k2 : Int), .string S] 24) = v := ⟨_, rfl⟩
  have hbk : Hid (Bk w6 g7 24 (chL k2 S)) := Lib.hid (by rw [← hw6, ← hg7]; exact Bk.new w5 _ (chL k2 S))
  have hb : Hid (Below w5.heap.size w5 w6) := Lib.hid (by rw [← hw6]; exact bel1 w5 _)
  have GE_g7 : Hid (w.heap.size ≤ g7) := Lib.hid (by rw [← hg7]; exact K5.out.b.size)
  rw [hw6, hg7]
  have K6 := kp K5 hb
  clear hb K5
  have Kn := kb K6 hbk
  clear hbk K6 hg7 hw6
  have K6 := Kn
  clear Kn
  have c_g2_1 : w6.cell? ⟨g2, 1, none⟩ = some (.string S) := by rw [(K6.out.k (g2, 24, chL k S) (by simp)).cell]; rfl
  go_wp2_with fail
  refine (made_at w6 k2 S).mono ?_
  rintro e w7 ⟨rfl, hb⟩
  have K7 := kp K6 hb
  clear hb K6
  go_wp2_with fail
  clear c_g2_1
  refine (rchk_at w7 k2 hk2 l H8.out HL9.out S HS.out 0 HF2.out).mono ?_
  rintro e w8 ⟨rfl, hb⟩
  have K8 := kp K7 hb
  clear hb K7
  go_upto_region 10 with fail
  have hdr : Hid (Below w8.heap.size w8 w8.drew) := Lib.hid (Below.refl _ _).drew
  have KD := kp K8 hdr
  clear K8 hdr
  refine wp_region_held_drew (S := fun W => Bk W g2 24 (chL k S) ∧ Bk W g5 24 (chL 0 Sz) ∧ Bk W g7 24 (chL k2 S)) (by kernel_rfl) ⟨(KD.out.k (g2, 24, chL k S) (by simp)), (KD.out.k (g5, 24, chL 0 Sz) (by simp)), (KD.out.k (g7, 24, chL k2 S) (by simp))⟩ (fun hS => ?_)
  generalize w8.drew = w9 at *
  have K9 := KD
  clear KD
  refine wpAnyH_take (i := 0) (oi := ⟨some 39, _, _, _, _, _⟩) (v := .int .i64 0) rfl (by kernel_rfl) (by kernel_rfl) (by kernel_rfl) (fun _ _ _ h => h) (Or.inl ⟨by rfl, fun w hSw => by (try dsimp only at hSw); go_simp⟩) hS ?_
  simp only [Act.put, List.setIfInBounds_toArray, List.set_cons_zero, List.set_cons_succ]
  refine wpAnyH_take (i := 1) (oi := ⟨some 40, _, _, _, _, _⟩) (v := .int .i64 0) rfl (by kernel_rfl) (by kernel_rfl) (by kernel_rfl) (fun _ _ _ h => h) (Or.inl ⟨by rfl, fun w hSw => by (try dsimp only at hSw); go_simp⟩) hS ?_
  simp only [Act.put, List.setIfInBounds_toArray, List.set_cons_zero, List.set_cons_succ]
  refine wpAnyH_take (i := 2) (oi := ⟨some 41, _, _, _, _, _⟩) (v := .bool true) rfl (by kernel_rfl) (by kernel_rfl) (by kernel_rfl) (fun _ _ _ h => h) (Or.inl ⟨by rfl, fun w hSw => by (try dsimp only at hSw); go_simp⟩) hS ?_
  simp only [Act.put, List.setIfInBounds_toArray, List.set_cons_zero, List.set_cons_succ]
  refine wpAnyH_take (i := 3) (oi := ⟨some 42, _, _, _, _, _⟩) (v := .bool true) rfl (by kernel_rfl) (by kernel_rfl) (by kernel_rfl) (fun _ _ _ h => h) (Or.inl ⟨by rfl, fun w hSw => by (try dsimp only at hSw); go_simp⟩) hS ?_
  simp only [Act.put, List.setIfInBounds_toArray, List.set_cons_zero, List.set_cons_succ]
  refine wpAnyH_take (i := 4) (oi := ⟨some 43, _, _, _, _, _⟩) (v := .int .i64 0) rfl (by kernel_rfl) (by kernel_rfl) (by kernel_rfl) (fun _ _ _ h => h) (Or.inl ⟨by rfl, fun w hSw => by (try dsimp only at hSw); go_simp⟩) hS ?_
  simp only [Act.put, List.setIfInBounds_toArray, List.set_cons_zero, List.set_cons_succ]
  refine wpAnyH_take (i := 5) (oi := ⟨some 44, _, _, _, _, _⟩) (v := .bool true) rfl (by kernel_rfl) (by kernel_rfl) (by kernel_rfl) (fun _ _ _ h => h) (Or.inl ⟨by rfl, fun w hSw => by (try dsimp only at hSw); go_simp⟩) hS ?_
  simp only [Act.put, List.setIfInBounds_toArray, List.set_cons_zero, List.set_cons_succ]
  refine wpAnyH_take (i := 6) (oi := ⟨some 45, _, _, _, _, _⟩) (v := .bool true) rfl (by kernel_rfl) (by kernel_rfl) (by kernel_rfl) (fun _ _ _ h => h) (Or.inl ⟨by rfl, fun w hSw => by (try dsimp only at hSw); go_simp⟩) hS ?_
  simp only [Act.put, List.setIfInBounds_toArray, List.set_cons_zero, List.set_cons_succ]
  refine wpAnyH_take (i := 7) (oi := ⟨some 46, _, _, _, _, _⟩) (v := chV k2 S) rfl (by kernel_rfl) (by kernel_rfl) (by kernel_rfl) (fun _ _ _ h => h) (yieldsIf_load_mid (by rfl) 24 (.tmp 7) rfl g7 0 rfl (chL k2 S) _ (fun W h => rangeB h.2.2) Tryd.underlying24 rfl infoCh) hS ?_
  (try simp only [Act.put, List.setIfInBounds_toArray, List.set_cons_zero, List.set_cons_succ])
  refine wpAnyH_take (i := 8) (oi := ⟨some 47, _, _, _, _, _⟩) (v := .int .u32 (k2 : Int)) rfl (by kernel_rfl) (by kernel_rfl) (by kernel_rfl) (fun _ _ _ h => h) (Or.inl ⟨by rfl, fun w hSw => by (try dsimp only at hSw); go_simp⟩) hS ?_
  simp only [Act.put, List.setIfInBounds_toArray, List.set_cons_zero, List.set_cons_succ]
  refine wpAnyH_take (i := 9) (oi := ⟨some 48, _, _, _, _, _⟩) (v := .pointer (some ⟨g2, 1, none⟩)) rfl (by kernel_rfl) (by kernel_rfl) (by kernel_rfl) (fun _ _ _ h => h) (Or.inl ⟨by rfl, fun w hSw => by (try dsimp only at hSw); go_simp⟩) hS ?_
  simp only [Act.put, List.setIfInBounds_toArray, List.set_cons_zero, List.set_cons_succ]
  refine wpAnyH_take (i := 10) (oi := ⟨some 49, _, _, _, _, _⟩) (v := .string S) rfl (by kernel_rfl) (by kernel_rfl) (by kernel_rfl) (fun _ _ _ h => h) (Or.inl ⟨by rfl, fun w hSw => by have hce : w.cell? ⟨g2, 1, none⟩ = some (.string S) := (by rw [hSw.1.cell]; rfl); go_simp⟩) hS ?_
  simp only [Act.put, List.setIfInBounds_toArray, List.set_cons_zero, List.set_cons_succ]
  refine wpAnyH_ready (rs := [11]) (by kernel_rfl) (by simp) ?_
  refine AllReadyH.cons (o := _) rfl (fun K hK => ?_) (AllReadyH.nil)
  go_simp
  refine (made_at w9 k2 S).mono ?_
  rintro e w10 ⟨rfl, hb⟩
  have K10 := kp K9 hb
  clear hb K9
  go_simp
  refine hK.out _ _ ⟨(K10.out.k (g2, 24, chL k S) (by simp)), (K10.out.k (g5, 24, chL 0 Sz) (by simp)), (K10.out.k (g7, 24, chL k2 S) (by simp))⟩ (fun hS => ?_)
  clear hK K
  (try simp only [Act.put, List.setIfInBounds_toArray, List.set_cons_zero, List.set_cons_succ])
  refine wpAnyH_take (i := 12) (oi := ⟨some 51, _, _, _, _, _⟩) (v := .bool true) rfl (by kernel_rfl) (by kernel_rfl) (by kernel_rfl) (fun _ _ _ h => h) (Or.inl ⟨by rfl, fun w hSw => by (try dsimp only at hSw); go_simp⟩) hS ?_
  simp only [Act.put, List.setIfInBounds_toArray, List.set_cons_zero, List.set_cons_succ]
  refine wpAnyH_take (i := 13) (oi := ⟨some 52, _, _, _, _, _⟩) (v := .bool true) rfl (by kernel_rfl) (by kernel_rfl) (by kernel_rfl) (fun _ _ _ h => h) (Or.inl ⟨by rfl, fun w hSw => by (try dsimp only at hSw); go_simp⟩) hS ?_
  simp only [Act.put, List.setIfInBounds_toArray, List.set_cons_zero, List.set_cons_succ]
  refine wpAnyH_take (i := 14) (oi := ⟨some 53, _, _, _, _, _⟩) (v := .bool true) rfl (by kernel_rfl) (by kernel_rfl) (by kernel_rfl) (fun _ _ _ h => h) (Or.inl ⟨by rfl, fun w hSw => by (try dsimp only at hSw); go_simp⟩) hS ?_
  simp only [Act.put, List.setIfInBounds_toArray, List.set_cons_zero, List.set_cons_succ]
  refine wpAnyH_take (i := 15) (oi := ⟨some 54, _, _, _, _, _⟩) (v := undef) rfl (by kernel_rfl) (by kernel_rfl) (by kernel_rfl) (fun _ _ _ h => h) (Or.inr ⟨by rfl, rfl⟩) hS ?_
  simp only [Act.put, List.setIfInBounds_toArray, List.set_cons_zero, List.set_cons_succ]
  refine wpAnyH_take (i := 16) (oi := ⟨some 55, _, _, _, _, _⟩) (v := undef) rfl (by kernel_rfl) (by kernel_rfl) (by kernel_rfl) (fun _ _ _ h => h) (Or.inr ⟨by rfl, rfl⟩) hS ?_
  simp only [Act.put, List.setIfInBounds_toArray, List.set_cons_zero, List.set_cons_succ]
  refine wpAnyH_take (i := 17) (oi := ⟨some 56, _, _, _, _, _⟩) (v := undef) rfl (by kernel_rfl) (by kernel_rfl) (by kernel_rfl) (fun _ _ _ h => h) (Or.inr ⟨by rfl, rfl⟩) hS ?_
  simp only [Act.put, List.setIfInBounds_toArray, List.set_cons_zero, List.set_cons_succ]
  refine wpAnyH_take (i := 18) (oi := ⟨some 57, _, _, _, _, _⟩) (v := undef) rfl (by kernel_rfl) (by kernel_rfl) (by kernel_rfl) (fun _ _ _ h => h) (Or.inr ⟨by rfl, rfl⟩) hS ?_
  simp only [Act.put, List.setIfInBounds_toArray, List.set_cons_zero, List.set_cons_succ]
  refine wpAnyH_take (i := 19) (oi := ⟨some 58, _, _, _, _, _⟩) (v := undef) rfl (by kernel_rfl) (by kernel_rfl) (by kernel_rfl) (fun _ _ _ h => h) (Or.inr ⟨by rfl, rfl⟩) hS ?_
  simp only [Act.put, List.setIfInBounds_toArray, List.set_cons_zero, List.set_cons_succ]
  refine wpAnyH_take (i := 20) (oi := ⟨some 59, _, _, _, _, _⟩) (v := undef) rfl (by kernel_rfl) (by kernel_rfl) (by kernel_rfl) (fun _ _ _ h => h) (Or.inr ⟨by rfl, rfl⟩) hS ?_
  simp only [Act.put, List.setIfInBounds_toArray, List.set_cons_zero, List.set_cons_succ]
  refine wpAnyH_take (i := 21) (oi := ⟨some 60, _, _, _, _, _⟩) (v := undef) rfl (by kernel_rfl) (by kernel_rfl) (by kernel_rfl) (fun _ _ _ h => h) (Or.inr ⟨by rfl, rfl⟩) hS ?_
  simp only [Act.put, List.setIfInBounds_toArray, List.set_cons_zero, List.set_cons_succ]
  refine wpAnyH_take (i := 22) (oi := ⟨some 61, _, _, _, _, _⟩) (v := .bool true) rfl (by kernel_rfl) (by kernel_rfl) (by kernel_rfl) (fun _ _ _ h => h) (Or.inl ⟨by rfl, fun w hSw => by (try dsimp only at hSw); go_simp⟩) hS ?_
  simp only [Act.put, List.setIfInBounds_toArray, List.set_cons_zero, List.set_cons_succ]
  refine wpAnyH_take (i := 23) (oi := ⟨some 62, _, _, _, _, _⟩) (v := .bool true) rfl (by kernel_rfl) (by kernel_rfl) (by kernel_rfl) (fun _ _ _ h => h) (Or.inl ⟨by rfl, fun w hSw => by (try dsimp only at hSw); go_simp⟩) hS ?_
  simp only [Act.put, List.setIfInBounds_toArray, List.set_cons_zero, List.set_cons_succ]
  refine wpAnyH_take (i := 24) (oi := ⟨some 63, _, _, _, _, _⟩) (v := .bool true) rfl (by kernel_rfl) (by kernel_rfl) (by kernel_rfl) (fun _ _ _ h => h) (Or.inl ⟨by rfl, fun w hSw => by (try dsimp only at hSw); go_simp⟩) hS ?_
  simp only [Act.put, List.setIfInBounds_toArray, List.set_cons_zero, List.set_cons_succ]
  refine wpAnyH_ready (rs := [25]) (by kernel_rfl) (by simp) ?_
  refine AllReadyH.cons (o := _) rfl (fun K hK => ?_) (AllReadyH.nil)
  go_simp
  refine (lives_at w10 K10.out.t).mono ?_
  rintro e w11 ⟨rfl, hb⟩
  have K11 := kp K10 hb
  clear hb K10
  go_simp
  refine hK.out _ _ ⟨(K11.out.k (g2, 24, chL k S) (by simp)), (K11.out.k (g5, 24, chL 0 Sz) (by simp)), (K11.out.k (g7, 24, chL k2 S) (by simp))⟩ (fun hS => ?_)
  clear hK K
  (try simp only [Act.put, List.setIfInBounds_toArray, List.set_cons_zero, List.set_cons_succ])
  refine wpAnyH_take (i := 26) (oi := ⟨some 65, _, _, _, _, _⟩) (v := .bool true) rfl (by kernel_rfl) (by kernel_rfl) (by kernel_rfl) (fun _ _ _ h => h) (Or.inl ⟨by rfl, fun w hSw => by (try dsimp only at hSw); go_simp⟩) hS ?_
  simp only [Act.put, List.setIfInBounds_toArray, List.set_cons_zero, List.set_cons_succ]
  refine wpAnyH_take (i := 27) (oi := ⟨some 4, _, _, _, _, _⟩) (v := .bool true) rfl (by kernel_rfl) (by kernel_rfl) (by kernel_rfl) (fun _ _ _ h => h) (Or.inl ⟨by rfl, fun w hSw => by (try dsimp only at hSw); go_simp⟩) hS ?_
  simp only [Act.put, List.setIfInBounds_toArray, List.set_cons_zero, List.set_cons_succ]
  refine wpAnyH_done (by kernel_rfl) ?_ _
  clear hS
  go_wp2_with fail
  go_ret
  exact ⟨rfl, K11.out.b⟩
set_option linter.unusedSimpArgs false in
set_option linter.unusedVariables false in
set_option maxHeartbeats 6400000 in
set_option maxRecDepth 100000 in
theorem check_one (k : Nat) (hk : k < 4294967296) (l : List Nat) (h8 : All8 l) (hlm : l.length ≤ maxLen) (k2 : Nat) (hk2 : k2 < 4294967296) (w : World) (hT : Tab w) (hg : ¬ 100 < l.length) (h1 : chkC k l = 0) (h2 : chkC k2 l ≠ 0) :
    Calls Tryd.prog 3 #[chV k (bstr l), .int .u32 (k2 : Int)] w fun e w' => e = .returned (.bool true) ∧ Below w.heap.size w w' := by
  have K0 := Lib.hid (St.start hT)
  have H8 := Lib.hid h8
  obtain ⟨Sz, hSz⟩ : ∃ s, S0 = s := ⟨_, rfl⟩
  have HSZ0 := Lib.hid hSz
  have HSZ : Hid (bstr [] = Sz) := Lib.hid (by rw [← hSz]; rfl)
  have hz : ∀ w : World, (zeroValue 24).run Tryd.prog w = .ok (.agg #[.int .u32 0, .string Sz]) w := by rw [← hSz]; exact zeroCh
  clear hSz
  obtain ⟨S, hS⟩ : ∃ S, bstr l = S := ⟨_, rfl⟩
  have hsz : S.size = l.length := by rw [← hS]; exact size_bstr l
  have HS := Lib.hid hS
  rw [hS]
  obtain ⟨n, hn⟩ : ∃ n, l.length = n := ⟨_, rfl⟩
  rw [hn] at hsz
  have HNL := Lib.hid hn
  have hi : ¬ (100 : Int) < (n : Int) := by omega
  have HL9 : Hid (l.length ≤ 9000000000000000000) := Lib.hid (by omega)
  have HF1 := Lib.hid h1
  obtain ⟨f2, hf2⟩ : ∃ f, chkC k2 l = f := ⟨_, rfl⟩
  rw [hf2] at h2
  have HF2 := Lib.hid hf2
  have HCV : Hid (cvC k l k2 = f2) := Lib.hid (by unfold cvC; rw [if_neg (by rw [h1]; decide), hf2])
  have H3 : Hid ((if f2 = 0 then (k2, S) else (0, S0)) = (0, Sz)) := Lib.hid (by rw [if_neg h2, HSZ0.out])
  have hfe : ((f2 : Int) == 0) = false := by rw [beq_eq_false_iff_ne]; omega
  have hfn : ¬ (f2 : Int) = 0 := by omega
  have hfz : ¬ f2 = 0 := h2
  have heq := fun W => eqlS 0 Sz W
  clear hf2
  clear h8 hT hS hn hlm hg h1 h2
  go_enter Tryd.func3, Tryd.ntmps3
  go_upto_region 1 with fail
  obtain ⟨g2, hg2⟩ : ∃ g, w.heap.size = g := ⟨_, rfl⟩
  obtain ⟨w1, hw1⟩ : ∃ v, w.alloc (.cells #[.int .u32 (k : Int), .string S] 24) = v := ⟨_, rfl⟩
  have hbk : Hid (Bk w1 g2 24 (chL k S)) := Lib.hid (by rw [← hw1, ← hg2]; exact Bk.new w _ (chL k S))
  have hb : Hid (Below w.heap.size w w1) := Lib.hid (by rw [← hw1]; exact bel1 w _)
  have GE_g2 : Hid (w.heap.size ≤ g2) := Lib.hid (by rw [← hg2]; exact K0.out.b.size)
  rw [hw1, hg2]
  have K1 := kp K0 hb
  clear hb K0
  have Kn := kb K1 hbk
  clear hbk K1 hg2 hw1
  have K1 := Kn
  clear Kn
  have c_g2_1 : w1.cell? ⟨g2, 1, none⟩ = some (.string S) := by rw [(K1.out.k (g2, 24, chL k S) (by simp)).cell]; rfl
  go_upto_region 4 with fail
  obtain ⟨g5, hg5⟩ : ∃ g, w1.heap.size = g := ⟨_, rfl⟩
  obtain ⟨w2, hw2⟩ : ∃ v, w1.alloc (.cells #[.int .u32 0, .string Sz] 24) = v := ⟨_, rfl⟩
  have hbk : Hid (Bk w2 g5 24 (chL 0 Sz)) := Lib.hid (by rw [← hw2, ← hg5]; exact Bk.new w1 _ (chL 0 Sz))
  have hb : Hid (Below w1.heap.size w1 w2) := Lib.hid (by rw [← hw2]; exact bel1 w1 _)
  have GE_g5 : Hid (w.heap.size ≤ g5) := Lib.hid (by rw [← hg5]; exact K1.out.b.size)
  rw [hw2, hg5]
  have K2 := kp K1 hb
  clear hb K1
  have Kn := kb K2 hbk
  clear hbk K2 hg5 hw2
  have K2 := Kn
  clear Kn
  clear c_g2_1
  go_wp2_with (refine wpList_loadGg (by rfl) (.tmp 2) rfl rfl (rangeB (K2.out.k (g2, 24, chL k S) (by simp))) Tryd.underlying24 rfl infoCh ?_)
  refine (rchk_at w2 k hk l H8.out HL9.out S HS.out 0 HF1.out).mono ?_
  rintro e w3 ⟨rfl, hb⟩
  have K3 := kp K2 hb
  clear hb K2
  go_wp2_with (refine wpList_loadGg (by rfl) (.tmp 2) rfl rfl (rangeB (K3.out.k (g2, 24, chL k S) (by simp))) Tryd.underlying24 rfl infoCh ?_)
  refine (chk_at w3 k hk l H8.out HL9.out S HS.out 0 HF1.out K3.out.t).mono ?_
  rintro e w4 ⟨rfl, hb⟩
  have K4 := kp K3 hb
  clear hb K3
  go_wp2_with (refine wpList_loadGg (by rfl) (.tmp 2) rfl rfl (rangeB (K4.out.k (g2, 24, chL k S) (by simp))) Tryd.underlying24 rfl infoCh ?_)
  refine (conv_at w4 k hk l H8.out HL9.out S HS.out k2 hk2 f2 HCV.out 0 Sz H3.out K4.out.t).mono ?_
  rintro e w5 ⟨rfl, hb⟩
  have K5 := kp K4 hb
  clear hb K4
  go_upto_region 8 with fail
  obtain ⟨g7, hg7⟩ : ∃ g, w5.heap.size = g := ⟨_, rfl⟩
  obtain ⟨w6, hw6⟩ : ∃ v, w5.alloc (.cells #[.int .u32 0, .string Sz] 24) = v := ⟨_, rfl⟩
  have hbk : Hid (Bk w6 g7 24 (chL 0 Sz)) := Lib.hid (by rw [← hw6, ← hg7]; exact Bk.new w5 _ (chL 0 Sz))
  have hb : Hid (Below w5.heap.size w5 w6) := Lib.hid (by rw [← hw6]; exact bel1 w5 _)
  have GE_g7 : Hid (w.heap.size ≤ g7) := Lib.hid (by rw [← hg7]; exact K5.out.b.size)
  rw [hw6, hg7]
  have K6 := kp K5 hb
  clear hb K5
  have Kn := kb K6 hbk
  clear hbk K6 hg7 hw6
  have K6 := Kn
  clear Kn
  have c_g2_1 : w6.cell? ⟨g2, 1, none⟩ = some (.string S) := by rw [(K6.out.k (g2, 24, chL k S) (by simp)).cell]; rfl
  go_wp2_with fail
  refine (made_at w6 k2 S).mono ?_
  rintro e w7 ⟨rfl, hb⟩
  have K7 := kp K6 hb
  clear hb K6
  go_wp2_with fail
  clear c_g2_1
  refine (rchk_at w7 k2 hk2 l H8.out HL9.out S HS.out f2 HF2.out).mono ?_
  rintro e w8 ⟨rfl, hb⟩
  have K8 := kp K7 hb
  clear hb K7
  go_upto_region 10 with fail
  have hdr : Hid (Below w8.heap.size w8 w8.drew) := Lib.hid (Below.refl _ _).drew
  have KD := kp K8 hdr
  clear K8 hdr
  refine wp_region_held_drew (S := fun W => Bk W g2 24 (chL k S) ∧ Bk W g5 24 (chL 0 Sz) ∧ Bk W g7 24 (chL 0 Sz)) (by kernel_rfl) ⟨(KD.out.k (g2, 24, chL k S) (by simp)), (KD.out.k (g5, 24, chL 0 Sz) (by simp)), (KD.out.k (g7, 24, chL 0 Sz) (by simp))⟩ (fun hS => ?_)
  generalize w8.drew = w9 at *
  have K9 := KD
  clear KD
  refine wpAnyH_take (i := 0) (oi := ⟨some 39, _, _, _, _, _⟩) (v := .int .i64 (f2 : Int)) rfl (by kernel_rfl) (by kernel_rfl) (by kernel_rfl) (fun _ _ _ h => h) (Or.inl ⟨by rfl, fun w hSw => by (try dsimp only at hSw); go_simp⟩) hS ?_
  simp only [Act.put, List.setIfInBounds_toArray, List.set_cons_zero, List.set_cons_succ]
  refine wpAnyH_take (i := 1) (oi := ⟨some 40, _, _, _, _, _⟩) (v := .int .i64 (f2 : Int)) rfl (by kernel_rfl) (by kernel_rfl) (by kernel_rfl) (fun _ _ _ h => h) (Or.inl ⟨by rfl, fun w hSw => by (try dsimp only at hSw); go_simp⟩) hS ?_
  simp only [Act.put, List.setIfInBounds_toArray, List.set_cons_zero, List.set_cons_succ]
  refine wpAnyH_take (i := 2) (oi := ⟨some 41, _, _, _, _, _⟩) (v := .bool true) rfl (by kernel_rfl) (by kernel_rfl) (by kernel_rfl) (fun _ _ _ h => h) (Or.inl ⟨by rfl, fun w hSw => by (try dsimp only at hSw); go_simp⟩) hS ?_
  simp only [Act.put, List.setIfInBounds_toArray, List.set_cons_zero, List.set_cons_succ]
  refine wpAnyH_take (i := 3) (oi := ⟨some 42, _, _, _, _, _⟩) (v := .bool true) rfl (by kernel_rfl) (by kernel_rfl) (by kernel_rfl) (fun _ _ _ h => h) (Or.inl ⟨by rfl, fun w hSw => by (try dsimp only at hSw); go_simp⟩) hS ?_
  simp only [Act.put, List.setIfInBounds_toArray, List.set_cons_zero, List.set_cons_succ]
  refine wpAnyH_take (i := 4) (oi := ⟨some 43, _, _, _, _, _⟩) (v := .int .i64 (f2 : Int)) rfl (by kernel_rfl) (by kernel_rfl) (by kernel_rfl) (fun _ _ _ h => h) (Or.inl ⟨by rfl, fun w hSw => by (try dsimp only at hSw); go_simp⟩) hS ?_
  simp only [Act.put, List.setIfInBounds_toArray, List.set_cons_zero, List.set_cons_succ]
  refine wpAnyH_take (i := 5) (oi := ⟨some 44, _, _, _, _, _⟩) (v := .bool false) rfl (by kernel_rfl) (by kernel_rfl) (by kernel_rfl) (fun _ _ _ h => h) (Or.inl ⟨by rfl, fun w hSw => by (try dsimp only at hSw); go_simp⟩) hS ?_
  simp only [Act.put, List.setIfInBounds_toArray, List.set_cons_zero, List.set_cons_succ]
  refine wpAnyH_take (i := 6) (oi := ⟨some 45, _, _, _, _, _⟩) (v := .bool false) rfl (by kernel_rfl) (by kernel_rfl) (by kernel_rfl) (fun _ _ _ h => h) (Or.inl ⟨by rfl, fun w hSw => by (try dsimp only at hSw); go_simp⟩) hS ?_
  simp only [Act.put, List.setIfInBounds_toArray, List.set_cons_zero, List.set_cons_succ]
  refine wpAnyH_take (i := 7) (oi := ⟨some 46, _, _, _, _, _⟩) (v := undef) rfl (by kernel_rfl) (by kernel_rfl) (by kernel_rfl) (fun _ _ _ h => h) (Or.inr ⟨by rfl, rfl⟩) hS ?_
  simp only [Act.put, List.setIfInBounds_toArray, List.set_cons_zero, List.set_cons_succ]
  refine wpAnyH_take (i := 8) (oi := ⟨some 47, _, _, _, _, _⟩) (v := undef) rfl (by kernel_rfl) (by kernel_rfl) (by kernel_rfl) (fun _ _ _ h => h) (Or.inr ⟨by rfl, rfl⟩) hS ?_
  simp only [Act.put, List.setIfInBounds_toArray, List.set_cons_zero, List.set_cons_succ]
  refine wpAnyH_take (i := 9) (oi := ⟨some 48, _, _, _, _, _⟩) (v := undef) rfl (by kernel_rfl) (by kernel_rfl) (by kernel_rfl) (fun _ _ _ h => h) (Or.inr ⟨by rfl, rfl⟩) hS ?_
  simp only [Act.put, List.setIfInBounds_toArray, List.set_cons_zero, List.set_cons_succ]
  refine wpAnyH_take (i := 10) (oi := ⟨some 49, _, _, _, _, _⟩) (v := undef) rfl (by kernel_rfl) (by kernel_rfl) (by kernel_rfl) (fun _ _ _ h => h) (Or.inr ⟨by rfl, rfl⟩) hS ?_
  simp only [Act.put, List.setIfInBounds_toArray, List.set_cons_zero, List.set_cons_succ]
  refine wpAnyH_take (i := 11) (oi := ⟨some 50, _, _, _, _, _⟩) (v := undef) rfl (by kernel_rfl) (by kernel_rfl) (by kernel_rfl) (fun _ _ _ h => h) (Or.inr ⟨by rfl, rfl⟩) hS ?_
  simp only [Act.put, List.setIfInBounds_toArray, List.set_cons_zero, List.set_cons_succ]
  refine wpAnyH_take (i := 12) (oi := ⟨some 51, _, _, _, _, _⟩) (v := undef) rfl (by kernel_rfl) (by kernel_rfl) (by kernel_rfl) (fun _ _ _ h => h) (Or.inr ⟨by rfl, rfl⟩) hS ?_
  simp only [Act.put, List.setIfInBounds_toArray, List.set_cons_zero, List.set_cons_succ]
  refine wpAnyH_take (i := 13) (oi := ⟨some 52, _, _, _, _, _⟩) (v := .bool false) rfl (by kernel_rfl) (by kernel_rfl) (by kernel_rfl) (fun _ _ _ h => h) (Or.inl ⟨by rfl, fun w hSw => by (try dsimp only at hSw); go_simp⟩) hS ?_
  simp only [Act.put, List.setIfInBounds_toArray, List.set_cons_zero, List.set_cons_succ]
  refine wpAnyH_take (i := 14) (oi := ⟨some 53, _, _, _, _, _⟩) (v := .bool false) rfl (by kernel_rfl) (by kernel_rfl) (by kernel_rfl) (fun _ _ _ h => h) (Or.inl ⟨by rfl, fun w hSw => by (try dsimp only at hSw); go_simp⟩) hS ?_
  simp only [Act.put, List.setIfInBounds_toArray, List.set_cons_zero, List.set_cons_succ]
  refine wpAnyH_take (i := 15) (oi := ⟨some 54, _, _, _, _, _⟩) (v := .int .i64 (f2 : Int)) rfl (by kernel_rfl) (by kernel_rfl) (by kernel_rfl) (fun _ _ _ h => h) (Or.inl ⟨by rfl, fun w hSw => by (try dsimp only at hSw); go_simp⟩) hS ?_
  simp only [Act.put, List.setIfInBounds_toArray, List.set_cons_zero, List.set_cons_succ]
  refine wpAnyH_take (i := 16) (oi := ⟨some 55, _, _, _, _, _⟩) (v := .bool true) rfl (by kernel_rfl) (by kernel_rfl) (by kernel_rfl) (fun _ _ _ h => h) (Or.inl ⟨by rfl, fun w hSw => by (try dsimp only at hSw); go_simp⟩) hS ?_
  simp only [Act.put, List.setIfInBounds_toArray, List.set_cons_zero, List.set_cons_succ]
  refine wpAnyH_take (i := 17) (oi := ⟨some 56, _, _, _, _, _⟩) (v := .bool true) rfl (by kernel_rfl) (by kernel_rfl) (by kernel_rfl) (fun _ _ _ h => h) (Or.inl ⟨by rfl, fun w hSw => by (try dsimp only at hSw); go_simp⟩) hS ?_
  simp only [Act.put, List.setIfInBounds_toArray, List.set_cons_zero, List.set_cons_succ]
  refine wpAnyH_take (i := 18) (oi := ⟨some 57, _, _, _, _, _⟩) (v := .agg (chL 0 Sz).toArray) rfl (by kernel_rfl) (by kernel_rfl) (by kernel_rfl) (fun _ _ _ h => h) (yieldsIf_load_mid (by rfl) 24 (.tmp 7) rfl g7 0 rfl (chL 0 Sz) _ (fun W h => rangeB h.2.2) Tryd.underlying24 rfl infoCh) hS ?_
  (try simp only [Act.put, List.setIfInBounds_toArray, List.set_cons_zero, List.set_cons_succ])
  refine wpAnyH_take (i := 19) (oi := ⟨some 58, _, _, _, _, _⟩) (v := .agg (chL 0 Sz).toArray) rfl (by kernel_rfl) (by kernel_rfl) (by kernel_rfl) (fun _ _ _ h => h) (yieldsIf_load_mid (by rfl) 24 (.tmp 5) rfl g5 0 rfl (chL 0 Sz) _ (fun W h => rangeB h.2.1) Tryd.underlying24 rfl infoCh) hS ?_
  (try simp only [Act.put, List.setIfInBounds_toArray, List.set_cons_zero, List.set_cons_succ])
  refine wpAnyH_take (i := 20) (oi := ⟨some 59, _, _, _, _, _⟩) (v := .bool true) rfl (by kernel_rfl) (by kernel_rfl) (by kernel_rfl) (fun _ _ _ h => h) (Or.inl ⟨by rfl, fun w hSw => by (try dsimp only at hSw); go_simp⟩) hS ?_
  simp only [Act.put, List.setIfInBounds_toArray, List.set_cons_zero, List.set_cons_succ]
  refine wpAnyH_take (i := 21) (oi := ⟨some 60, _, _, _, _, _⟩) (v := .bool true) rfl (by kernel_rfl) (by kernel_rfl) (by kernel_rfl) (fun _ _ _ h => h) (Or.inl ⟨by rfl, fun w hSw => by (try dsimp only at hSw); go_simp⟩) hS ?_
  simp only [Act.put, List.setIfInBounds_toArray, List.set_cons_zero, List.set_cons_succ]
  refine wpAnyH_take (i := 22) (oi := ⟨some 61, _, _, _, _, _⟩) (v := .bool true) rfl (by kernel_rfl) (by kernel_rfl) (by kernel_rfl) (fun _ _ _ h => h) (Or.inl ⟨by rfl, fun w hSw => by (try dsimp only at hSw); go_simp⟩) hS ?_
  simp only [Act.put, List.setIfInBounds_toArray, List.set_cons_zero, List.set_cons_succ]
  refine wpAnyH_take (i := 23) (oi := ⟨some 62, _, _, _, _, _⟩) (v := .bool true) rfl (by kernel_rfl) (by kernel_rfl) (by kernel_rfl) (fun _ _ _ h => h) (Or.inl ⟨by rfl, fun w hSw => by (try dsimp only at hSw); go_simp⟩) hS ?_
  simp only [Act.put, List.setIfInBounds_toArray, List.set_cons_zero, List.set_cons_succ]
  refine wpAnyH_take (i := 24) (oi := ⟨some 63, _, _, _, _, _⟩) (v := .bool true) rfl (by kernel_rfl) (by kernel_rfl) (by kernel_rfl) (fun _ _ _ h => h) (Or.inl ⟨by rfl, fun w hSw => by (try dsimp only at hSw); go_simp⟩) hS ?_
  simp only [Act.put, List.setIfInBounds_toArray, List.set_cons_zero, List.set_cons_succ]
  refine wpAnyH_ready (rs := [25]) (by kernel_rfl) (by simp) ?_
  refine AllReadyH.cons (o := _) rfl (fun K hK => ?_) (AllReadyH.nil)
  go_simp
  refine (lives_at w9 K9.out.t).mono ?_
  rintro e w10 ⟨rfl, hb⟩
  have K10 := kp K9 hb
  clear hb K9
  go_simp
  refine hK.out _ _ ⟨(K10.out.k (g2, 24, chL k S) (by simp)), (K10.out.k (g5, 24, chL 0 Sz) (by simp)), (K10.out.k (g7, 24, chL 0 Sz) (by simp))⟩ (fun hS => ?_)
  clear hK K
  (try simp only [Act.put, List.setIfInBounds_toArray, List.set_cons_zero, List.set_cons_succ])
  refine wpAnyH_take (i := 26) (oi := ⟨some 65, _, _, _, _, _⟩) (v := .bool true) rfl (by kernel_rfl) (by kernel_rfl) (by kernel_rfl) (fun _ _ _ h => h) (Or.inl ⟨by rfl, fun w hSw => by (try dsimp only at hSw); go_simp⟩) hS ?_
  simp only [Act.put, List.setIfInBounds_toArray, List.set_cons_zero, List.set_cons_succ]
  refine wpAnyH_take (i := 27) (oi := ⟨some 4, _, _, _, _, _⟩) (v := .bool true) rfl (by kernel_rfl) (by kernel_rfl) (by kernel_rfl) (fun _ _ _ h => h) (Or.inl ⟨by rfl, fun w hSw => by (try dsimp only at hSw); go_simp⟩) hS ?_
  simp only [Act.put, List.setIfInBounds_toArray, List.set_cons_zero, List.set_cons_succ]
  refine wpAnyH_done (by kernel_rfl) ?_ _
  clear hS
  go_wp2_with fail
  go_ret
  exact ⟨rfl, K10.out.b⟩
set_option linter.unusedSimpArgs false in
set_option linter.unusedVariables false in
set_option maxHeartbeats 6400000 in
set_option maxRecDepth 100000 in
theorem check_bad (k : Nat) (hk : k < 4294967296) (l : List Nat) (h8 : All8 l) (hlm : l.length ≤ maxLen) (k2 : Nat) (hk2 : k2 < 4294967296) (w : World) (hT : Tab w) (hg : ¬ 100 < l.length) (h1 : chkC k l ≠ 0) :
    Calls Tryd.prog 3 #[chV k (bstr l), .int .u32 (k2 : Int)] w fun e w' => e = .returned (.bool true) ∧ Below w.heap.size w w' := by
  have K0 := Lib.hid (St.start hT)
  have H8 := Lib.hid h8
  obtain ⟨Sz, hSz⟩ : ∃ s, S0 = s := ⟨_, rfl⟩
  have HSZ0 := Lib.hid hSz
  have HSZ : Hid (bstr [] = Sz) := Lib.hid (by rw [← hSz]; rfl)
  have hz : ∀ w : World, (zeroValue 24).run Tryd.prog w = .ok (.agg #[.int .u32 0, .string Sz]) w := by rw [← hSz]; exact zeroCh
  clear hSz
  obtain ⟨S, hS⟩ : ∃ S, bstr l = S := ⟨_, rfl⟩
  have hsz : S.size = l.length := by rw [← hS]; exact size_bstr l
  have HS := Lib.hid hS
  rw [hS]
  obtain ⟨n, hn⟩ : ∃ n, l.length = n := ⟨_, rfl⟩
  rw [hn] at hsz
  have HNL := Lib.hid hn
  have hi : ¬ (100 : Int) < (n : Int) := by omega
  have HL9 : Hid (l.length ≤ 9000000000000000000) := Lib.hid (by omega)
  obtain ⟨f1, hf1⟩ : ∃ f, chkC k l = f := ⟨_, rfl⟩
  rw [hf1] at h1
  have HF1 := Lib.hid hf1
  have HCV : Hid (cvC k l k2 = f1) := Lib.hid (by unfold cvC; rw [if_pos (by rw [hf1]; exact h1), hf1])
  have H3 : Hid ((if f1 = 0 then (k2, S) else (0, S0)) = (0, Sz)) := Lib.hid (by rw [if_neg h1, HSZ0.out])
  have hfe : ((f1 : Int) == 0) = false := by rw [beq_eq_false_iff_ne]; omega
  have hfn : ¬ (f1 : Int) = 0 := by omega
  have HPN : Hid (putL k l = []) := Lib.hid (by unfold putL; rw [if_neg (by rw [hf1]; exact h1)])
  have HLN : Hid (lenC k l = 0) := Lib.hid (by unfold lenC; rw [if_neg (by rw [hf1]; exact h1)])
  obtain ⟨n0, hn0⟩ : ∃ n, elN k l = n := ⟨_, rfl⟩
  have HN0 := Lib.hid hn0
  have heq := fun W => eqlS 0 Sz W
  clear h8 hT hS hn hlm hg h1 hf1 hn0
  go_enter Tryd.func3, Tryd.ntmps3
  go_upto_region 1 with fail
  obtain ⟨g2, hg2⟩ : ∃ g, w.heap.size = g := ⟨_, rfl⟩
  obtain ⟨w1, hw1⟩ : ∃ v, w.alloc (.cells #[.int .u32 (k : Int), .string S] 24) = v := ⟨_, rfl⟩
  have hbk : Hid (Bk w1 g2 24 (chL k S)) := Lib.hid (by rw [← hw1, ← hg2]; exact Bk.new w _ (chL k S))
  have hb : Hid (Below w.heap.size w w1) := Lib.hid (by rw [← hw1]; exact bel1 w _)
  have GE_g2 : Hid (w.heap.size ≤ g2) := Lib.hid (by rw [← hg2]; exact K0.out.b.size)
  rw [hw1, hg2]
  have K1 := kp K0 hb
  clear hb K0
  have Kn := kb K1 hbk
  clear hbk K1 hg2 hw1
  have K1 := Kn
  clear Kn
  have c_g2_1 : w1.cell? ⟨g2, 1, none⟩ = some (.string S) := by rw [(K1.out.k (g2, 24, chL k S) (by simp)).cell]; rfl
  go_upto_region 4 with fail
  obtain ⟨g5, hg5⟩ : ∃ g, w1.heap.size = g := ⟨_, rfl⟩
  obtain ⟨w2, hw2⟩ : ∃ v, w1.alloc (.cells #[.int .u32 0, .string Sz] 24) = v := ⟨_, rfl⟩
  have hbk : Hid (Bk w2 g5 24 (chL 0 Sz)) := Lib.hid (by rw [← hw2, ← hg5]; exact Bk.new w1 _ (chL 0 Sz))
  have hb : Hid (Below w1.heap.size w1 w2) := Lib.hid (by rw [← hw2]; exact bel1 w1 _)
  have GE_g5 : Hid (w.heap.size ≤ g5) := Lib.hid (by rw [← hg5]; exact K1.out.b.size)
  rw [hw2, hg5]
  have K2 := kp K1 hb
  clear hb K1
  have Kn := kb K2 hbk
  clear hbk K2 hg5 hw2
  have K2 := Kn
  clear Kn
  clear c_g2_1
  go_wp2_with (refine wpList_loadGg (by rfl) (.tmp 2) rfl rfl (rangeB (K2.out.k (g2, 24, chL k S) (by simp))) Tryd.underlying24 rfl infoCh ?_)
  refine (rchk_at w2 k hk l H8.out HL9.out S HS.out f1 HF1.out).mono ?_
  rintro e w3 ⟨rfl, hb⟩
  have K3 := kp K2 hb
  clear hb K2
  go_wp2_with (refine wpList_loadGg (by rfl) (.tmp 2) rfl rfl (rangeB (K3.out.k (g2, 24, chL k S) (by simp))) Tryd.underlying24 rfl infoCh ?_)
  refine (chk_at w3 k hk l H8.out HL9.out S HS.out f1 HF1.out K3.out.t).mono ?_
  rintro e w4 ⟨rfl, hb⟩
  have K4 := kp K3 hb
  clear hb K3
  go_wp2_with (refine wpList_loadGg (by rfl) (.tmp 2) rfl rfl (rangeB (K4.out.k (g2, 24, chL k S) (by simp))) Tryd.underlying24 rfl infoCh ?_)
  refine (conv_at w4 k hk l H8.out HL9.out S HS.out k2 hk2 f1 HCV.out 0 Sz H3.out K4.out.t).mono ?_
  rintro e w5 ⟨rfl, hb⟩
  have K5 := kp K4 hb
  clear hb K4
  go_upto_region 8 with fail
  obtain ⟨g7, hg7⟩ : ∃ g, w5.heap.size = g := ⟨_, rfl⟩
  obtain ⟨w6, hw6⟩ : ∃ v, w5.alloc (.cells #[.int .u32 0, .string Sz] 24) = v := ⟨_, rfl⟩
  have hbk : Hid (Bk w6 g7 24 (chL 0 Sz)) := Lib.hid (by rw [← hw6, ← hg7]; exact Bk.new w5 _ (chL 0 Sz))
  have hb : Hid (Below w5.heap.size w5 w6) := Lib.hid (by rw [← hw6]; exact bel1 w5 _)
  have GE_g7 : Hid (w.heap.size ≤ g7) := Lib.hid (by rw [← hg7]; exact K5.out.b.size)
  rw [hw6, hg7]
  have K6 := kp K5 hb
  clear hb K5
  have Kn := kb K6 hbk
  clear hbk K6 hg7 hw6
  have K6 := Kn
  clear Kn
  go_wp2_with (refine wpList_loadGg (by rfl) (.tmp 2) rfl rfl (rangeB (K6.out.k (g2, 24, chL k S) (by simp))) Tryd.underlying24 rfl infoCh ?_)
  refine (put_at w6 k hk l H8.out HL9.out S HS.out f1 HF1.out [] 0 HPN.out rfl K6.out.t).mono ?_
  rintro e w7 ⟨A1, rfl, hr, hb⟩
  have K7 := kp K6 hb
  clear hb K6
  have Kn := ka K7 hr
  clear hr K7
  have K7 := Kn
  clear Kn
  go_wp2_with (refine wpList_loadGg (by rfl) (.tmp 2) rfl rfl (rangeB (K7.out.k (g2, 24, chL k S) (by simp))) Tryd.underlying24 rfl infoCh ?_)
  refine (elem_at w7 k hk l H8.out HL9.out S HS.out f1 HF1.out [] 0 n0 HPN.out rfl HN0.out K7.out.t).mono ?_
  rintro e w8 ⟨A2, rfl, hr, hb⟩
  have K8 := kp K7 hb
  clear hb K7
  have Kn := ka K8 hr
  clear hr K8
  have K8 := Kn
  clear Kn
  go_upto_region 13 with fail
  obtain ⟨g12, hg12⟩ : ∃ g, w8.heap.size = g := ⟨_, rfl⟩
  obtain ⟨w9, hw9⟩ : ∃ v, w8.alloc (.cells #[.int .u8 0, .bool false, .int .u32 (n0 : Int), .slice A2 0 0, .slice none 0 0] 40) = v := ⟨_, rfl⟩
  have hbk : Hid (Bk w9 g12 40 ([.int .u8 0, .bool false, .int .u32 (n0 : Int), .slice A2 0 0, .slice none 0 0])) := Lib.hid (by rw [← hw9, ← hg12]; exact Bk.new w8 _ ([.int .u8 0, .bool false, .int .u32 (n0 : Int), .slice A2 0 0, .slice none 0 0]))
  have hb : Hid (Below w8.heap.size w8 w9) := Lib.hid (by rw [← hw9]; exact bel1 w8 _)
  have GE_g12 : Hid (w.heap.size ≤ g12) := Lib.hid (by rw [← hg12]; exact K8.out.b.size)
  rw [hw9, hg12]
  have K9 := kp K8 hb
  clear hb K8
  have Kn := kb K9 hbk
  clear hbk K9 hg12 hw9
  have K9 := Kn
  clear Kn
  go_wp2_with fail
  refine (same_at w9 A1 none [] (lt_lit rfl) 0 0 f1 (K9.out.r (A1, cs8 []) (by simp)) Rd.nil rfl).mono ?_
  rintro e w10 ⟨rfl, hb⟩
  have K10 := kp K9 hb
  clear hb K9
  have c_g12_3 : w10.cell? ⟨g12, 3, none⟩ = some (.slice A2 0 0) := by rw [(K10.out.k (g12, 40, [.int .u8 0, .bool false, .int .u32 (n0 : Int), .slice A2 0 0, .slice none 0 0]) (by simp)).cell]; rfl
  go_wp2_with (refine wpList_loadGg (by rfl) (.tmp 2) rfl rfl (rangeB (K10.out.k (g2, 24, chL k S) (by simp))) Tryd.underlying24 rfl infoCh ?_)
  clear c_g12_3
  refine (len_at w10 k hk l H8.out HL9.out S HS.out 0 HLN.out K10.out.t).mono ?_
  rintro e w11 ⟨rfl, hb⟩
  have K11 := kp K10 hb
  clear hb K10
  go_wp2_with (first | (refine wpList_loadGg (by rfl) (.tmp 7) rfl rfl (rangeB (K11.out.k (g7, 24, chL 0 Sz) (by simp))) Tryd.underlying24 rfl infoCh ?_) | (refine wpList_loadGg (by rfl) (.tmp 5) rfl rfl (rangeB (K11.out.k (g5, 24, chL 0 Sz) (by simp))) Tryd.underlying24 rfl infoCh ?_))
  refine (lives_at w11 K11.out.t).mono ?_
  rintro e w12 ⟨rfl, hb⟩
  have K12 := kp K11 hb
  clear hb K11
  go_wp2_with fail
  go_ret
  exact ⟨rfl, K12.out.b⟩
theorem check_walk (k : Nat) (hk : k < 4294967296) (l : List Nat) (h8 : All8 l) (hlm : l.length ≤ maxLen) (k2 : Nat) (hk2 : k2 < 4294967296) (w : World) (hT : Tab w) :
    Calls Tryd.prog 3 #[chV k (bstr l), .int .u32 (k2 : Int)] w fun e w' => e = .returned (.bool true) ∧ Below w.heap.size w w' := by
  by_cases hg : 100 < l.length
  · exact check_long k hk l h8 hlm k2 hk2 w hT hg
  · by_cases h1 : chkC k l = 0
    · by_cases h2 : chkC k2 l = 0
      · exact check_both k hk l h8 hlm k2 hk2 w hT hg h1 h2
      · exact check_one k hk l h8 hlm k2 hk2 w hT hg h1 h2
    · exact check_bad k hk l h8 hlm k2 hk2 w hT hg h1

open Go.ChangeShapes Go.WideShapes Go.ChangeAt Go.WideMaps Go.WideElems
set_option maxRecDepth 100000 in
theorem charstringsCheck_lifted (os : Os) (started : os.Started) (H : Type) (enc : TypeId × Value → H) :
    ReturnsInHanded {} Tryd.checked os 3 .any (fun w args => (Rows.charstringsCheckSpec.pre enc Tryd.prog Tryd.f3 [] false w args ∧ laidMetH Tryd.prog laidL w) ∧ sizedMet enc Tryd.prog Tryd.f3 (OpenSpec.ofChange Rows.charstringsCheckSpec) false w args)
      (Rows.charstringsCheckSpec.post enc Tryd.prog Tryd.f3 false true false false) := by
  refine returnsInHanded_of_change_and (C := Tryd.checked) (X := fun w _ => laidMetH Tryd.prog laidL w) (fun _ _ _ hh h => h.of_heap hh) x_own started (by kernel_rfl) Tryd.func3
    (ChangeSpec.witness_shaped (enc := enc) (C := Tryd.checked) (os := os) (X := fun w _ => laidMetH Tryd.prog laidL w) false (World.laidAll Tryd.prog os laidL) #[.agg #[.int .u32 0, .string ⟨#[]⟩], .int .u32 0] 8 (World.laidAll_os _ _ _) (World.shaped_of_ZipB (by kernel_rfl) (by kernel_rfl)) (by kernel_rfl) (by kernel_rfl) (by kernel_rfl) (door_met os _)) ?_
  intro W base args ds gs before hval0 hW _ _ hL _
  have hval : ∀ (j : Nat) t v, Tryd.f3.params[j]? = some t → args[j]? = some v → Value.okWide Tryd.prog W .any base t v := hval0
  have hW' := hW
  obtain ⟨p, q, hA0, hV, rfl, hfz, hnd⟩ := hW
  have hA : DataW.TrodAll enc Tryd.prog W 0 (fun _ => true) true Tryd.f3.params.toList args.toList ds p := hA0
  rw [Tryd.params3] at hA hval
  obtain ⟨v0, v1, d0, d1, p0, p1, rfl, rfl, rfl, h0, h1⟩ := trodAll_two hA
  obtain ⟨rfl, rfl⟩ := trodVars_none hV
  obtain ⟨k, l, rfl, hk, h8, hlm⟩ := open_ch (hval 0 _ v0 rfl rfl) h0
  obtain ⟨k2, rfl, hk2⟩ := open_u32 (hval 1 _ v1 rfl rfl) h1
  have hE := of_laid hL
  clear hA0 hval0
  simp only [List.append_nil] at hW'
  refine (check_walk k hk l h8 hlm k2 hk2 W hE).mono fun e W' ⟨he, hb⟩ => ?_
  subst he
  exact ⟨_, rfl, law_post (tb := 4) x_laid (by decide +kernel) rfl rfl (by kernel_rfl) Tryd.underlying4 hW' hb⟩

/-- The row's statement. -/
theorem charstringsCheck_row : Rows.CharstringsCheckSaid :=
  OpenClaim.holds_of_wide 3 Tryd.f3 rfl rfl rfl rfl rfl rfl rfl ⟨rfl, rfl, rfl, rfl, rfl⟩ rfl rfl rfl rfl rfl (by kernel_rfl) Tryd.func3 (by kernel_rfl)
    (of_decide_eq_true (by kernel_rfl)) (by unfold Func.isWrapper; first | (rw [if_pos (by decide +kernel)]; kernel_rfl) | (rw [if_neg (by decide +kernel)]; exact ⟨rfl, rfl⟩))
    (fun os started H enc _ => charstringsCheck_lifted os started H enc)

/-- The statement: the card. -/
theorem charstringsCheck_holds : Rows.CharstringsCheckCardSaid :=
  Claim7.holds_tied_plain_at .later [] [.data, .pinned] true Rows.charstringsCheckCard.stood.harness Rows.charstringsCheckCard.stood.looks
    charstringsCheck_row (fun _ h => by cases h) (by kernel_rfl) (fun _ h => by cases h) charstringsCheck_row_tie rfl ⟨rfl, rfl⟩ (by kernel_rfl) rfl
    (fun f fn hf hfn => by
      obtain rfl : f = 3 := Option.some.inj ((show Tryd.prog.funcNamed "vidimus/vidimuslaw09.CharstringsCheck" = some 3 by kernel_rfl).symm.trans hf) |>.symm
      obtain rfl : fn = Tryd.f3 := (Option.some.inj (Tryd.func3.symm.trans hfn)).symm
      exact ⟨by kernel_rfl, fun j t ht => by
        rw [Tryd.params3] at ht
        have hm : t ∈ Tryd.f3.params.toList := by rw [Tryd.params3]; exact Array.mem_toList_iff.2 (Array.mem_of_getElem? ht)
        have hall : (Tryd.f3.params.toList.all fun u => !Tryd.prog.wantsStandIn u) = true := by kernel_rfl
        exact (show Tryd.prog.wantsStandIn t = false by simpa using List.all_eq_true.1 hall t hm)⟩)
    (by kernel_rfl)
end Go.Proofs.YthefnfjhnallfaaDoor.Chs
