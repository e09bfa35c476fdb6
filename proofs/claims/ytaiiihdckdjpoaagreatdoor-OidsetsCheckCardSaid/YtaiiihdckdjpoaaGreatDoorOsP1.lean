/-
  Layer 7, the statement OidsetsCheck: exactly the valid sets are accepted, with the first error; all functions return it, or the value that the chapter names.
  Conditions: the package-level variables that the row lists hold what the program's text lays (the card ties them).
-/
import Derived.Test.YtaiiihdckdjpoaaGreatDoorOgM
namespace Go.Proofs.YtaiiihdckdjpoaaGreatDoor
open Go.RowKit Go.Shelf

set_option linter.unusedSimpArgs false in
set_option linter.unusedVariables false in
set_option maxHeartbeats 4000000 in
set_option maxRecDepth 100000 in
theorem check7_l1 (A B : Option Addr) (L M : List Od) (n m c d x : Nat) (k : List Nat) (w : World) (hE : Env w) (hA : Ino w A L n c) (hB : Ino w B M m d) (ho : OkO x k) (hg0 : 20 < n) :
    Calls Tryz.prog 3 #[.slice A n c, .slice B m d, oV x k] w fun e w' => e = .returned (.bool true) ∧ Below w.heap.size w w' := by
  obtain ⟨w0, hw0⟩ : ∃ w0, w.alloc (.cells (oc x k).toArray 26) = w0 := ⟨_, rfl⟩
  have hk := ho.len
  have hb := Lib.hid (bel1 w (.cells (oc x k).toArray 26))
  have K00 := kp7 (ka7 (ka7 (Lib.hid (St7.start hE)) (Lib.hid hA)) (Lib.hid hB)) hb
  have S0 := Lib.hid (Bk.new w 26 (oc x k))
  obtain ⟨g, hg⟩ : ∃ g, w.heap.size = g := ⟨_, rfl⟩
  rw [hw0] at K00 S0
  rw [hg] at S0
  have K0 := K00
  have S := S0
  have HO := Lib.hid ho
  have HW := Lib.hid hw0
  have HG := Lib.hid hg
  clear hb hE hA hB ho hw0 hg K00 S0
  have hgi : (20 : Int) < (n : Int) := by omega
  go_enter Tryz.func3, Tryz.ntmps3
  go_upto_region 1 with fail
  rw [HW.out, HG.out]
  clear HW
  go_wp2_with fail
  refine (lives_at7 _ K0.out.e).mono ?_
  rintro e w1 ⟨rfl, hb⟩
  have K1 := kp7 K0 hb
  have Sn := Lib.hid (S.out.below hb.out S.out.lt)
  clear S
  have S := Sn
  clear Sn
  clear hb K0
  go_wp2_with fail
  go_ret
  exact ⟨rfl, K1.out.b⟩
set_option linter.unusedSimpArgs false in
set_option linter.unusedVariables false in
set_option maxHeartbeats 4000000 in
set_option maxRecDepth 100000 in
theorem check7_l2 (A B : Option Addr) (L M : List Od) (n m c d x : Nat) (k : List Nat) (w : World) (hE : Env w) (hA : Ino w A L n c) (hB : Ino w B M m d) (ho : OkO x k) (hg1 : n ≤ 20) (hg0 : 20 < m) :
    Calls Tryz.prog 3 #[.slice A n c, .slice B m d, oV x k] w fun e w' => e = .returned (.bool true) ∧ Below w.heap.size w w' := by
  obtain ⟨w0, hw0⟩ : ∃ w0, w.alloc (.cells (oc x k).toArray 26) = w0 := ⟨_, rfl⟩
  have hk := ho.len
  have hb := Lib.hid (bel1 w (.cells (oc x k).toArray 26))
  have K00 := kp7 (ka7 (ka7 (Lib.hid (St7.start hE)) (Lib.hid hA)) (Lib.hid hB)) hb
  have S0 := Lib.hid (Bk.new w 26 (oc x k))
  obtain ⟨g, hg⟩ : ∃ g, w.heap.size = g := ⟨_, rfl⟩
  rw [hw0] at K00 S0
  rw [hg] at S0
  have K0 := K00
  have S := S0
  have HO := Lib.hid ho
  have HW := Lib.hid hw0
  have HG := Lib.hid hg
  clear hb hE hA hB ho hw0 hg K00 S0
  have hgi : (20 : Int) < (m : Int) := by omega
  have hgj : ¬ (20 : Int) < (n : Int) := by omega
  go_enter Tryz.func3, Tryz.ntmps3
  go_upto_region 1 with fail
  rw [HW.out, HG.out]
  clear HW
  go_wp2_with fail
  refine (lives_at7 _ K0.out.e).mono ?_
  rintro e w1 ⟨rfl, hb⟩
  have K1 := kp7 K0 hb
  have Sn := Lib.hid (S.out.below hb.out S.out.lt)
  clear S
  have S := Sn
  clear Sn
  clear hb K0
  go_wp2_with fail
  go_ret
  exact ⟨rfl, K1.out.b⟩
set_option linter.unusedSimpArgs false in
set_option linter.unusedVariables false in
set_option maxHeartbeats 4000000 in
set_option maxRecDepth 100000 in
theorem check7_F (A B : Option Addr) (L M : List Od) (n m c d x : Nat) (k : List Nat) (w : World) (hE : Env w) (hA : Ino w A L n c) (hB : Ino w B M m d) (ho : OkO x k) (hn : n ≤ 20) (hm : m ≤ 20) (f : Nat) (hf : f ≠ 0) (h1 : chkW L = f) :
    Calls Tryz.prog 3 #[.slice A n c, .slice B m d, oV x k] w fun e w' => e = .returned (.bool true) ∧ Below w.heap.size w w' := by
  have hok : OkO x k := ho
  have hLL := hA.rd.2
  have hh : hasR L (x, k) = false := by unfold hasR; rw [decide_eq_false (by rw [h1]; exact hf)]; rfl
  have hha : hasR L (5, anyL) = false := by unfold hasR; rw [decide_eq_false (by rw [h1]; exact hf)]; rfl
  have hun := uni_bad (L := L) (M := M) hf (.inl h1)
  have hco := cmb_bad cK (L := L) (M := M) hf (.inl h1)
  have hmi := cmb_bad mK (L := L) (M := M) hf (.inl h1)
  have hwi := wit_bad (L := L) (M := M) hf (.inl h1)
  have hsa := sam_bad (L := L) (M := M) hf (.inl h1)
  obtain ⟨w0, hw0⟩ : ∃ w0, w.alloc (.cells (oc x k).toArray 26) = w0 := ⟨_, rfl⟩
  have hk := ho.len
  have hb := Lib.hid (bel1 w (.cells (oc x k).toArray 26))
  have K00 := kp7 (ka7 (ka7 (Lib.hid (St7.start hE)) (Lib.hid hA)) (Lib.hid hB)) hb
  have S0 := Lib.hid (Bk.new w 26 (oc x k))
  obtain ⟨g, hg⟩ : ∃ g, w.heap.size = g := ⟨_, rfl⟩
  rw [hw0] at K00 S0
  rw [hg] at S0
  have K0 := K00
  have S := S0
  have HO := Lib.hid ho
  have HW := Lib.hid hw0
  have HG := Lib.hid hg
  clear hb hE hA hB ho hw0 hg K00 S0
  have H1 := Lib.hid h1
  have HH := Lib.hid hh
  have HHA := Lib.hid hha
  have HUN := Lib.hid hun
  have HCO := Lib.hid hco
  have HMI := Lib.hid hmi
  have HWI := Lib.hid hwi
  have HSA := Lib.hid hsa
  have HF := Lib.hid hf
  have hfi : ¬ (f : Int) = 0 := by omega
  clear hun hco hmi hwi hsa hf
  have hni : ¬ (20 : Int) < (n : Int) := by omega
  have hmi20 : ¬ (20 : Int) < (m : Int) := by omega
  have HOA : Hid (OkO 5 anyL) := Lib.hid okO_any7
  clear h1 hh hha hLL hok
  go_enter Tryz.func3, Tryz.ntmps3
  go_upto_region 1 with fail
  rw [HW.out, HG.out]
  clear HW
  go_wp2_with (refine wpList_load25g (by rfl) (.tmp 5) rfl rfl S.out hk ?_)
  refine (giveF_at (rchk_any A L n c _ (K0.out.r (A, L, n, c) (by simp)).rd (K0.out.r (A, L, n, c) (by simp)).ln (by omega)) H1.out).mono ?_
  rintro e w1 ⟨rfl, hb⟩
  have K1 := kp7 K0 hb
  have Sn := Lib.hid (S.out.below hb.out S.out.lt)
  clear S
  have S := Sn
  clear Sn
  clear hb K0
  go_wp2_with (refine wpList_load25g (by rfl) (.tmp 5) rfl rfl S.out hk ?_)
  refine (giveF_at (ochk_any A L n c _ (K1.out.r (A, L, n, c) (by simp)).rd (K1.out.r (A, L, n, c) (by simp)).ln (by omega)) H1.out).mono ?_
  rintro e w2 ⟨rfl, hb⟩
  have K2 := kp7 K1 hb
  have Sn := Lib.hid (S.out.below hb.out S.out.lt)
  clear S
  have S := Sn
  clear Sn
  clear hb K1
  go_wp2_with (refine wpList_load25g (by rfl) (.tmp 5) rfl rfl S.out hk ?_)
  refine (giveB_at (has7_any A L n c x k _ (K2.out.r (A, L, n, c) (by simp)) (by omega) HO.out) HH.out).mono ?_
  rintro e w3 ⟨rfl, hb⟩
  have K3 := kp7 K2 hb
  have Sn := Lib.hid (S.out.below hb.out S.out.lt)
  clear S
  have S := Sn
  clear Sn
  clear hb K2
  go_wp2_with (refine wpList_load25g (by rfl) (.tmp 5) rfl rfl S.out hk ?_)
  refine (giveB_at (hasany7_any A L n c _ (K3.out.r (A, L, n, c) (by simp)) (by omega)) HHA.out).mono ?_
  rintro e w4 ⟨rfl, hb⟩
  have K4 := kp7 K3 hb
  have Sn := Lib.hid (S.out.below hb.out S.out.lt)
  clear S
  have S := Sn
  clear Sn
  clear hb K3
  go_wp2_with (refine wpList_load25g (by rfl) (.tmp 5) rfl rfl S.out hk ?_)
  have hT := textW_any A L n c w4 (K4.out.r (A, L, n, c) (by simp)).rd (K4.out.r (A, L, n, c) (by simp)).ln (by omega) K4.out.e
  rw [if_neg (by rw [H1.out]; exact HF.out)] at hT
  replace hT : Calls Tryz.prog 17 #[.slice A n c] w4 (fun e w' => e = .returned (.string ⟨#[63]⟩) ∧ Below w4.heap.size w4 w') := hT
  refine hT.mono ?_
  rintro e w5 ⟨rfl, hbb⟩
  have hb := Lib.hid hbb
  clear hbb hT
  have K5 := kp7 K4 hb
  have Sn := Lib.hid (S.out.below hb.out S.out.lt)
  clear S
  have S := Sn
  clear Sn
  clear hb K4
  go_wp2_with fail
  refine (giveL_at (union_any A B L M n m c d _ (K5.out.r (A, L, n, c) (by simp)) (K5.out.r (B, M, m, d) (by simp)) (by omega) (by omega)) HUN.out rfl (by decide)).mono ?_
  rintro e w6 ⟨A5, rfl, hi, hb⟩
  have K6 := kp7 K5 hb
  clear hb K5
  clear hi
  go_wp2_with fail
  refine (giveL_at (common_any A B L M n m c d _ (K6.out.r (A, L, n, c) (by simp)) (K6.out.r (B, M, m, d) (by simp)) (by omega) (by omega)) HCO.out rfl (by decide)).mono ?_
  rintro e w7 ⟨A6, rfl, hi, hb⟩
  have K7 := kp7 K6 hb
  clear hb K6
  clear hi
  go_wp2_with fail
  refine (giveL_at (minus_any A B L M n m c d _ (K7.out.r (A, L, n, c) (by simp)) (K7.out.r (B, M, m, d) (by simp)) (by omega) (by omega)) HMI.out rfl (by decide)).mono ?_
  rintro e w8 ⟨A7, rfl, hi, hb⟩
  have K8 := kp7 K7 hb
  clear hb K7
  clear hi
  go_wp2_with fail
  refine (same_none _ none 0 0 0 f _ HF.out).mono ?_
  rintro e w' ⟨rfl, rfl⟩
  go_wp2_with fail
  refine (same_none _ none 0 0 0 f _ HF.out).mono ?_
  rintro e w' ⟨rfl, rfl⟩
  go_wp2_with fail
  refine (same_none _ none 0 0 0 f _ HF.out).mono ?_
  rintro e w' ⟨rfl, rfl⟩
  go_wp2_with fail
  refine (giveB_at (within_any A B L M n m c d _ (K8.out.r (A, L, n, c) (by simp)) (K8.out.r (B, M, m, d) (by simp)) (by omega) (by omega)) HWI.out).mono ?_
  rintro e w9 ⟨rfl, hb⟩
  have K9 := kp7 K8 hb
  clear hb K8
  go_wp2_with fail
  refine (giveB_at (same7_any A B L M n m c d _ (K9.out.r (A, L, n, c) (by simp)) (K9.out.r (B, M, m, d) (by simp)) (by omega)) HSA.out).mono ?_
  rintro e w10 ⟨rfl, hb⟩
  have K10 := kp7 K9 hb
  clear hb K9
  go_wp2_with fail
  refine (lives_at7 _ K10.out.e).mono ?_
  rintro e w11 ⟨rfl, hb⟩
  have K11 := kp7 K10 hb
  clear hb K10
  go_wp2_with fail
  go_ret
  exact ⟨rfl, K11.out.b⟩
set_option linter.unusedSimpArgs false in
set_option linter.unusedVariables false in
set_option maxHeartbeats 4000000 in
set_option maxRecDepth 100000 in
theorem check7_G0 (A B : Option Addr) (L M : List Od) (n m c d x : Nat) (k : List Nat) (w : World) (hE : Env w) (hA : Ino w A L n c) (hB : Ino w B M m d) (ho : OkO x k) (hn : n ≤ 20) (hm : m ≤ 20) (f : Nat) (hf : f ≠ 0) (h1 : chkW L = 0) (h2 : chkW M = f) (hq : chkO x k = 0) :
    Calls Tryz.prog 3 #[.slice A n c, .slice B m d, oV x k] w fun e w' => e = .returned (.bool true) ∧ Below w.heap.size w w' := by
  have hok : OkO x k := ho
  have hLL := hA.rd.2
  have hh : hasR L (x, k) = decide ((x, k) ∈ L) := by unfold hasR; rw [decide_eq_true h1]; rfl
  have hha : hasR L (5, anyL) = decide ((5, anyL) ∈ L) := by unfold hasR; rw [decide_eq_true h1]; rfl
  have hun := uni_bad (L := L) (M := M) hf (.inr ⟨h1, h2⟩)
  have hco := cmb_bad cK (L := L) (M := M) hf (.inr ⟨h1, h2⟩)
  have hmi := cmb_bad mK (L := L) (M := M) hf (.inr ⟨h1, h2⟩)
  have hwi := wit_bad (L := L) (M := M) hf (.inr ⟨h1, h2⟩)
  have hsa := sam_bad (L := L) (M := M) hf (.inr ⟨h1, h2⟩)
  obtain ⟨w0, hw0⟩ : ∃ w0, w.alloc (.cells (oc x k).toArray 26) = w0 := ⟨_, rfl⟩
  have hk := ho.len
  have hb := Lib.hid (bel1 w (.cells (oc x k).toArray 26))
  have K00 := kp7 (ka7 (ka7 (Lib.hid (St7.start hE)) (Lib.hid hA)) (Lib.hid hB)) hb
  have S0 := Lib.hid (Bk.new w 26 (oc x k))
  obtain ⟨g, hg⟩ : ∃ g, w.heap.size = g := ⟨_, rfl⟩
  rw [hw0] at K00 S0
  rw [hg] at S0
  have K0 := K00
  have S := S0
  have HO := Lib.hid ho
  have HW := Lib.hid hw0
  have HG := Lib.hid hg
  clear hb hE hA hB ho hw0 hg K00 S0
  have H1 := Lib.hid h1
  have HH := Lib.hid hh
  have HHA := Lib.hid hha
  have H2 := Lib.hid h2
  have HQ := Lib.hid hq
  have HUN := Lib.hid hun
  have HCO := Lib.hid hco
  have HMI := Lib.hid hmi
  have HWI := Lib.hid hwi
  have HSA := Lib.hid hsa
  have HF := Lib.hid hf
  have hfi : ¬ (f : Int) = 0 := by omega
  clear hun hco hmi hwi hsa hf
  have hni : ¬ (20 : Int) < (n : Int) := by omega
  have hmi20 : ¬ (20 : Int) < (m : Int) := by omega
  obtain ⟨b1, hb1⟩ : ∃ b1, decide ((x, k) ∈ L) = b1 := ⟨_, rfl⟩
  have HB1 := Lib.hid hb1
  rw [hb1] at HH
  clear hb1
  obtain ⟨b2, hb2⟩ : ∃ b2, decide ((5, anyL) ∈ L) = b2 := ⟨_, rfl⟩
  have HB2 := Lib.hid hb2
  rw [hb2] at HHA
  clear hb2
  have HOA : Hid (OkO 5 anyL) := Lib.hid okO_any7
  clear h1 hh hha hLL hok h2 hq
  go_enter Tryz.func3, Tryz.ntmps3
  go_upto_region 1 with fail
  rw [HW.out, HG.out]
  clear HW
  go_wp2_with (refine wpList_load25g (by rfl) (.tmp 5) rfl rfl S.out hk ?_)
  refine (giveF_at (rchk_any A L n c _ (K0.out.r (A, L, n, c) (by simp)).rd (K0.out.r (A, L, n, c) (by simp)).ln (by omega)) H1.out).mono ?_
  rintro e w1 ⟨rfl, hb⟩
  have K1 := kp7 K0 hb
  have Sn := Lib.hid (S.out.below hb.out S.out.lt)
  clear S
  have S := Sn
  clear Sn
  clear hb K0
  go_wp2_with (refine wpList_load25g (by rfl) (.tmp 5) rfl rfl S.out hk ?_)
  refine (giveF_at (rchk_any B M m d _ (K1.out.r (B, M, m, d) (by simp)).rd (K1.out.r (B, M, m, d) (by simp)).ln (by omega)) H2.out).mono ?_
  rintro e w2 ⟨rfl, hb⟩
  have K2 := kp7 K1 hb
  have Sn := Lib.hid (S.out.below hb.out S.out.lt)
  clear S
  have S := Sn
  clear Sn
  clear hb K1
  go_wp2_with (refine wpList_load25g (by rfl) (.tmp 5) rfl rfl S.out hk ?_)
  refine (giveF_at (ochk_any A L n c _ (K2.out.r (A, L, n, c) (by simp)).rd (K2.out.r (A, L, n, c) (by simp)).ln (by omega)) H1.out).mono ?_
  rintro e w3 ⟨rfl, hb⟩
  have K3 := kp7 K2 hb
  have Sn := Lib.hid (S.out.below hb.out S.out.lt)
  clear S
  have S := Sn
  clear Sn
  clear hb K2
  go_wp2_with (refine wpList_load25g (by rfl) (.tmp 5) rfl rfl S.out hk ?_)
  refine (giveB_at (has7_any A L n c x k _ (K3.out.r (A, L, n, c) (by simp)) (by omega) HO.out) HH.out).mono ?_
  rintro e w4 ⟨rfl, hb⟩
  have K4 := kp7 K3 hb
  have Sn := Lib.hid (S.out.below hb.out S.out.lt)
  clear S
  have S := Sn
  clear Sn
  clear hb K3
  go_wp2_with (refine wpList_load25g (by rfl) (.tmp 5) rfl rfl S.out hk ?_)
  refine (giveF_at (rcheck_any x k _ HO.out) HQ.out).mono ?_
  rintro e w5 ⟨rfl, hb⟩
  have K5 := kp7 K4 hb
  have Sn := Lib.hid (S.out.below hb.out S.out.lt)
  clear S
  have S := Sn
  clear Sn
  clear hb K4
  go_wp2_with (refine wpList_load25g (by rfl) (.tmp 5) rfl rfl S.out hk ?_)
  refine (giveB_at (rhas_any A L n c x k _ (K5.out.r (A, L, n, c) (by simp)).rd (K5.out.r (A, L, n, c) (by simp)).ln (by omega) HO.out) HB1.out).mono ?_
  rintro e w6 ⟨rfl, hb⟩
  have K6 := kp7 K5 hb
  have Sn := Lib.hid (S.out.below hb.out S.out.lt)
  clear S
  have S := Sn
  clear Sn
  clear hb K5
  go_wp2_with (refine wpList_load25g (by rfl) (.tmp 5) rfl rfl S.out hk ?_)
  refine (giveB_at (hasany7_any A L n c _ (K6.out.r (A, L, n, c) (by simp)) (by omega)) HHA.out).mono ?_
  rintro e w7 ⟨rfl, hb⟩
  have K7 := kp7 K6 hb
  have Sn := Lib.hid (S.out.below hb.out S.out.lt)
  clear S
  have S := Sn
  clear Sn
  clear hb K6
  go_wp2_with (refine wpList_load25g (by rfl) (.tmp 5) rfl rfl S.out hk ?_)
  refine (rany_any _).mono ?_
  rintro e w8 ⟨rfl, hbb⟩
  have hb := Lib.hid hbb
  clear hbb
  have K8 := kp7 K7 hb
  have Sn := Lib.hid (S.out.below hb.out S.out.lt)
  clear S
  have S := Sn
  clear Sn
  clear hb K7
  go_wp2_with (refine wpList_load25g (by rfl) (.tmp 5) rfl rfl S.out hk ?_)
  refine (giveB_at (rhas_any A L n c 5 anyL _ (K8.out.r (A, L, n, c) (by simp)).rd (K8.out.r (A, L, n, c) (by simp)).ln (by omega) HOA.out) HB2.out).mono ?_
  rintro e w9 ⟨rfl, hb⟩
  have K9 := kp7 K8 hb
  have Sn := Lib.hid (S.out.below hb.out S.out.lt)
  clear S
  have S := Sn
  clear Sn
  clear hb K8
  go_wp2_with fail
  refine (giveL_at (union_any A B L M n m c d _ (K9.out.r (A, L, n, c) (by simp)) (K9.out.r (B, M, m, d) (by simp)) (by omega) (by omega)) HUN.out rfl (by decide)).mono ?_
  rintro e w10 ⟨A9, rfl, hi, hb⟩
  have K10 := kp7 K9 hb
  clear hb K9
  clear hi
  go_wp2_with fail
  refine (giveL_at (common_any A B L M n m c d _ (K10.out.r (A, L, n, c) (by simp)) (K10.out.r (B, M, m, d) (by simp)) (by omega) (by omega)) HCO.out rfl (by decide)).mono ?_
  rintro e w11 ⟨A10, rfl, hi, hb⟩
  have K11 := kp7 K10 hb
  clear hb K10
  clear hi
  go_wp2_with fail
  refine (giveL_at (minus_any A B L M n m c d _ (K11.out.r (A, L, n, c) (by simp)) (K11.out.r (B, M, m, d) (by simp)) (by omega) (by omega)) HMI.out rfl (by decide)).mono ?_
  rintro e w12 ⟨A11, rfl, hi, hb⟩
  have K12 := kp7 K11 hb
  clear hb K11
  clear hi
  go_wp2_with fail
  refine (same_none _ none 0 0 0 f _ HF.out).mono ?_
  rintro e w' ⟨rfl, rfl⟩
  go_wp2_with fail
  refine (same_none _ none 0 0 0 f _ HF.out).mono ?_
  rintro e w' ⟨rfl, rfl⟩
  go_wp2_with fail
  refine (same_none _ none 0 0 0 f _ HF.out).mono ?_
  rintro e w' ⟨rfl, rfl⟩
  go_wp2_with fail
  refine (giveB_at (within_any A B L M n m c d _ (K12.out.r (A, L, n, c) (by simp)) (K12.out.r (B, M, m, d) (by simp)) (by omega) (by omega)) HWI.out).mono ?_
  rintro e w13 ⟨rfl, hb⟩
  have K13 := kp7 K12 hb
  clear hb K12
  go_wp2_with fail
  refine (giveB_at (same7_any A B L M n m c d _ (K13.out.r (A, L, n, c) (by simp)) (K13.out.r (B, M, m, d) (by simp)) (by omega)) HSA.out).mono ?_
  rintro e w14 ⟨rfl, hb⟩
  have K14 := kp7 K13 hb
  clear hb K13
  go_wp2_with fail
  refine (lives_at7 _ K14.out.e).mono ?_
  rintro e w15 ⟨rfl, hb⟩
  have K15 := kp7 K14 hb
  clear hb K14
  go_wp2_with fail
  go_ret
  exact ⟨rfl, K15.out.b⟩
set_option linter.unusedSimpArgs false in
set_option linter.unusedVariables false in
set_option maxHeartbeats 4000000 in
set_option maxRecDepth 100000 in
theorem check7_G1 (A B : Option Addr) (L M : List Od) (n m c d x : Nat) (k : List Nat) (w : World) (hE : Env w) (hA : Ino w A L n c) (hB : Ino w B M m d) (ho : OkO x k) (hn : n ≤ 20) (hm : m ≤ 20) (f : Nat) (hf : f ≠ 0) (h1 : chkW L = 0) (h2 : chkW M = f) (hq : chkO x k = 1) :
    Calls Tryz.prog 3 #[.slice A n c, .slice B m d, oV x k] w fun e w' => e = .returned (.bool true) ∧ Below w.heap.size w w' := by
  have hok : OkO x k := ho
  have hLL := hA.rd.2
  have hh : hasR L (x, k) = false := by
    unfold hasR
    rw [decide_eq_false (p := (x, k) ∈ L) (fun hx => by have := ((chkW_zero hLL).1 h1).1.vd _ hx; rw [hq] at this; cases this), Bool.and_false]
  have hha : hasR L (5, anyL) = decide ((5, anyL) ∈ L) := by unfold hasR; rw [decide_eq_true h1]; rfl
  have hun := uni_bad (L := L) (M := M) hf (.inr ⟨h1, h2⟩)
  have hco := cmb_bad cK (L := L) (M := M) hf (.inr ⟨h1, h2⟩)
  have hmi := cmb_bad mK (L := L) (M := M) hf (.inr ⟨h1, h2⟩)
  have hwi := wit_bad (L := L) (M := M) hf (.inr ⟨h1, h2⟩)
  have hsa := sam_bad (L := L) (M := M) hf (.inr ⟨h1, h2⟩)
  obtain ⟨w0, hw0⟩ : ∃ w0, w.alloc (.cells (oc x k).toArray 26) = w0 := ⟨_, rfl⟩
  have hk := ho.len
  have hb := Lib.hid (bel1 w (.cells (oc x k).toArray 26))
  have K00 := kp7 (ka7 (ka7 (Lib.hid (St7.start hE)) (Lib.hid hA)) (Lib.hid hB)) hb
  have S0 := Lib.hid (Bk.new w 26 (oc x k))
  obtain ⟨g, hg⟩ : ∃ g, w.heap.size = g := ⟨_, rfl⟩
  rw [hw0] at K00 S0
  rw [hg] at S0
  have K0 := K00
  have S := S0
  have HO := Lib.hid ho
  have HW := Lib.hid hw0
  have HG := Lib.hid hg
  clear hb hE hA hB ho hw0 hg K00 S0
  have H1 := Lib.hid h1
  have HH := Lib.hid hh
  have HHA := Lib.hid hha
  have H2 := Lib.hid h2
  have HQ := Lib.hid hq
  have HUN := Lib.hid hun
  have HCO := Lib.hid hco
  have HMI := Lib.hid hmi
  have HWI := Lib.hid hwi
  have HSA := Lib.hid hsa
  have HF := Lib.hid hf
  have hfi : ¬ (f : Int) = 0 := by omega
  clear hun hco hmi hwi hsa hf
  have hni : ¬ (20 : Int) < (n : Int) := by omega
  have hmi20 : ¬ (20 : Int) < (m : Int) := by omega
  obtain ⟨b2, hb2⟩ : ∃ b2, decide ((5, anyL) ∈ L) = b2 := ⟨_, rfl⟩
  have HB2 := Lib.hid hb2
  rw [hb2] at HHA
  clear hb2
  have HOA : Hid (OkO 5 anyL) := Lib.hid okO_any7
  clear h1 hh hha hLL hok h2 hq
  go_enter Tryz.func3, Tryz.ntmps3
  go_upto_region 1 with fail
  rw [HW.out, HG.out]
  clear HW
  go_wp2_with (refine wpList_load25g (by rfl) (.tmp 5) rfl rfl S.out hk ?_)
  refine (giveF_at (rchk_any A L n c _ (K0.out.r (A, L, n, c) (by simp)).rd (K0.out.r (A, L, n, c) (by simp)).ln (by omega)) H1.out).mono ?_
  rintro e w1 ⟨rfl, hb⟩
  have K1 := kp7 K0 hb
  have Sn := Lib.hid (S.out.below hb.out S.out.lt)
  clear S
  have S := Sn
  clear Sn
  clear hb K0
  go_wp2_with (refine wpList_load25g (by rfl) (.tmp 5) rfl rfl S.out hk ?_)
  refine (giveF_at (rchk_any B M m d _ (K1.out.r (B, M, m, d) (by simp)).rd (K1.out.r (B, M, m, d) (by simp)).ln (by omega)) H2.out).mono ?_
  rintro e w2 ⟨rfl, hb⟩
  have K2 := kp7 K1 hb
  have Sn := Lib.hid (S.out.below hb.out S.out.lt)
  clear S
  have S := Sn
  clear Sn
  clear hb K1
  go_wp2_with (refine wpList_load25g (by rfl) (.tmp 5) rfl rfl S.out hk ?_)
  refine (giveF_at (ochk_any A L n c _ (K2.out.r (A, L, n, c) (by simp)).rd (K2.out.r (A, L, n, c) (by simp)).ln (by omega)) H1.out).mono ?_
  rintro e w3 ⟨rfl, hb⟩
  have K3 := kp7 K2 hb
  have Sn := Lib.hid (S.out.below hb.out S.out.lt)
  clear S
  have S := Sn
  clear Sn
  clear hb K2
  go_wp2_with (refine wpList_load25g (by rfl) (.tmp 5) rfl rfl S.out hk ?_)
  refine (giveB_at (has7_any A L n c x k _ (K3.out.r (A, L, n, c) (by simp)) (by omega) HO.out) HH.out).mono ?_
  rintro e w4 ⟨rfl, hb⟩
  have K4 := kp7 K3 hb
  have Sn := Lib.hid (S.out.below hb.out S.out.lt)
  clear S
  have S := Sn
  clear Sn
  clear hb K3
  go_wp2_with (refine wpList_load25g (by rfl) (.tmp 5) rfl rfl S.out hk ?_)
  refine (giveF_at (rcheck_any x k _ HO.out) HQ.out).mono ?_
  rintro e w5 ⟨rfl, hb⟩
  have K5 := kp7 K4 hb
  have Sn := Lib.hid (S.out.below hb.out S.out.lt)
  clear S
  have S := Sn
  clear Sn
  clear hb K4
  go_wp2_with (refine wpList_load25g (by rfl) (.tmp 5) rfl rfl S.out hk ?_)
  refine (giveB_at (hasany7_any A L n c _ (K5.out.r (A, L, n, c) (by simp)) (by omega)) HHA.out).mono ?_
  rintro e w6 ⟨rfl, hb⟩
  have K6 := kp7 K5 hb
  have Sn := Lib.hid (S.out.below hb.out S.out.lt)
  clear S
  have S := Sn
  clear Sn
  clear hb K5
  go_wp2_with (refine wpList_load25g (by rfl) (.tmp 5) rfl rfl S.out hk ?_)
  refine (rany_any _).mono ?_
  rintro e w7 ⟨rfl, hbb⟩
  have hb := Lib.hid hbb
  clear hbb
  have K7 := kp7 K6 hb
  have Sn := Lib.hid (S.out.below hb.out S.out.lt)
  clear S
  have S := Sn
  clear Sn
  clear hb K6
  go_wp2_with (refine wpList_load25g (by rfl) (.tmp 5) rfl rfl S.out hk ?_)
  refine (giveB_at (rhas_any A L n c 5 anyL _ (K7.out.r (A, L, n, c) (by simp)).rd (K7.out.r (A, L, n, c) (by simp)).ln (by omega) HOA.out) HB2.out).mono ?_
  rintro e w8 ⟨rfl, hb⟩
  have K8 := kp7 K7 hb
  have Sn := Lib.hid (S.out.below hb.out S.out.lt)
  clear S
  have S := Sn
  clear Sn
  clear hb K7
  go_wp2_with fail
  refine (giveL_at (union_any A B L M n m c d _ (K8.out.r (A, L, n, c) (by simp)) (K8.out.r (B, M, m, d) (by simp)) (by omega) (by omega)) HUN.out rfl (by decide)).mono ?_
  rintro e w9 ⟨A8, rfl, hi, hb⟩
  have K9 := kp7 K8 hb
  clear hb K8
  clear hi
  go_wp2_with fail
  refine (giveL_at (common_any A B L M n m c d _ (K9.out.r (A, L, n, c) (by simp)) (K9.out.r (B, M, m, d) (by simp)) (by omega) (by omega)) HCO.out rfl (by decide)).mono ?_
  rintro e w10 ⟨A9, rfl, hi, hb⟩
  have K10 := kp7 K9 hb
  clear hb K9
  clear hi
  go_wp2_with fail
  refine (giveL_at (minus_any A B L M n m c d _ (K10.out.r (A, L, n, c) (by simp)) (K10.out.r (B, M, m, d) (by simp)) (by omega) (by omega)) HMI.out rfl (by decide)).mono ?_
  rintro e w11 ⟨A10, rfl, hi, hb⟩
  have K11 := kp7 K10 hb
  clear hb K10
  clear hi
  go_wp2_with fail
  refine (same_none _ none 0 0 0 f _ HF.out).mono ?_
  rintro e w' ⟨rfl, rfl⟩
  go_wp2_with fail
  refine (same_none _ none 0 0 0 f _ HF.out).mono ?_
  rintro e w' ⟨rfl, rfl⟩
  go_wp2_with fail
  refine (same_none _ none 0 0 0 f _ HF.out).mono ?_
  rintro e w' ⟨rfl, rfl⟩
  go_wp2_with fail
  refine (giveB_at (within_any A B L M n m c d _ (K11.out.r (A, L, n, c) (by simp)) (K11.out.r (B, M, m, d) (by simp)) (by omega) (by omega)) HWI.out).mono ?_
  rintro e w12 ⟨rfl, hb⟩
  have K12 := kp7 K11 hb
  clear hb K11
  go_wp2_with fail
  refine (giveB_at (same7_any A B L M n m c d _ (K12.out.r (A, L, n, c) (by simp)) (K12.out.r (B, M, m, d) (by simp)) (by omega)) HSA.out).mono ?_
  rintro e w13 ⟨rfl, hb⟩
  have K13 := kp7 K12 hb
  clear hb K12
  go_wp2_with fail
  refine (lives_at7 _ K13.out.e).mono ?_
  rintro e w14 ⟨rfl, hb⟩
  have K14 := kp7 K13 hb
  clear hb K13
  go_wp2_with fail
  go_ret
  exact ⟨rfl, K14.out.b⟩
set_option linter.unusedSimpArgs false in
set_option linter.unusedVariables false in
set_option maxHeartbeats 4000000 in
set_option maxRecDepth 100000 in
theorem check7_H0 (A B : Option Addr) (L M : List Od) (n m c d x : Nat) (k : List Nat) (w : World) (hE : Env w) (hA : Ino w A L n c) (hB : Ino w B M m d) (ho : OkO x k) (hn : n ≤ 20) (hm : m ≤ 20) (h1 : chkW L = 0) (h2 : chkW M = 0) (hq : chkO x k = 0) :
    Calls Tryz.prog 3 #[.slice A n c, .slice B m d, oV x k] w fun e w' => e = .returned (.bool true) ∧ Below w.heap.size w w' := by
  have hok : OkO x k := ho
  have hLL := hA.rd.2
  have hh : hasR L (x, k) = decide ((x, k) ∈ L) := by unfold hasR; rw [decide_eq_true h1]; rfl
  have hha : hasR L (5, anyL) = decide ((5, anyL) ∈ L) := by unfold hasR; rw [decide_eq_true h1]; rfl
  obtain ⟨w0, hw0⟩ : ∃ w0, w.alloc (.cells (oc x k).toArray 26) = w0 := ⟨_, rfl⟩
  have hk := ho.len
  have hb := Lib.hid (bel1 w (.cells (oc x k).toArray 26))
  have K00 := kp7 (ka7 (ka7 (Lib.hid (St7.start hE)) (Lib.hid hA)) (Lib.hid hB)) hb
  have S0 := Lib.hid (Bk.new w 26 (oc x k))
  obtain ⟨g, hg⟩ : ∃ g, w.heap.size = g := ⟨_, rfl⟩
  rw [hw0] at K00 S0
  rw [hg] at S0
  have K0 := K00
  have S := S0
  have HO := Lib.hid ho
  have HW := Lib.hid hw0
  have HG := Lib.hid hg
  clear hb hE hA hB ho hw0 hg K00 S0
  have H1 := Lib.hid h1
  have HH := Lib.hid hh
  have HHA := Lib.hid hha
  have H2 := Lib.hid h2
  have HQ := Lib.hid hq
  have hni : ¬ (20 : Int) < (n : Int) := by omega
  have hmi20 : ¬ (20 : Int) < (m : Int) := by omega
  obtain ⟨b1, hb1⟩ : ∃ b1, decide ((x, k) ∈ L) = b1 := ⟨_, rfl⟩
  have HB1 := Lib.hid hb1
  rw [hb1] at HH
  clear hb1
  obtain ⟨b2, hb2⟩ : ∃ b2, decide ((5, anyL) ∈ L) = b2 := ⟨_, rfl⟩
  have HB2 := Lib.hid hb2
  rw [hb2] at HHA
  clear hb2
  have HOA : Hid (OkO 5 anyL) := Lib.hid okO_any7
  clear h1 hh hha hLL hok h2 hq
  go_enter Tryz.func3, Tryz.ntmps3
  go_upto_region 1 with fail
  rw [HW.out, HG.out]
  clear HW
  go_wp2_with (refine wpList_load25g (by rfl) (.tmp 5) rfl rfl S.out hk ?_)
  refine (giveF_at (rchk_any A L n c _ (K0.out.r (A, L, n, c) (by simp)).rd (K0.out.r (A, L, n, c) (by simp)).ln (by omega)) H1.out).mono ?_
  rintro e w1 ⟨rfl, hb⟩
  have K1 := kp7 K0 hb
  have Sn := Lib.hid (S.out.below hb.out S.out.lt)
  clear S
  have S := Sn
  clear Sn
  clear hb K0
  go_wp2_with (refine wpList_load25g (by rfl) (.tmp 5) rfl rfl S.out hk ?_)
  refine (giveF_at (rchk_any B M m d _ (K1.out.r (B, M, m, d) (by simp)).rd (K1.out.r (B, M, m, d) (by simp)).ln (by omega)) H2.out).mono ?_
  rintro e w2 ⟨rfl, hb⟩
  have K2 := kp7 K1 hb
  have Sn := Lib.hid (S.out.below hb.out S.out.lt)
  clear S
  have S := Sn
  clear Sn
  clear hb K1
  go_wp2_with (refine wpList_load25g (by rfl) (.tmp 5) rfl rfl S.out hk ?_)
  refine (giveF_at (ochk_any A L n c _ (K2.out.r (A, L, n, c) (by simp)).rd (K2.out.r (A, L, n, c) (by simp)).ln (by omega)) H1.out).mono ?_
  rintro e w3 ⟨rfl, hb⟩
  have K3 := kp7 K2 hb
  have Sn := Lib.hid (S.out.below hb.out S.out.lt)
  clear S
  have S := Sn
  clear Sn
  clear hb K2
  go_wp2_with (refine wpList_load25g (by rfl) (.tmp 5) rfl rfl S.out hk ?_)
  refine (giveB_at (has7_any A L n c x k _ (K3.out.r (A, L, n, c) (by simp)) (by omega) HO.out) HH.out).mono ?_
  rintro e w4 ⟨rfl, hb⟩
  have K4 := kp7 K3 hb
  have Sn := Lib.hid (S.out.below hb.out S.out.lt)
  clear S
  have S := Sn
  clear Sn
  clear hb K3
  go_wp2_with (refine wpList_load25g (by rfl) (.tmp 5) rfl rfl S.out hk ?_)
  refine (giveF_at (rcheck_any x k _ HO.out) HQ.out).mono ?_
  rintro e w5 ⟨rfl, hb⟩
  have K5 := kp7 K4 hb
  have Sn := Lib.hid (S.out.below hb.out S.out.lt)
  clear S
  have S := Sn
  clear Sn
  clear hb K4
  go_wp2_with (refine wpList_load25g (by rfl) (.tmp 5) rfl rfl S.out hk ?_)
  refine (giveB_at (rhas_any A L n c x k _ (K5.out.r (A, L, n, c) (by simp)).rd (K5.out.r (A, L, n, c) (by simp)).ln (by omega) HO.out) HB1.out).mono ?_
  rintro e w6 ⟨rfl, hb⟩
  have K6 := kp7 K5 hb
  have Sn := Lib.hid (S.out.below hb.out S.out.lt)
  clear S
  have S := Sn
  clear Sn
  clear hb K5
  go_wp2_with (refine wpList_load25g (by rfl) (.tmp 5) rfl rfl S.out hk ?_)
  refine (giveB_at (hasany7_any A L n c _ (K6.out.r (A, L, n, c) (by simp)) (by omega)) HHA.out).mono ?_
  rintro e w7 ⟨rfl, hb⟩
  have K7 := kp7 K6 hb
  have Sn := Lib.hid (S.out.below hb.out S.out.lt)
  clear S
  have S := Sn
  clear Sn
  clear hb K6
  go_wp2_with (refine wpList_load25g (by rfl) (.tmp 5) rfl rfl S.out hk ?_)
  refine (rany_any _).mono ?_
  rintro e w8 ⟨rfl, hbb⟩
  have hb := Lib.hid hbb
  clear hbb
  have K8 := kp7 K7 hb
  have Sn := Lib.hid (S.out.below hb.out S.out.lt)
  clear S
  have S := Sn
  clear Sn
  clear hb K7
  go_wp2_with (refine wpList_load25g (by rfl) (.tmp 5) rfl rfl S.out hk ?_)
  refine (giveB_at (rhas_any A L n c 5 anyL _ (K8.out.r (A, L, n, c) (by simp)).rd (K8.out.r (A, L, n, c) (by simp)).ln (by omega) HOA.out) HB2.out).mono ?_
  rintro e w9 ⟨rfl, hb⟩
  have K9 := kp7 K8 hb
  have Sn := Lib.hid (S.out.below hb.out S.out.lt)
  clear S
  have S := Sn
  clear Sn
  clear hb K8
  go_wp2_with (refine wpList_load25g (by rfl) (.tmp 5) rfl rfl S.out hk ?_)
  refine (lives_at7 _ K9.out.e).mono ?_
  rintro e w10 ⟨rfl, hb⟩
  have K10 := kp7 K9 hb
  have Sn := Lib.hid (S.out.below hb.out S.out.lt)
  clear S
  have S := Sn
  clear Sn
  clear hb K9
  go_wp2_with (refine wpList_load25g (by rfl) (.tmp 5) rfl rfl S.out hk ?_)
  go_ret
  exact ⟨rfl, K10.out.b⟩
set_option linter.unusedSimpArgs false in
set_option linter.unusedVariables false in
set_option maxHeartbeats 4000000 in
set_option maxRecDepth 100000 in
theorem check7_H1 (A B : Option Addr) (L M : List Od) (n m c d x : Nat) (k : List Nat) (w : World) (hE : Env w) (hA : Ino w A L n c) (hB : Ino w B M m d) (ho : OkO x k) (hn : n ≤ 20) (hm : m ≤ 20) (h1 : chkW L = 0) (h2 : chkW M = 0) (hq : chkO x k = 1) :
    Calls Tryz.prog 3 #[.slice A n c, .slice B m d, oV x k] w fun e w' => e = .returned (.bool true) ∧ Below w.heap.size w w' := by
  have hok : OkO x k := ho
  have hLL := hA.rd.2
  have hh : hasR L (x, k) = false := by
    unfold hasR
    rw [decide_eq_false (p := (x, k) ∈ L) (fun hx => by have := ((chkW_zero hLL).1 h1).1.vd _ hx; rw [hq] at this; cases this), Bool.and_false]
  have hha : hasR L (5, anyL) = decide ((5, anyL) ∈ L) := by unfold hasR; rw [decide_eq_true h1]; rfl
  obtain ⟨w0, hw0⟩ : ∃ w0, w.alloc (.cells (oc x k).toArray 26) = w0 := ⟨_, rfl⟩
  have hk := ho.len
  have hb := Lib.hid (bel1 w (.cells (oc x k).toArray 26))
  have K00 := kp7 (ka7 (ka7 (Lib.hid (St7.start hE)) (Lib.hid hA)) (Lib.hid hB)) hb
  have S0 := Lib.hid (Bk.new w 26 (oc x k))
  obtain ⟨g, hg⟩ : ∃ g, w.heap.size = g := ⟨_, rfl⟩
  rw [hw0] at K00 S0
  rw [hg] at S0
  have K0 := K00
  have S := S0
  have HO := Lib.hid ho
  have HW := Lib.hid hw0
  have HG := Lib.hid hg
  clear hb hE hA hB ho hw0 hg K00 S0
  have H1 := Lib.hid h1
  have HH := Lib.hid hh
  have HHA := Lib.hid hha
  have H2 := Lib.hid h2
  have HQ := Lib.hid hq
  have hni : ¬ (20 : Int) < (n : Int) := by omega
  have hmi20 : ¬ (20 : Int) < (m : Int) := by omega
  obtain ⟨b2, hb2⟩ : ∃ b2, decide ((5, anyL) ∈ L) = b2 := ⟨_, rfl⟩
  have HB2 := Lib.hid hb2
  rw [hb2] at HHA
  clear hb2
  have HOA : Hid (OkO 5 anyL) := Lib.hid okO_any7
  clear h1 hh hha hLL hok h2 hq
  go_enter Tryz.func3, Tryz.ntmps3
  go_upto_region 1 with fail
  rw [HW.out, HG.out]
  clear HW
  go_wp2_with (refine wpList_load25g (by rfl) (.tmp 5) rfl rfl S.out hk ?_)
  refine (giveF_at (rchk_any A L n c _ (K0.out.r (A, L, n, c) (by simp)).rd (K0.out.r (A, L, n, c) (by simp)).ln (by omega)) H1.out).mono ?_
  rintro e w1 ⟨rfl, hb⟩
  have K1 := kp7 K0 hb
  have Sn := Lib.hid (S.out.below hb.out S.out.lt)
  clear S
  have S := Sn
  clear Sn
  clear hb K0
  go_wp2_with (refine wpList_load25g (by rfl) (.tmp 5) rfl rfl S.out hk ?_)
  refine (giveF_at (rchk_any B M m d _ (K1.out.r (B, M, m, d) (by simp)).rd (K1.out.r (B, M, m, d) (by simp)).ln (by omega)) H2.out).mono ?_
  rintro e w2 ⟨rfl, hb⟩
  have K2 := kp7 K1 hb
  have Sn := Lib.hid (S.out.below hb.out S.out.lt)
  clear S
  have S := Sn
  clear Sn
  clear hb K1
  go_wp2_with (refine wpList_load25g (by rfl) (.tmp 5) rfl rfl S.out hk ?_)
  refine (giveF_at (ochk_any A L n c _ (K2.out.r (A, L, n, c) (by simp)).rd (K2.out.r (A, L, n, c) (by simp)).ln (by omega)) H1.out).mono ?_
  rintro e w3 ⟨rfl, hb⟩
  have K3 := kp7 K2 hb
  have Sn := Lib.hid (S.out.below hb.out S.out.lt)
  clear S
  have S := Sn
  clear Sn
  clear hb K2
  go_wp2_with (refine wpList_load25g (by rfl) (.tmp 5) rfl rfl S.out hk ?_)
  refine (giveB_at (has7_any A L n c x k _ (K3.out.r (A, L, n, c) (by simp)) (by omega) HO.out) HH.out).mono ?_
  rintro e w4 ⟨rfl, hb⟩
  have K4 := kp7 K3 hb
  have Sn := Lib.hid (S.out.below hb.out S.out.lt)
  clear S
  have S := Sn
  clear Sn
  clear hb K3
  go_wp2_with (refine wpList_load25g (by rfl) (.tmp 5) rfl rfl S.out hk ?_)
  refine (giveF_at (rcheck_any x k _ HO.out) HQ.out).mono ?_
  rintro e w5 ⟨rfl, hb⟩
  have K5 := kp7 K4 hb
  have Sn := Lib.hid (S.out.below hb.out S.out.lt)
  clear S
  have S := Sn
  clear Sn
  clear hb K4
  go_wp2_with (refine wpList_load25g (by rfl) (.tmp 5) rfl rfl S.out hk ?_)
  refine (giveB_at (hasany7_any A L n c _ (K5.out.r (A, L, n, c) (by simp)) (by omega)) HHA.out).mono ?_
  rintro e w6 ⟨rfl, hb⟩
  have K6 := kp7 K5 hb
  have Sn := Lib.hid (S.out.below hb.out S.out.lt)
  clear S
  have S := Sn
  clear Sn
  clear hb K5
  go_wp2_with (refine wpList_load25g (by rfl) (.tmp 5) rfl rfl S.out hk ?_)
  refine (rany_any _).mono ?_
  rintro e w7 ⟨rfl, hbb⟩
  have hb := Lib.hid hbb
  clear hbb
  have K7 := kp7 K6 hb
  have Sn := Lib.hid (S.out.below hb.out S.out.lt)
  clear S
  have S := Sn
  clear Sn
  clear hb K6
  go_wp2_with (refine wpList_load25g (by rfl) (.tmp 5) rfl rfl S.out hk ?_)
  refine (giveB_at (rhas_any A L n c 5 anyL _ (K7.out.r (A, L, n, c) (by simp)).rd (K7.out.r (A, L, n, c) (by simp)).ln (by omega) HOA.out) HB2.out).mono ?_
  rintro e w8 ⟨rfl, hb⟩
  have K8 := kp7 K7 hb
  have Sn := Lib.hid (S.out.below hb.out S.out.lt)
  clear S
  have S := Sn
  clear Sn
  clear hb K7
  go_wp2_with (refine wpList_load25g (by rfl) (.tmp 5) rfl rfl S.out hk ?_)
  refine (lives_at7 _ K8.out.e).mono ?_
  rintro e w9 ⟨rfl, hb⟩
  have K9 := kp7 K8 hb
  have Sn := Lib.hid (S.out.below hb.out S.out.lt)
  clear S
  have S := Sn
  clear Sn
  clear hb K8
  go_wp2_with (refine wpList_load25g (by rfl) (.tmp 5) rfl rfl S.out hk ?_)
  go_ret
  exact ⟨rfl, K9.out.b⟩
theorem check7_walk (A B : Option Addr) (L M : List Od) (n m c d x : Nat) (k : List Nat) (w : World) (hE : Env w) (hA : Ino w A L n c) (hB : Ino w B M m d) (ho : OkO x k) :
    Calls Tryz.prog 3 #[.slice A n c, .slice B m d, oV x k] w fun e w' => e = .returned (.bool true) ∧ Below w.heap.size w w' := by
  rcases Nat.lt_or_ge 20 n with h1 | h1
  · exact check7_l1 A B L M n m c d x k w hE hA hB ho h1
  rcases Nat.lt_or_ge 20 m with h2 | h2
  · exact check7_l2 A B L M n m c d x k w hE hA hB ho h1 h2
  by_cases h3 : chkW L = 0
  · by_cases h4 : chkW M = 0
    · rcases chkO_01 x k with h5 | h5
      · exact check7_H0 A B L M n m c d x k w hE hA hB ho h1 h2 h3 h4 h5
      · exact check7_H1 A B L M n m c d x k w hE hA hB ho h1 h2 h3 h4 h5
    · rcases chkO_01 x k with h5 | h5
      · exact check7_G0 A B L M n m c d x k w hE hA hB ho h1 h2 _ h4 h3 rfl h5
      · exact check7_G1 A B L M n m c d x k w hE hA hB ho h1 h2 _ h4 h3 rfl h5
  · exact check7_F A B L M n m c d x k w hE hA hB ho h1 h2 _ h3 rfl

open Go.ChangeShapes Go.WideShapes Go.ChangeAt Go.WideMaps Go.WideElems
set_option maxRecDepth 100000 in
theorem oidsetsCheck_lifted (os : Os) (started : os.Started) (H : Type) (enc : TypeId × Value → H) :
    ReturnsInHanded {} Tryz.checked os 3 .any (fun w args => (Rows.oidsetsCheckSpec.pre enc Tryz.prog Tryz.f3 [] false w args ∧ laidMetH Tryz.prog laidL w) ∧ sizedMet enc Tryz.prog Tryz.f3 (OpenSpec.ofChange Rows.oidsetsCheckSpec) false w args)
      (Rows.oidsetsCheckSpec.post enc Tryz.prog Tryz.f3 false true false false) := by
  refine returnsInHanded_of_change_and (C := Tryz.checked) (X := fun w _ => laidMetH Tryz.prog laidL w) (fun _ _ _ hh h => h.of_heap hh) x_own started (by kernel_rfl) Tryz.func3
    (ChangeSpec.witness_shaped (enc := enc) (C := Tryz.checked) (os := os) (X := fun w _ => laidMetH Tryz.prog laidL w) false (World.laidAll Tryz.prog os laidL) #[.slice none 0 0, .slice none 0 0, .agg #[.int .u8 0, .int .u32 0, .int .u32 0, .int .u32 0, .int .u32 0, .int .u32 0, .int .u32 0, .int .u32 0, .int .u32 0, .int .u32 0, .int .u32 0, .int .u32 0, .int .u32 0, .int .u32 0, .int .u32 0, .int .u32 0, .int .u32 0]] 8 (World.laidAll_os _ _ _) (World.shaped_of_ZipB (by kernel_rfl) (by kernel_rfl)) (by kernel_rfl) (by kernel_rfl) (by kernel_rfl) (door_met os _)) ?_
  intro W base args ds gs before hval0 hW _ _ hL _
  have hval : ∀ (j : Nat) t v, Tryz.f3.params[j]? = some t → args[j]? = some v → Value.okWide Tryz.prog W .any base t v := hval0
  have hW' := hW
  obtain ⟨p, q, hA0, hV, rfl, hfz, hnd⟩ := hW
  have hA : DataW.TrodAll enc Tryz.prog W 0 (fun _ => true) true Tryz.f3.params.toList args.toList ds p := hA0
  rw [Tryz.params3] at hA hval
  obtain ⟨v0, v1, v2, d0, d1, d2, p0, p1, p2, rfl, rfl, rfl, h0, h1, h2⟩ := trodAll_three hA
  obtain ⟨rfl, rfl⟩ := trodVars_none hV
  obtain ⟨A, L, c, rfl, hA2⟩ := open_oids (hval 0 _ v0 rfl rfl) h0
  obtain ⟨B, M, d, rfl, hB2⟩ := open_oids (hval 1 _ v1 rfl rfl) h1
  obtain ⟨x, k, rfl, ho⟩ := open_oid (hval 2 _ v2 rfl rfl) h2
  have hE := of_laid hL
  clear hA0 hval0
  simp only [List.append_nil] at hW'
  refine (check7_walk A B L M L.length M.length c d x k W hE hA2 hB2 ho).mono fun e W' ⟨he, hb⟩ => ?_
  subst he
  exact ⟨_, rfl, law_post (tb := 4) x_laid (by decide +kernel) rfl rfl (by kernel_rfl) Tryz.underlying4 hW' hb⟩

/-- The row's statement. -/
theorem oidsetsCheck_row : Rows.OidsetsCheckSaid :=
  OpenClaim.holds_of_wide 3 Tryz.f3 rfl rfl rfl rfl rfl rfl rfl ⟨rfl, rfl, rfl, rfl, rfl⟩ rfl rfl rfl rfl rfl (by kernel_rfl) Tryz.func3 (by kernel_rfl)
    (of_decide_eq_true (by kernel_rfl)) (by unfold Func.isWrapper; first | (rw [if_pos (by decide +kernel)]; kernel_rfl) | (rw [if_neg (by decide +kernel)]; exact ⟨rfl, rfl⟩))
    (fun os started H enc _ => oidsetsCheck_lifted os started H enc)

/-- The statement: the card. -/
theorem oidsetsCheck_holds : Rows.OidsetsCheckCardSaid :=
  Claim7.holds_tied_plain_at .later [] [.data, .data, .data, .data, .sentinel, .sentinel, .pinned] true Rows.oidsetsCheckCard.stood.harness true
    oidsetsCheck_row (fun _ h => by cases h) (by kernel_rfl) (fun _ h => by cases h) oidsetsCheck_row_tie rfl ⟨rfl, rfl⟩ (by kernel_rfl) rfl
    (fun f fn hf hfn => by
      obtain rfl : f = 3 := Option.some.inj ((show Tryz.prog.funcNamed "vidimus/vidimuslaw07.OidsetsCheck" = some 3 by kernel_rfl).symm.trans hf) |>.symm
      obtain rfl : fn = Tryz.f3 := (Option.some.inj (Tryz.func3.symm.trans hfn)).symm
      exact ⟨by kernel_rfl, fun j t ht => by
        rw [Tryz.params3] at ht
        have hm : t ∈ Tryz.f3.params.toList := by rw [Tryz.params3]; exact Array.mem_toList_iff.2 (Array.mem_of_getElem? ht)
        have hall : (Tryz.f3.params.toList.all fun u => !Tryz.prog.wantsStandIn u) = true := by kernel_rfl
        exact (show Tryz.prog.wantsStandIn t = false by simpa using List.all_eq_true.1 hall t hm)⟩)
    (by kernel_rfl)
end Go.Proofs.YtaiiihdckdjpoaaGreatDoor
