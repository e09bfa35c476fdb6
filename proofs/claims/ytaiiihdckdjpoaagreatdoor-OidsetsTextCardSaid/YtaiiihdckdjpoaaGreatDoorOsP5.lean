/-
  Layer 7, the statement OidsetsText: Text returns the text of the definition, and Parse inverts it; Parse accepts nothing else.
  Conditions: the package-level variables that the row lists hold what the program's text lays (the card ties them).
-/
import Derived.Test.YtaiiihdckdjpoaaGreatDoorOgM
import Derived.Test.YtaiiihdckdjpoaaGreatDoorOsPt
namespace Go.Proofs.YtaiiihdckdjpoaaGreatDoor
open Go.RowKit Go.Shelf

theorem giveT_at {f : FuncId} {args : Array Value} {W : World} {l : List Nat} {S : ByteArray} (h : Calls Tryz.prog f args W (GiveT W l)) (hS : bstr l = S) :
    Calls Tryz.prog f args W fun e w' => e = .returned (.string S) ∧ Hid (Below W.heap.size W w') := by
  subst hS
  exact h.mono fun e w' ⟨h1, h2⟩ => ⟨h1, Lib.hid h2⟩
theorem text_at7 (A : Option Addr) (L : List Od) (n c : Nat) (S : ByteArray) (W : World) (hA : Ino W A L n c) (hm : n ≤ 1000) (hE : Env W) (h1 : chkW L = 0) (hS : bstr (txW L) = S) :
    Calls Tryz.prog 17 #[.slice A n c] W fun e w' => e = .returned (.string S) ∧ Hid (Below W.heap.size W w') := by
  have := textW_any A L n c W hA.rd hA.ln hm hE
  rw [if_pos h1] at this
  exact giveT_at this hS
theorem parsed_at7 (S : ByteArray) (l : List Nat) (A : Option Addr) (K : List Od) (n d f : Nat) (W : World) (hS : bstr l = S) (h8 : All8 l) (hl : l.length ≤ 1000000) (hE : Env W) (hA : Ino W A K n d) (hm : n ≤ 100000) (hq : prsW l = (K, f)) :
    Calls Tryz.prog 33 #[.string S, .slice A n d, .int .i64 (f : Int)] W fun e w' => e = .returned (.bool true) ∧ Hid (Below W.heap.size W w') := by
  subst hS
  exact (parsedW l h8 hl A K n d f W hE hA hm hq fun hf => prsW_zero hq hf).mono fun _ _ ⟨h1, h2⟩ => ⟨h1, Lib.hid h2⟩
theorem giveP_at {f : FuncId} {args : Array Value} {W : World} {r : List Od × Nat} {R : List Od} {g k : Nat} (h : Calls Tryz.prog f args W (GivePr W r)) (hr : r = (R, g)) (hk : R.length = k) :
    Calls Tryz.prog f args W fun e w' => ∃ A c, e = .returned (.tuple #[.slice A k c, .int .i64 (g : Int)]) ∧ Hid (Ino w' A R k c) ∧ Hid (Below W.heap.size W w') := by
  subst hr hk
  exact h.mono fun e w' ⟨A, c, h1, h2, h3⟩ => ⟨A, c, h1, Lib.hid h2, Lib.hid h3⟩
theorem rparse_at7 (S : ByteArray) (l : List Nat) (K : List Od) (k f : Nat) (W : World) (hS : bstr l = S) (h8 : All8 l) (hl : l.length ≤ 250) (hq : prsW l = (K, f)) (hk : K.length = k) :
    Calls Tryz.prog 34 #[.string S] W fun e w' => ∃ A c, e = .returned (.tuple #[.slice A k c, .int .i64 (f : Int)]) ∧ Hid (Ino w' A K k c) ∧ Hid (Below W.heap.size W w') := by
  subst hS
  exact giveP_at (rparseW_any l h8 hl W) hq hk
theorem rtext_at7 (A : Option Addr) (L : List Od) (n c : Nat) (S : ByteArray) (W : World) (hA : Ino W A L n c) (hm : n ≤ 1000) (hS : bstr (txW L) = S) :
    Calls Tryz.prog 32 #[.slice A n c] W fun e w' => e = .returned (.string S) ∧ Hid (Below W.heap.size W w') := giveT_at (rtextW_any A L n c W hA.rd hA.ln hm) hS
set_option linter.unusedSimpArgs false in
set_option linter.unusedVariables false in
set_option maxHeartbeats 4000000 in
set_option maxRecDepth 100000 in
theorem text7_long (A : Option Addr) (gs : List Ad) (n c : Nat) (sl : List Nat) (w : World) (hE : Env w) (hA : RdA w A gs) (hn : gs.length = n) (hlc : n ≤ c) (hm : c ≤ maxLen) (h8 : All8 sl) (hg : 200 < sl.length) :
    Calls Tryz.prog 7 #[.agg #[.slice A n c], .string (bstr sl)] w fun e w' => e = .returned (.bool true) ∧ Below w.heap.size w w' := by
  have hval := wL_val hA.fits
  obtain ⟨L, hL⟩ : ∃ L, wR gs = L := ⟨_, rfl⟩
  have HSL : Hid (SetO L) := Lib.hid (by rw [← hL]; exact ofR_set ⟨hval.1, hval.2⟩)
  have hl12 : L.length ≤ 12 := by
    rw [← hL]
    exact Nat.le_trans (ofR_le _) (by rw [wL_len]; omega)
  obtain ⟨k, hk⟩ : ∃ k, L.length = k := ⟨_, rfl⟩
  rw [hk] at hl12
  have HK := Lib.hid hk
  have HL := Lib.hid hL
  have HCK : Hid (chkW L = 0) := Lib.hid (HSL.out.chk (by omega))
  have HPT : Hid (prsW (txW L) = (L, 0)) := Lib.hid (text_prsW HSL.out (by omega))
  have HTL : Hid ((txW L).length ≤ 1000000) := Lib.hid (by have := txW_len HSL.out.ok; omega)
  obtain ⟨ST, hST⟩ : ∃ ST, bstr (txW L) = ST := ⟨_, rfl⟩
  have HST := Lib.hid hST
  obtain ⟨S, hS⟩ : ∃ S, bstr sl = S := ⟨_, rfl⟩
  have HS := Lib.hid hS
  have H8 := Lib.hid h8
  have hsz : S.size = sl.length := by rw [← hS]; exact bstr_size sl
  rw [hS]
  obtain ⟨w0, hw0⟩ : ∃ w0, w.alloc (.cells #[.slice A n c] 45) = w0 := ⟨_, rfl⟩
  have hb := Lib.hid (bel1 w (.cells #[.slice A n c] 45))
  have K00 := kp7 (Lib.hid (St7.start hE)) hb
  have hc0 : (w.alloc (.cells #[.slice A n c] 45)).cell? ⟨w.heap.size, 0, none⟩ = some (.slice A n c) := (Bk.new w 45 [.slice A n c]).cell 0
  have CW := Lib.hid (fun (h : RdA w0 A gs) => wof_any A gs n c w0 h hn hlc hm)
  rw [hL] at CW
  have HRA : Hid (RdA w0 A gs) := Lib.hid (by rw [← hw0]; exact RdA.stay hb.out hA)
  obtain ⟨g, hg⟩ : ∃ g, w.heap.size = g := ⟨_, rfl⟩
  rw [hw0] at K00 hc0
  rw [hg] at hc0
  have K0 := K00
  have HW := Lib.hid hw0
  have HG := Lib.hid hg
  clear hb hE hA hw0 hg K00 hval hL hk hST hS h8 hn
  have hsi : (200 : Int) < (sl.length : Int) := by omega
  go_enter Tryz.func7, Tryz.ntmps7
  go_upto_region 1 with fail
  rw [HW.out, HG.out]
  clear HW
  go_wp2_with fail
  refine (giveK_at (CW.out HRA.out) HK.out).mono ?_
  rintro e w1 ⟨A1, c1, rfl, hi, hb⟩
  have K1 := kp7 K0 hb
  clear hb K0
  have K1n := ka7 K1 hi
  clear hi K1
  have K1 := K1n
  clear K1n
  go_wp2_with fail
  refine (text_at7 A1 L k c1 ST _ (K1.out.r (A1, L, k, c1) (by simp)) (by omega) K1.out.e HCK.out HST.out).mono ?_
  rintro e w2 ⟨rfl, hb⟩
  have K2 := kp7 K1 hb
  clear hb K1
  go_wp2_with fail
  refine (rtext_at7 A1 L k c1 ST _ (K2.out.r (A1, L, k, c1) (by simp)) (by omega) HST.out).mono ?_
  rintro e w3 ⟨rfl, hb⟩
  have K3 := kp7 K2 hb
  clear hb K2
  go_wp2_with fail
  refine (parsed_at7 ST (txW L) A1 L k c1 0 _ HST.out txW_all HTL.out K3.out.e (K3.out.r (A1, L, k, c1) (by simp)) (by omega) HPT.out).mono ?_
  rintro e w4 ⟨rfl, hb⟩
  have K4 := kp7 K3 hb
  clear hb K3
  go_wp2_with fail
  refine (lives_at7 _ K4.out.e).mono ?_
  rintro e w5 ⟨rfl, hb⟩
  have K5 := kp7 K4 hb
  clear hb K4
  go_wp2_with fail
  go_ret
  exact ⟨rfl, K5.out.b⟩
set_option linter.unusedSimpArgs false in
set_option linter.unusedVariables false in
set_option maxHeartbeats 4000000 in
set_option maxRecDepth 100000 in
theorem text7_0 (A : Option Addr) (gs : List Ad) (n c : Nat) (sl : List Nat) (w : World) (hE : Env w) (hA : RdA w A gs) (hn : gs.length = n) (hlc : n ≤ c) (hm : c ≤ maxLen) (h8 : All8 sl) (hg : sl.length ≤ 200) (K2 : List Od) (hq : prsW sl = (K2, 0)) :
    Calls Tryz.prog 7 #[.agg #[.slice A n c], .string (bstr sl)] w fun e w' => e = .returned (.bool true) ∧ Below w.heap.size w w' := by
  have hval := wL_val hA.fits
  obtain ⟨L, hL⟩ : ∃ L, wR gs = L := ⟨_, rfl⟩
  have HSL : Hid (SetO L) := Lib.hid (by rw [← hL]; exact ofR_set ⟨hval.1, hval.2⟩)
  have hl12 : L.length ≤ 12 := by
    rw [← hL]
    exact Nat.le_trans (ofR_le _) (by rw [wL_len]; omega)
  obtain ⟨k, hk⟩ : ∃ k, L.length = k := ⟨_, rfl⟩
  rw [hk] at hl12
  have HK := Lib.hid hk
  have HL := Lib.hid hL
  have HCK : Hid (chkW L = 0) := Lib.hid (HSL.out.chk (by omega))
  have HPT : Hid (prsW (txW L) = (L, 0)) := Lib.hid (text_prsW HSL.out (by omega))
  have HTL : Hid ((txW L).length ≤ 1000000) := Lib.hid (by have := txW_len HSL.out.ok; omega)
  obtain ⟨ST, hST⟩ : ∃ ST, bstr (txW L) = ST := ⟨_, rfl⟩
  have HST := Lib.hid hST
  obtain ⟨S, hS⟩ : ∃ S, bstr sl = S := ⟨_, rfl⟩
  have HS := Lib.hid hS
  have H8 := Lib.hid h8
  have hsz : S.size = sl.length := by rw [← hS]; exact bstr_size sl
  rw [hS]
  obtain ⟨w0, hw0⟩ : ∃ w0, w.alloc (.cells #[.slice A n c] 45) = w0 := ⟨_, rfl⟩
  have hb := Lib.hid (bel1 w (.cells #[.slice A n c] 45))
  have K00 := kp7 (Lib.hid (St7.start hE)) hb
  have hc0 : (w.alloc (.cells #[.slice A n c] 45)).cell? ⟨w.heap.size, 0, none⟩ = some (.slice A n c) := (Bk.new w 45 [.slice A n c]).cell 0
  have CW := Lib.hid (fun (h : RdA w0 A gs) => wof_any A gs n c w0 h hn hlc hm)
  rw [hL] at CW
  have HRA : Hid (RdA w0 A gs) := Lib.hid (by rw [← hw0]; exact RdA.stay hb.out hA)
  obtain ⟨g, hg⟩ : ∃ g, w.heap.size = g := ⟨_, rfl⟩
  rw [hw0] at K00 hc0
  rw [hg] at hc0
  have K0 := K00
  have HW := Lib.hid hw0
  have HG := Lib.hid hg
  clear hb hE hA hw0 hg K00 hval hL hk hST hS h8 hn
  have hsi : ¬ (200 : Int) < (sl.length : Int) := by omega
  have hpt := prsW_text hq
  have HC2 : Hid (chkW K2 = 0) := Lib.hid (hpt.1.chk hpt.2.1)
  have HS2 : Hid (bstr (txW K2) = S) := Lib.hid (by rw [hpt.2.2]; exact HS.out)
  have hk2 : K2.length ≤ 256 := hpt.2.1
  obtain ⟨k2, hkk⟩ : ∃ k2, K2.length = k2 := ⟨_, rfl⟩
  rw [hkk] at hk2
  have HK2 := Lib.hid hkk
  have HQ := Lib.hid hq
  clear hkk hq
  clear hpt
  go_enter Tryz.func7, Tryz.ntmps7
  go_upto_region 1 with fail
  rw [HW.out, HG.out]
  clear HW
  go_wp2_with fail
  refine (giveK_at (CW.out HRA.out) HK.out).mono ?_
  rintro e w1 ⟨A1, c1, rfl, hi, hb⟩
  have K1 := kp7 K0 hb
  clear hb K0
  have K1n := ka7 K1 hi
  clear hi K1
  have K1 := K1n
  clear K1n
  go_wp2_with fail
  refine (text_at7 A1 L k c1 ST _ (K1.out.r (A1, L, k, c1) (by simp)) (by omega) K1.out.e HCK.out HST.out).mono ?_
  rintro e w2 ⟨rfl, hb⟩
  have K2 := kp7 K1 hb
  clear hb K1
  go_wp2_with fail
  refine (rtext_at7 A1 L k c1 ST _ (K2.out.r (A1, L, k, c1) (by simp)) (by omega) HST.out).mono ?_
  rintro e w3 ⟨rfl, hb⟩
  have K3 := kp7 K2 hb
  clear hb K2
  go_wp2_with fail
  refine (parsed_at7 ST (txW L) A1 L k c1 0 _ HST.out txW_all HTL.out K3.out.e (K3.out.r (A1, L, k, c1) (by simp)) (by omega) HPT.out).mono ?_
  rintro e w4 ⟨rfl, hb⟩
  have K4 := kp7 K3 hb
  clear hb K3
  go_wp2_with fail
  refine (rparse_at7 S sl K2 k2 0 _ HS.out H8.out (by omega) HQ.out HK2.out).mono ?_
  rintro e w5 ⟨A2, c2, rfl, hi, hb⟩
  have K5 := kp7 K4 hb
  clear hb K4
  have K5n := ka7 K5 hi
  clear hi K5
  have K5 := K5n
  clear K5n
  go_wp2_with fail
  refine (parsed_at7 S sl A2 K2 k2 c2 0 _ HS.out H8.out (by omega) K5.out.e (K5.out.r (A2, K2, k2, c2) (by simp)) (by omega) HQ.out).mono ?_
  rintro e w6 ⟨rfl, hb⟩
  have K6 := kp7 K5 hb
  clear hb K5
  go_wp2_with fail
  refine (text_at7 A2 K2 k2 c2 S _ (K6.out.r (A2, K2, k2, c2) (by simp)) (by omega) K6.out.e HC2.out HS2.out).mono ?_
  rintro e w7 ⟨rfl, hb⟩
  have K7 := kp7 K6 hb
  clear hb K6
  go_wp2_with fail
  refine (lives_at7 _ K7.out.e).mono ?_
  rintro e w8 ⟨rfl, hb⟩
  have K8 := kp7 K7 hb
  clear hb K7
  go_wp2_with fail
  go_ret
  exact ⟨rfl, K8.out.b⟩
set_option linter.unusedSimpArgs false in
set_option linter.unusedVariables false in
set_option maxHeartbeats 4000000 in
set_option maxRecDepth 100000 in
theorem text7_f (A : Option Addr) (gs : List Ad) (n c : Nat) (sl : List Nat) (w : World) (hE : Env w) (hA : RdA w A gs) (hn : gs.length = n) (hlc : n ≤ c) (hm : c ≤ maxLen) (h8 : All8 sl) (hg : sl.length ≤ 200) (K2 : List Od) (f : Nat) (hf : f ≠ 0) (hq : prsW sl = (K2, f)) :
    Calls Tryz.prog 7 #[.agg #[.slice A n c], .string (bstr sl)] w fun e w' => e = .returned (.bool true) ∧ Below w.heap.size w w' := by
  have hval := wL_val hA.fits
  obtain ⟨L, hL⟩ : ∃ L, wR gs = L := ⟨_, rfl⟩
  have HSL : Hid (SetO L) := Lib.hid (by rw [← hL]; exact ofR_set ⟨hval.1, hval.2⟩)
  have hl12 : L.length ≤ 12 := by
    rw [← hL]
    exact Nat.le_trans (ofR_le _) (by rw [wL_len]; omega)
  obtain ⟨k, hk⟩ : ∃ k, L.length = k := ⟨_, rfl⟩
  rw [hk] at hl12
  have HK := Lib.hid hk
  have HL := Lib.hid hL
  have HCK : Hid (chkW L = 0) := Lib.hid (HSL.out.chk (by omega))
  have HPT : Hid (prsW (txW L) = (L, 0)) := Lib.hid (text_prsW HSL.out (by omega))
  have HTL : Hid ((txW L).length ≤ 1000000) := Lib.hid (by have := txW_len HSL.out.ok; omega)
  obtain ⟨ST, hST⟩ : ∃ ST, bstr (txW L) = ST := ⟨_, rfl⟩
  have HST := Lib.hid hST
  obtain ⟨S, hS⟩ : ∃ S, bstr sl = S := ⟨_, rfl⟩
  have HS := Lib.hid hS
  have H8 := Lib.hid h8
  have hsz : S.size = sl.length := by rw [← hS]; exact bstr_size sl
  rw [hS]
  obtain ⟨w0, hw0⟩ : ∃ w0, w.alloc (.cells #[.slice A n c] 45) = w0 := ⟨_, rfl⟩
  have hb := Lib.hid (bel1 w (.cells #[.slice A n c] 45))
  have K00 := kp7 (Lib.hid (St7.start hE)) hb
  have hc0 : (w.alloc (.cells #[.slice A n c] 45)).cell? ⟨w.heap.size, 0, none⟩ = some (.slice A n c) := (Bk.new w 45 [.slice A n c]).cell 0
  have CW := Lib.hid (fun (h : RdA w0 A gs) => wof_any A gs n c w0 h hn hlc hm)
  rw [hL] at CW
  have HRA : Hid (RdA w0 A gs) := Lib.hid (by rw [← hw0]; exact RdA.stay hb.out hA)
  obtain ⟨g, hg⟩ : ∃ g, w.heap.size = g := ⟨_, rfl⟩
  rw [hw0] at K00 hc0
  rw [hg] at hc0
  have K0 := K00
  have HW := Lib.hid hw0
  have HG := Lib.hid hg
  clear hb hE hA hw0 hg K00 hval hL hk hST hS h8 hn
  have hsi : ¬ (200 : Int) < (sl.length : Int) := by omega
  have hk2 : K2.length ≤ 256 := by rw [prsW_zero hq hf]; simp
  have hfb : ((f : Int) != 0) = true := by rw [bne_iff_ne]; omega
  have hfi : ¬ (f : Int) = 0 := by omega
  obtain ⟨k2, hkk⟩ : ∃ k2, K2.length = k2 := ⟨_, rfl⟩
  rw [hkk] at hk2
  have HK2 := Lib.hid hkk
  have HQ := Lib.hid hq
  clear hkk hq
  go_enter Tryz.func7, Tryz.ntmps7
  go_upto_region 1 with fail
  rw [HW.out, HG.out]
  clear HW
  go_wp2_with fail
  refine (giveK_at (CW.out HRA.out) HK.out).mono ?_
  rintro e w1 ⟨A1, c1, rfl, hi, hb⟩
  have K1 := kp7 K0 hb
  clear hb K0
  have K1n := ka7 K1 hi
  clear hi K1
  have K1 := K1n
  clear K1n
  go_wp2_with fail
  refine (text_at7 A1 L k c1 ST _ (K1.out.r (A1, L, k, c1) (by simp)) (by omega) K1.out.e HCK.out HST.out).mono ?_
  rintro e w2 ⟨rfl, hb⟩
  have K2 := kp7 K1 hb
  clear hb K1
  go_wp2_with fail
  refine (rtext_at7 A1 L k c1 ST _ (K2.out.r (A1, L, k, c1) (by simp)) (by omega) HST.out).mono ?_
  rintro e w3 ⟨rfl, hb⟩
  have K3 := kp7 K2 hb
  clear hb K2
  go_wp2_with fail
  refine (parsed_at7 ST (txW L) A1 L k c1 0 _ HST.out txW_all HTL.out K3.out.e (K3.out.r (A1, L, k, c1) (by simp)) (by omega) HPT.out).mono ?_
  rintro e w4 ⟨rfl, hb⟩
  have K4 := kp7 K3 hb
  clear hb K3
  go_wp2_with fail
  refine (rparse_at7 S sl K2 k2 f _ HS.out H8.out (by omega) HQ.out HK2.out).mono ?_
  rintro e w5 ⟨A2, c2, rfl, hi, hb⟩
  have K5 := kp7 K4 hb
  clear hb K4
  have K5n := ka7 K5 hi
  clear hi K5
  have K5 := K5n
  clear K5n
  go_wp2_with fail
  refine (parsed_at7 S sl A2 K2 k2 c2 f _ HS.out H8.out (by omega) K5.out.e (K5.out.r (A2, K2, k2, c2) (by simp)) (by omega) HQ.out).mono ?_
  rintro e w6 ⟨rfl, hb⟩
  have K6 := kp7 K5 hb
  clear hb K5
  go_wp2_with fail
  refine (lives_at7 _ K6.out.e).mono ?_
  rintro e w7 ⟨rfl, hb⟩
  have K7 := kp7 K6 hb
  clear hb K6
  go_wp2_with fail
  go_ret
  exact ⟨rfl, K7.out.b⟩
theorem text7_walk (A : Option Addr) (gs : List Ad) (n c : Nat) (sl : List Nat) (w : World) (hE : Env w) (hA : RdA w A gs) (hn : gs.length = n) (hlc : n ≤ c) (hm : c ≤ maxLen) (h8 : All8 sl) :
    Calls Tryz.prog 7 #[.agg #[.slice A n c], .string (bstr sl)] w fun e w' => e = .returned (.bool true) ∧ Below w.heap.size w w' := by
  rcases Nat.lt_or_ge 200 sl.length with h1 | h1
  · exact text7_long A gs n c sl w hE hA hn hlc hm h8 h1
  · by_cases hf : (prsW sl).2 = 0
    · exact text7_0 A gs n c sl w hE hA hn hlc hm h8 h1 (prsW sl).1 (Prod.ext rfl hf)
    · exact text7_f A gs n c sl w hE hA hn hlc hm h8 h1 (prsW sl).1 (prsW sl).2 hf rfl

open Go.ChangeShapes Go.WideShapes Go.ChangeAt Go.WideMaps Go.WideElems
set_option maxRecDepth 100000 in
theorem oidsetsText_lifted (os : Os) (started : os.Started) (H : Type) (enc : TypeId × Value → H) :
    ReturnsInHanded {} Tryz.checked os 7 .any (fun w args => (Rows.oidsetsTextSpec.pre enc Tryz.prog Tryz.f7 [] false w args ∧ laidMetH Tryz.prog laidL w) ∧ sizedMet enc Tryz.prog Tryz.f7 (OpenSpec.ofChange Rows.oidsetsTextSpec) false w args)
      (Rows.oidsetsTextSpec.post enc Tryz.prog Tryz.f7 false true false false) := by
  refine returnsInHanded_of_change_and (C := Tryz.checked) (X := fun w _ => laidMetH Tryz.prog laidL w) (fun _ _ _ hh h => h.of_heap hh) x_own started (by kernel_rfl) Tryz.func7
    (ChangeSpec.witness_shaped (enc := enc) (C := Tryz.checked) (os := os) (X := fun w _ => laidMetH Tryz.prog laidL w) false (World.laidAll Tryz.prog os laidL) #[.agg #[.slice none 0 0], .string ⟨#[]⟩] 8 (World.laidAll_os _ _ _) (World.shaped_of_ZipB (by kernel_rfl) (by kernel_rfl)) (by kernel_rfl) (by kernel_rfl) (by kernel_rfl) (door_met os _)) ?_
  intro W base args ds gs before hval0 hW _ _ hL _
  have hval : ∀ (j : Nat) t v, Tryz.f7.params[j]? = some t → args[j]? = some v → Value.okWide Tryz.prog W .any base t v := hval0
  have hW' := hW
  obtain ⟨p, q, hA0, hV, rfl, hfz, hnd⟩ := hW
  have hA : DataW.TrodAll enc Tryz.prog W 0 (fun _ => true) true Tryz.f7.params.toList args.toList ds p := hA0
  rw [Tryz.params7] at hA hval
  obtain ⟨v0, v1, d0, d1, p0, p1, rfl, rfl, rfl, h0, h1⟩ := trodAll_two hA
  obtain ⟨rfl, rfl⟩ := trodVars_none hV
  obtain ⟨A, gs, c, rfl, hA2, hlc, hm⟩ := open_W (hval 0 _ v0 rfl rfl) h0
  obtain ⟨s, rfl⟩ := okWide_string Tryz.underlying9 (hval 1 _ v1 rfl rfl)
  obtain ⟨l, rfl, h8⟩ := bstr_of s
  have hE := of_laid hL
  clear hA0 hval0
  simp only [List.append_nil] at hW'
  refine (text7_walk A gs gs.length c l W hE hA2 rfl hlc hm h8).mono fun e W' ⟨he, hb⟩ => ?_
  subst he
  exact ⟨_, rfl, law_post (tb := 4) x_laid (by decide +kernel) rfl rfl (by kernel_rfl) Tryz.underlying4 hW' hb⟩

/-- The row's statement. -/
theorem oidsetsText_row : Rows.OidsetsTextSaid :=
  OpenClaim.holds_of_wide 7 Tryz.f7 rfl rfl rfl rfl rfl rfl rfl ⟨rfl, rfl, rfl, rfl, rfl⟩ rfl rfl rfl rfl rfl (by kernel_rfl) Tryz.func7 (by kernel_rfl)
    (of_decide_eq_true (by kernel_rfl)) (by unfold Func.isWrapper; first | (rw [if_pos (by decide +kernel)]; kernel_rfl) | (rw [if_neg (by decide +kernel)]; exact ⟨rfl, rfl⟩))
    (fun os started H enc _ => oidsetsText_lifted os started H enc)

/-- The statement: the card. -/
theorem oidsetsText_holds : Rows.OidsetsTextCardSaid :=
  Claim7.holds_tied_plain_at .later [] [.data, .data, .data, .data, .sentinel, .sentinel, .pinned] true Rows.oidsetsTextCard.stood.harness true
    oidsetsText_row (fun _ h => by cases h) (by kernel_rfl) (fun _ h => by cases h) oidsetsText_row_tie rfl ⟨rfl, rfl⟩ (by kernel_rfl) rfl
    (fun f fn hf hfn => by
      obtain rfl : f = 7 := Option.some.inj ((show Tryz.prog.funcNamed "vidimus/vidimuslaw07.OidsetsText" = some 7 by kernel_rfl).symm.trans hf) |>.symm
      obtain rfl : fn = Tryz.f7 := (Option.some.inj (Tryz.func7.symm.trans hfn)).symm
      exact ⟨by kernel_rfl, fun j t ht => by
        rw [Tryz.params7] at ht
        have hm : t ∈ Tryz.f7.params.toList := by rw [Tryz.params7]; exact Array.mem_toList_iff.2 (Array.mem_of_getElem? ht)
        have hall : (Tryz.f7.params.toList.all fun u => !Tryz.prog.wantsStandIn u) = true := by kernel_rfl
        exact (show Tryz.prog.wantsStandIn t = false by simpa using List.all_eq_true.1 hall t hm)⟩)
    (by kernel_rfl)
end Go.Proofs.YtaiiihdckdjpoaaGreatDoor
