/-
  Layer 7, the statement OidsetsCombine: union, intersection and difference are those of the definition; so are Within and Same.
  Conditions: the package-level variables that the row lists hold what the program's text lays (the card ties them).
-/
import Derived.Test.YtaiiihdckdjpoaaGreatDoorOgM
namespace Go.Proofs.YtaiiihdckdjpoaaGreatDoor
open Go.RowKit Go.Shelf

theorem Ino.none7 (w : World) : Ino w none [] 0 0 := ⟨RdO.nil, rfl, Nat.le_refl _, by unfold maxLen; omega⟩
theorem W_set {gs : List Ad} (h : ∀ g ∈ gs, g.fits) : SetO (wR gs) ∧ (wR gs).length ≤ 12 := by
  have hval := wL_val h
  exact ⟨ofR_set ⟨hval.1, hval.2⟩, Nat.le_trans (ofR_le _) (by rw [wL_len]; omega)⟩
set_option linter.unusedSimpArgs false in
set_option linter.unusedVariables false in
set_option maxHeartbeats 8000000 in
set_option maxRecDepth 100000 in
theorem comb7_walk (A B : Option Addr) (ga gb : List Ad) (n m c d : Nat) (w : World) (hE : Env w) (hA : RdA w A ga) (hn : ga.length = n) (hlc : n ≤ c) (hm : c ≤ maxLen) (hB : RdA w B gb) (hm2 : gb.length = m) (hld : m ≤ d) (hmd : d ≤ maxLen) :
    Calls Tryz.prog 5 #[.agg #[.slice A n c], .agg #[.slice B m d]] w fun e w' => e = .returned (.bool true) ∧ Below w.heap.size w w' := by
  have hsa := W_set hA.fits
  have hsb := W_set hB.fits
  obtain ⟨L, hL⟩ : ∃ L, wR ga = L := ⟨_, rfl⟩
  obtain ⟨M, hM⟩ : ∃ M, wR gb = M := ⟨_, rfl⟩
  have CW := Lib.hid (fun W (h : RdA W A ga) => wof_any A ga n c W h hn hlc hm)
  have CV := Lib.hid (fun W (h : RdA W B gb) => wof_any B gb m d W h hm2 hld hmd)
  rw [hL] at hsa CW
  rw [hM] at hsb CV
  have HSA := Lib.hid hsa.1
  have HSB := Lib.hid hsb.1
  obtain ⟨k, hk⟩ : ∃ k, L.length = k := ⟨_, rfl⟩
  obtain ⟨j, hj⟩ : ∃ j, M.length = j := ⟨_, rfl⟩
  have hl12 := hsa.2
  have hm12 := hsb.2
  have HCU := Lib.hid (cmb_ok uK HSA.out HSB.out (by omega) (by omega))
  have HCC := Lib.hid (cmb_ok cK HSA.out HSB.out (by omega) (by omega))
  have HCM := Lib.hid (cmb_ok mK HSA.out HSB.out (by omega) (by omega))
  have hlu := mrg_len uK L M (L.length + M.length)
  have hlco := mrg_len cK L M (L.length + M.length)
  have hlmi := mrg_len mK L M (L.length + M.length)
  have hsu := set_mrg uK HSA.out HSB.out
  have hsc := set_mrg cK HSA.out HSB.out
  have hsm := set_mrg mK HSA.out HSB.out
  have hmu := uni_ofR HSA.out HSB.out
  have hmc := com_filter HSA.out HSB.out
  have hmm := min_filter HSA.out HSB.out
  have hmemc := mem_com HSA.out HSB.out
  have hmemm := mem_min HSA.out HSB.out
  rw [hk, hj] at hlu hlco hlmi hsu hsc hsm hmu hmc hmm hmemc hmemm HCU HCC HCM
  rw [hk] at hl12
  rw [hj] at hm12
  obtain ⟨U, hU⟩ : ∃ U, mrg uK (k + j) L M = U := ⟨_, rfl⟩
  obtain ⟨C, hC⟩ : ∃ C, mrg cK (k + j) L M = C := ⟨_, rfl⟩
  obtain ⟨D, hD⟩ : ∃ D, mrg mK (k + j) L M = D := ⟨_, rfl⟩
  rw [hU] at hlu hsu hmu HCU
  rw [hC] at hlco hsc hmc hmemc HCC
  rw [hD] at hlmi hsm hmm hmemm HCM
  obtain ⟨u, hu⟩ : ∃ u, U.length = u := ⟨_, rfl⟩
  obtain ⟨cc, hcc⟩ : ∃ cc, C.length = cc := ⟨_, rfl⟩
  obtain ⟨dd, hdd⟩ : ∃ dd, D.length = dd := ⟨_, rfl⟩
  rw [hu] at hlu
  rw [hcc] at hlco
  rw [hdd] at hlmi
  have HUN : Hid (uniR L M = (U, 0)) := Lib.hid (by unfold uniR; rw [HCU.out, if_neg (by rw [hu]; omega)])
  have HU := Lib.hid hu
  have HC := Lib.hid hcc
  have HD := Lib.hid hdd
  have HMU : Hid (ofR (L ++ M) = U) := Lib.hid hmu.symm
  have HMC : Hid ((L.filter fun o => decide (o ∈ M)) = C) := Lib.hid hmc.symm
  have HMM : Hid ((L.filter fun o => !(decide (o ∈ M))) = D) := Lib.hid hmm.symm
  have hback : mrg uK (D.length + C.length) D C = L := (set_mrg uK hsm hsc).uniq HSA.out fun z => by
    rw [mem_uni hsm hsc, hmemm, hmemc]
    constructor
    · rintro (h | h)
      · exact h.1
      · exact h.1
    · intro h
      by_cases h2 : z ∈ M
      · exact .inr ⟨h, h2⟩
      · exact .inl ⟨h, h2⟩
  have hnone : mrg cK (D.length + C.length) D C = [] := (set_mrg cK hsm hsc).uniq SetO.nil fun z => by
    rw [mem_com hsm hsc, hmemm, hmemc]
    constructor
    · rintro ⟨h1, h2⟩
      exact absurd h2.2 h1.2
    · intro h
      cases h
  have HBU : Hid (uniR D C = (L, 0)) := Lib.hid (by unfold uniR; rw [cmb_ok uK hsm hsc (by omega) (by omega), hback, if_neg (by rw [hk]; omega)])
  have HBC : Hid (cmbR cK D C = ([], 0)) := Lib.hid (by rw [cmb_ok cK hsm hsc (by omega) (by omega), hnone])
  have HWI : Hid (witR L M = decide (dd = 0)) := Lib.hid (by unfold witR; rw [HCM.out]; simp [hdd])
  have HSM : Hid (samR L M = decide (L = M)) := Lib.hid (by unfold samR; rw [decide_eq_true (HSA.out.chk (by omega))]; rfl)
  have HK := Lib.hid hk
  have HJ := Lib.hid hj
  obtain ⟨bw, hbw⟩ : ∃ bw, decide (dd = 0) = bw := ⟨_, rfl⟩
  obtain ⟨bs, hbs⟩ : ∃ bs, decide (L = M) = bs := ⟨_, rfl⟩
  rw [hbw] at HWI
  rw [hbs] at HSM
  have HBS := Lib.hid hbs
  have hbw2 : ((dd : Int) == 0) = bw := by
    rw [← hbw]
    cases dd with
    | zero => rfl
    | succ q => rw [decide_eq_false (by omega), beq_eq_false_iff_ne]; omega
  clear hsu hsc hsm hmu hmc hmm hmemc hmemm hback hnone hU hC hD hu hcc hdd hsa hsb hk hj hbw hbs hL hM hn hm2
  obtain ⟨w0, hw0⟩ : ∃ w0, (w.alloc (.cells #[.slice A n c] 45)).alloc (.cells #[.slice B m d] 45) = w0 := ⟨_, rfl⟩
  have hb : Hid (Below w.heap.size w w0) := Lib.hid (by rw [← hw0]; exact (bel1 w (.cells #[.slice A n c] 45)).alloc (by simp) _)
  have K0 := kp7 (Lib.hid (St7.start hE)) hb
  have SX : Hid (Bk w0 w.heap.size 45 [.slice A n c]) := Lib.hid (by rw [← hw0]; exact (Bk.new w 45 [.slice A n c]).alloc _)
  have SY : Hid (Bk w0 (w.heap.size + 1) 45 [.slice B m d]) := Lib.hid (by
    rw [← hw0]
    have := Bk.new (w.alloc (.cells #[.slice A n c] 45)) 45 [.slice B m d]
    rwa [World.size_alloc] at this)
  have RA0 : Hid (RdA w0 A ga) := Lib.hid (RdA.stay hb.out hA)
  have RB0 : Hid (RdA w0 B gb) := Lib.hid (RdA.stay hb.out hB)
  obtain ⟨g1, hg1⟩ : ∃ g1, w.heap.size = g1 := ⟨_, rfl⟩
  obtain ⟨g2, hg2⟩ : ∃ g2, g1 + 1 = g2 := ⟨_, rfl⟩
  rw [hg1] at SX SY
  rw [hg2] at SY
  have HW := Lib.hid hw0
  have HG1 := Lib.hid hg1
  have HG2 := Lib.hid hg2
  clear hb hE hA hB hw0 hg1 hg2
  go_enter Tryz.func5, Tryz.ntmps5
  go_upto_region 1 with fail
  rw [HW.out, HG1.out, HG2.out]
  clear HW
  
  go_cut [5, 6] (fun a b wx => ∃ A1 c1 B1 d1, a = .slice A1 k c1 ∧ b = .slice B1 j d1 ∧ St7 w [(A1, L, k, c1), (B1, M, j, d1)] wx)
  case first =>
    refine wp_region_held_drew (S := fun W => Below w0.heap.size w0 W) (by kernel_rfl) (Below.refl _ w0).drew (fun hS => ?_)
    have LX : Hid (∀ W, Below w0.heap.size w0 W → W.cell? ⟨g1, 0, none⟩ = some (.slice A n c)) := Lib.hid (fun W h => (SX.out.below h SX.out.lt).cell 0)
    have LY : Hid (∀ W, Below w0.heap.size w0 W → W.cell? ⟨g2, 0, none⟩ = some (.slice B m d)) := Lib.hid (fun W h => (SY.out.below h SY.out.lt).cell 0)
    refine wpAnyH_take (i := 0) (oi := ⟨some 17, _, _, _, _, _⟩) (v := .agg #[.slice A n c]) rfl (by kernel_rfl) (by kernel_rfl) (by kernel_rfl) (fun _ _ _ h => h) (Or.inl ⟨by rfl, fun W hSw => by have hcell := LX.out W hSw; go_simp⟩) hS ?_
    simp only [Act.put, List.setIfInBounds_toArray, List.set_cons_zero, List.set_cons_succ]
    refine wpAnyH_take (i := 2) (oi := ⟨some 19, _, _, _, _, _⟩) (v := .agg #[.slice B m d]) rfl (by kernel_rfl) (by kernel_rfl) (by kernel_rfl) (fun _ _ _ h => h) (Or.inl ⟨by rfl, fun W hSw => by have hcell := LY.out W hSw; go_simp⟩) hS ?_
    simp only [Act.put, List.setIfInBounds_toArray, List.set_cons_zero, List.set_cons_succ]
    have K1 := kp7 K0 (Lib.hid hS)
    generalize w0.drew = wd at *
    refine wpAnyH_ready (rs := [1]) (by kernel_rfl) (by simp) ?_
    refine AllReadyH.cons (o := ⟨some 18, _, _, _, _, _⟩) rfl (fun K hK => ?_) (AllReadyH.nil)
    go_simp
    refine (giveK_at (CW.out _ (RdA.stay hS RA0.out)) HK.out).mono ?_
    rintro e w1 ⟨A1, c1, rfl, hi, hb⟩
    have BLw1 := Lib.hid (hS.trans (hb.out.mono hS.size))
    have KB := kp7 K1 hb
    have KC := ka7 KB hi
    clear hi hb KB
    refine hK.out _ _ BLw1.out (fun hS => ?_)
    clear hK K
    (try simp only [Act.put, List.setIfInBounds_toArray, List.set_cons_zero, List.set_cons_succ])
    refine wpAnyH_ready (rs := [3]) (by kernel_rfl) (by simp) ?_
    refine AllReadyH.cons (o := ⟨some 20, _, _, _, _, _⟩) rfl (fun K hK => ?_) (AllReadyH.nil)
    go_simp
    refine (giveK_at (CV.out _ (RdA.stay hS RB0.out)) HJ.out).mono ?_
    rintro e w2 ⟨B1, d1, rfl, hi, hb⟩
    have BLw2 := Lib.hid (hS.trans (hb.out.mono hS.size))
    have KD := kp7 KC hb
    have KE := ka7 KD hi
    clear hi hb KD
    refine hK.out _ _ BLw2.out (fun hS => ?_)
    clear hK K
    (try simp only [Act.put, List.setIfInBounds_toArray, List.set_cons_zero, List.set_cons_succ])
    refine wpAnyH_take (i := 4) (oi := ⟨some 5, _, _, _, _, _⟩) (v := .slice A1 k c1) rfl (by kernel_rfl) (by kernel_rfl) (by kernel_rfl) (fun _ _ _ h => h) (Or.inl ⟨by rfl, fun w hSw => by go_simp⟩) hS ?_
    simp only [Act.put, List.setIfInBounds_toArray, List.set_cons_zero, List.set_cons_succ]
    refine wpAnyH_take (i := 5) (oi := ⟨some 6, _, _, _, _, _⟩) (v := .slice B1 j d1) rfl (by kernel_rfl) (by kernel_rfl) (by kernel_rfl) (fun _ _ _ h => h) (Or.inl ⟨by rfl, fun w hSw => by go_simp⟩) hS ?_
    simp only [Act.put, List.setIfInBounds_toArray, List.set_cons_zero, List.set_cons_succ]
    refine wpAnyH_done (by kernel_rfl) ?_ _
    go_wp2_with fail
    go_meet
    exact ⟨A1, c1, B1, d1, rfl, rfl, ⟨KE.out.b, KE.out.e, fun r hr => KE.out.r r (by simp only [List.mem_cons, List.not_mem_nil, or_false] at hr ⊢; rcases hr with rfl | rfl <;> simp)⟩⟩
  case rest =>
    obtain ⟨A1, c1, B1, d1, rfl, rfl, hst⟩ := hcut
    have K1 := Lib.hid hst
    clear hst K0 SX SY RA0 RB0 CW CV
    go_wp2_with fail
    refine (giveL_at (union_any A1 B1 L M k j c1 d1 _ (K1.out.r (A1, L, k, c1) (by simp)) (K1.out.r (B1, M, j, d1) (by simp)) (by omega) (by omega)) HUN.out HU.out (by omega)).mono ?_
    rintro e w2 ⟨AU, rfl, hi, hb⟩
    have K2 := kp7 K1 hb
    clear hb K1
    have K2n := ka7 K2 hi
    clear hi K2
    have K2 := K2n
    clear K2n
    go_wp2_with fail
    refine (giveL_at (common_any A1 B1 L M k j c1 d1 _ (K2.out.r (A1, L, k, c1) (by simp)) (K2.out.r (B1, M, j, d1) (by simp)) (by omega) (by omega)) HCC.out HC.out (by omega)).mono ?_
    rintro e w3 ⟨AC, rfl, hi, hb⟩
    have K3 := kp7 K2 hb
    clear hb K2
    have K3n := ka7 K3 hi
    clear hi K3
    have K3 := K3n
    clear K3n
    go_wp2_with fail
    refine (giveL_at (minus_any A1 B1 L M k j c1 d1 _ (K3.out.r (A1, L, k, c1) (by simp)) (K3.out.r (B1, M, j, d1) (by simp)) (by omega) (by omega)) HCM.out HD.out (by omega)).mono ?_
    rintro e w4 ⟨AD, rfl, hi, hb⟩
    have K4 := kp7 K3 hb
    clear hb K3
    have K4n := ka7 K4 hi
    clear hi K4
    have K4 := K4n
    clear K4n
    go_wp2_with fail
    refine (giveK_at (runion_any A1 B1 L M k j c1 d1 _ (K4.out.r (A1, L, k, c1) (by simp)) (K4.out.r (B1, M, j, d1) (by simp)) (by omega) (by omega)) ((congrArg List.length HMU.out).trans HU.out)).mono ?_
    rintro e w5 ⟨AV, cv, rfl, hi, hb⟩
    have K5 := kp7 K4 hb
    clear hb K4
    rw [HMU.out] at hi
    have K5n := ka7 K5 hi
    clear hi K5
    have K5 := K5n
    clear K5n
    go_wp2_with fail
    refine (same_at7 AU AV U u cv _ (K5.out.r (AU, U, u, u) (by simp)) (K5.out.r (AV, U, u, cv) (by simp)) (by omega)).mono ?_
    rintro e w6 ⟨rfl, hb⟩
    have K6 := kp7 K5 hb
    clear hb K5
    go_wp2_with fail
    have hcall := rcommon_any A1 B1 L M k j c1 d1 w6 (K6.out.r (A1, L, k, c1) (by simp)) (K6.out.r (B1, M, j, d1) (by simp)) (by omega) (by omega)
    rw [HMC.out, HC.out] at hcall
    refine hcall.mono ?_
    rintro e w7 ⟨AX, cx, rfl, hi1, hi2, hi3, _, hb1⟩
    have hi := Lib.hid (show Ino w7 AX C cc cx from ⟨hi3, HC.out, hi1, hi2⟩)
    have hb := Lib.hid hb1
    clear hi1 hi2 hi3 hb1 hcall
    have K7 := kp7 K6 hb
    clear hb K6
    have K7n := ka7 K7 hi
    clear hi K7
    have K7 := K7n
    clear K7n
    go_wp2_with fail
    refine (same_at7 AC AX C cc cx _ (K7.out.r (AC, C, cc, cc) (by simp)) (K7.out.r (AX, C, cc, cx) (by simp)) (by omega)).mono ?_
    rintro e w8 ⟨rfl, hb⟩
    have K8 := kp7 K7 hb
    clear hb K7
    go_wp2_with fail
    have hcall := rminus_any A1 B1 L M k j c1 d1 w8 (K8.out.r (A1, L, k, c1) (by simp)) (K8.out.r (B1, M, j, d1) (by simp)) (by omega) (by omega)
    rw [HMM.out, HD.out] at hcall
    refine hcall.mono ?_
    rintro e w9 ⟨AY, cy, rfl, hi1, hi2, hi3, _, hb1⟩
    have hi := Lib.hid (show Ino w9 AY D dd cy from ⟨hi3, HD.out, hi1, hi2⟩)
    have hb := Lib.hid hb1
    clear hi1 hi2 hi3 hb1 hcall
    have K9 := kp7 K8 hb
    clear hb K8
    have K9n := ka7 K9 hi
    clear hi K9
    have K9 := K9n
    clear K9n
    go_wp2_with fail
    refine (same_at7 AD AY D dd cy _ (K9.out.r (AD, D, dd, dd) (by simp)) (K9.out.r (AY, D, dd, cy) (by simp)) (by omega)).mono ?_
    rintro e w10 ⟨rfl, hb⟩
    have K10 := kp7 K9 hb
    clear hb K9
    go_wp2_with fail
    refine (giveL_at (union_any AD AC D C dd cc dd cc _ (K10.out.r (AD, D, dd, dd) (by simp)) (K10.out.r (AC, C, cc, cc) (by simp)) (by omega) (by omega)) HBU.out HK.out (by omega)).mono ?_
    rintro e w11 ⟨AB, rfl, hi, hb⟩
    have K11 := kp7 K10 hb
    clear hb K10
    have K11n := ka7 K11 hi
    clear hi K11
    have K11 := K11n
    clear K11n
    go_wp2_with fail
    refine (giveL_at (common_any AD AC D C dd cc dd cc _ (K11.out.r (AD, D, dd, dd) (by simp)) (K11.out.r (AC, C, cc, cc) (by simp)) (by omega) (by omega)) HBC.out rfl (by decide)).mono ?_
    rintro e w12 ⟨AN, rfl, hi, hb⟩
    have K12 := kp7 K11 hb
    clear hb K11
    have K12n := ka7 K12 hi
    clear hi K12
    have K12 := K12n
    clear K12n
    go_wp2_with fail
    refine (same_at7 AB A1 L k c1 _ (K12.out.r (AB, L, k, k) (by simp)) (K12.out.r (A1, L, k, c1) (by simp)) (by omega)).mono ?_
    rintro e w13 ⟨rfl, hb⟩
    have K13 := kp7 K12 hb
    clear hb K12
    go_wp2_with fail
    refine (same_at7 AN none [] 0 0 _ (K13.out.r (AN, [], 0, 0) (by simp)) (Ino.none7 _) (by omega)).mono ?_
    rintro e w14 ⟨rfl, hb⟩
    have K14 := kp7 K13 hb
    clear hb K13
    go_wp2_with fail
    refine (giveB_at (within_any A1 B1 L M k j c1 d1 _ (K14.out.r (A1, L, k, c1) (by simp)) (K14.out.r (B1, M, j, d1) (by simp)) (by omega) (by omega)) HWI.out).mono ?_
    rintro e w15 ⟨rfl, hb⟩
    have K15 := kp7 K14 hb
    clear hb K14
    go_wp2_with fail
    refine (giveB_at (same7_any A1 B1 L M k j c1 d1 _ (K15.out.r (A1, L, k, c1) (by simp)) (K15.out.r (B1, M, j, d1) (by simp)) (by omega)) HSM.out).mono ?_
    rintro e w16 ⟨rfl, hb⟩
    have K16 := kp7 K15 hb
    clear hb K15
    go_wp2_with fail
    refine (giveB_at (rsame_any A1 B1 L M k j c1 d1 _ (K16.out.r (A1, L, k, c1) (by simp)) (K16.out.r (B1, M, j, d1) (by simp)) (by omega)) HBS.out).mono ?_
    rintro e w17 ⟨rfl, hb⟩
    have K17 := kp7 K16 hb
    clear hb K16
    go_wp2_with fail
    refine (lives_at7 _ K17.out.e).mono ?_
    rintro e w18 ⟨rfl, hb⟩
    have K18 := kp7 K17 hb
    clear hb K17
    go_wp2_with fail
    go_ret
    exact ⟨rfl, K18.out.b⟩

open Go.ChangeShapes Go.WideShapes Go.ChangeAt Go.WideMaps Go.WideElems
set_option maxRecDepth 100000 in
theorem oidsetsCombine_lifted (os : Os) (started : os.Started) (H : Type) (enc : TypeId × Value → H) :
    ReturnsInHanded {} Tryz.checked os 5 .any (fun w args => (Rows.oidsetsCombineSpec.pre enc Tryz.prog Tryz.f5 [] false w args ∧ laidMetH Tryz.prog laidL w) ∧ sizedMet enc Tryz.prog Tryz.f5 (OpenSpec.ofChange Rows.oidsetsCombineSpec) false w args)
      (Rows.oidsetsCombineSpec.post enc Tryz.prog Tryz.f5 false true false false) := by
  refine returnsInHanded_of_change_and (C := Tryz.checked) (X := fun w _ => laidMetH Tryz.prog laidL w) (fun _ _ _ hh h => h.of_heap hh) x_own started (by kernel_rfl) Tryz.func5
    (ChangeSpec.witness_shaped (enc := enc) (C := Tryz.checked) (os := os) (X := fun w _ => laidMetH Tryz.prog laidL w) false (World.laidAll Tryz.prog os laidL) #[.agg #[.slice none 0 0], .agg #[.slice none 0 0]] 8 (World.laidAll_os _ _ _) (World.shaped_of_ZipB (by kernel_rfl) (by kernel_rfl)) (by kernel_rfl) (by kernel_rfl) (by kernel_rfl) (door_met os _)) ?_
  intro W base args ds gs before hval0 hW _ _ hL _
  have hval : ∀ (j : Nat) t v, Tryz.f5.params[j]? = some t → args[j]? = some v → Value.okWide Tryz.prog W .any base t v := hval0
  have hW' := hW
  obtain ⟨p, q, hA0, hV, rfl, hfz, hnd⟩ := hW
  have hA : DataW.TrodAll enc Tryz.prog W 0 (fun _ => true) true Tryz.f5.params.toList args.toList ds p := hA0
  rw [Tryz.params5] at hA hval
  obtain ⟨v0, v1, d0, d1, p0, p1, rfl, rfl, rfl, h0, h1⟩ := trodAll_two hA
  obtain ⟨rfl, rfl⟩ := trodVars_none hV
  obtain ⟨A, ga, c, rfl, hA2, hlc, hm⟩ := open_W (hval 0 _ v0 rfl rfl) h0
  obtain ⟨B, gb, d, rfl, hB2, hld, hmd⟩ := open_W (hval 1 _ v1 rfl rfl) h1
  have hE := of_laid hL
  clear hA0 hval0
  simp only [List.append_nil] at hW'
  refine (comb7_walk A B ga gb ga.length gb.length c d W hE hA2 rfl hlc hm hB2 rfl hld hmd).mono fun e W' ⟨he, hb⟩ => ?_
  subst he
  exact ⟨_, rfl, law_post (tb := 4) x_laid (by decide +kernel) rfl rfl (by kernel_rfl) Tryz.underlying4 hW' hb⟩

/-- The row's statement. -/
theorem oidsetsCombine_row : Rows.OidsetsCombineSaid :=
  OpenClaim.holds_of_wide 5 Tryz.f5 rfl rfl rfl rfl rfl rfl rfl ⟨rfl, rfl, rfl, rfl, rfl⟩ rfl rfl rfl rfl rfl (by kernel_rfl) Tryz.func5 (by kernel_rfl)
    (of_decide_eq_true (by kernel_rfl)) (by unfold Func.isWrapper; first | (rw [if_pos (by decide +kernel)]; kernel_rfl) | (rw [if_neg (by decide +kernel)]; exact ⟨rfl, rfl⟩))
    (fun os started H enc _ => oidsetsCombine_lifted os started H enc)

/-- The statement: the card. -/
theorem oidsetsCombine_holds : Rows.OidsetsCombineCardSaid :=
  Claim7.holds_tied_plain_at .later [] [.data, .data, .data, .data, .sentinel, .sentinel, .pinned] true Rows.oidsetsCombineCard.stood.harness true
    oidsetsCombine_row (fun _ h => by cases h) (by kernel_rfl) (fun _ h => by cases h) oidsetsCombine_row_tie rfl ⟨rfl, rfl⟩ (by kernel_rfl) rfl
    (fun f fn hf hfn => by
      obtain rfl : f = 5 := Option.some.inj ((show Tryz.prog.funcNamed "vidimus/vidimuslaw07.OidsetsCombine" = some 5 by kernel_rfl).symm.trans hf) |>.symm
      obtain rfl : fn = Tryz.f5 := (Option.some.inj (Tryz.func5.symm.trans hfn)).symm
      exact ⟨by kernel_rfl, fun j t ht => by
        rw [Tryz.params5] at ht
        have hm : t ∈ Tryz.f5.params.toList := by rw [Tryz.params5]; exact Array.mem_toList_iff.2 (Array.mem_of_getElem? ht)
        have hall : (Tryz.f5.params.toList.all fun u => !Tryz.prog.wantsStandIn u) = true := by kernel_rfl
        exact (show Tryz.prog.wantsStandIn t = false by simpa using List.all_eq_true.1 hall t hm)⟩)
    (by kernel_rfl)
end Go.Proofs.YtaiiihdckdjpoaaGreatDoor
