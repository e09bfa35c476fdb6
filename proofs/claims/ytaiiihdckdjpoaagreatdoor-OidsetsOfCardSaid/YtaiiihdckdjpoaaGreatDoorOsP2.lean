/-
  Layer 7, the statement OidsetsOf: Of returns the set of any list, whatever its order, or the error.
  Conditions: the package-level variables that the row lists hold what the program's text lays (the card ties them).
-/
import Derived.Test.YtaiiihdckdjpoaaGreatDoorOgM
namespace Go.Proofs.YtaiiihdckdjpoaaGreatDoor
open Go.RowKit Go.Shelf

theorem of_at7 (A : Option Addr) (L : List Od) (n c : Nat) (R : List Od) (k : Nat) (W : World) (hA : Ino W A L n c) (hm : n ≤ 256) (hv : ValO L) (hR : ofR L = R) (hk : R.length = k) :
    Calls Tryz.prog 24 #[.slice A n c] W fun e w' => ∃ A', e = .returned (.tuple #[.slice A' k k, .int .i64 0]) ∧ Hid (Ino w' A' R k k) ∧ Hid (Below W.heap.size W w') := by
  subst hR
  refine (of_setany A L n c W hA.rd hA.ln (by omega)).mono fun e w' h => ?_
  obtain ⟨A', N, he, hN, hr, hb⟩ := of_set hv (Nat.le_trans (dis_le L) (by rw [hA.ln]; exact hm)) h
  obtain rfl : N = k := hN.symm.trans hk
  exact ⟨A', he, Lib.hid ⟨hr, hk, Nat.le_refl _, by have := ofR_le L; rw [hA.ln] at this; unfold maxLen; omega⟩, Lib.hid hb⟩
theorem of_bad7 (A : Option Addr) (L : List Od) (n c : Nat) (W : World) (hA : Ino W A L n c) (hm : n ≤ 256) (hv : okA L = false) :
    Calls Tryz.prog 24 #[.slice A n c] W fun e w' => e = .returned (.tuple #[.slice none 0 0, .int .i64 1]) ∧ Hid (Below W.heap.size W w') := by
  refine (of_setany A L n c W hA.rd hA.ln (by omega)).mono fun e w' h => ?_
  unfold GiveOf at h
  rw [if_pos hv] at h
  exact ⟨h.1, Lib.hid h.2⟩
set_option linter.unusedSimpArgs false in
set_option linter.unusedVariables false in
set_option maxHeartbeats 4000000 in
set_option maxRecDepth 100000 in
theorem of7_long (A : Option Addr) (L : List Od) (n c : Nat) (w : World) (hE : Env w) (hA : Ino w A L n c) (hg : 30 < n) :
    Calls Tryz.prog 4 #[.slice A n c] w fun e w' => e = .returned (.bool true) ∧ Below w.heap.size w w' := by
  have K0 := ka7 (Lib.hid (St7.start hE)) (Lib.hid hA)
  have IA := Lib.hid hA
  have HLN := Lib.hid hA.ln
  clear hE hA
  have hgi : (30 : Int) < (n : Int) := by omega
  go_enter Tryz.func4, Tryz.ntmps4
  go_upto_region 1 with fail
  go_wp2_with fail
  refine (lives_at7 _ K0.out.e).mono ?_
  rintro e w1 ⟨rfl, hb⟩
  have K1 := kp7 K0 hb
  clear hb K0
  go_wp2_with fail
  go_ret
  exact ⟨rfl, K1.out.b⟩
set_option linter.unusedSimpArgs false in
set_option linter.unusedVariables false in
set_option maxHeartbeats 4000000 in
set_option maxRecDepth 100000 in
theorem of7_bad (A : Option Addr) (L : List Od) (n c : Nat) (w : World) (hE : Env w) (hA : Ino w A L n c) (hg : n ≤ 30) (hv : okA L = false) :
    Calls Tryz.prog 4 #[.slice A n c] w fun e w' => e = .returned (.bool true) ∧ Below w.heap.size w w' := by
  have K0 := ka7 (Lib.hid (St7.start hE)) (Lib.hid hA)
  have IA := Lib.hid hA
  have HLN := Lib.hid hA.ln
  clear hE hA
  have hgi : ¬ (30 : Int) < (n : Int) := by omega
  have HV := Lib.hid hv
  clear hv
  go_enter Tryz.func4, Tryz.ntmps4
  go_upto_region 1 with fail
  go_wp2_with fail
  refine (of_bad7 A L n c _ (K0.out.r (A, L, n, c) (by simp)) (by omega) HV.out).mono ?_
  rintro e w1 ⟨rfl, hb⟩
  have K1 := kp7 K0 hb
  clear hb K0
  go_upto_region 5 with fail
  go_loopw [5] (fun i wr => ∃ p : Nat, p ≤ n ∧ i = .int .i64 (p : Int) ∧ (∀ o ∈ L.take p, chkO o.1 o.2 = 0) ∧ St7 w [(A, L, n, c)] wr) (fun i _ => n - (intOf i).toNat)
  case atStart => exact ⟨0, Nat.zero_le _, rfl, (fun o h => absurd h (by simp)), K1.out⟩
  case round =>
    obtain ⟨p, hp, rfl, hall, hst⟩ := hrel
    have HALL := Lib.hid hall
    have KL := Lib.hid hst
    clear hall hst K1
    rcases Nat.lt_or_ge p n with hlt | hge
    · have hpl : p < L.length := by rw [HLN.out]; exact hlt
      obtain ⟨b, off, hAe, hb, hr, ho⟩ := (KL.out.r (A, L, n, c) (by simp)).rd.at_ hpl
      dsimp only at hAe
      subst hAe
      have hl16 := ho.len
      have CK := Lib.hid (fun W => rcheck_any L[p].1 L[p].2 W ho)
      have HTK := Lib.hid (List.take_succ_eq_append_getElem hpl)
      have HNO : Hid (chkO L[p].1 L[p].2 ≠ 0 → okA L = false) := Lib.hid (fun h => by
        rw [Bool.eq_false_iff]
        intro h2
        exact h (((okA_val (KL.out.r (some ⟨b, off, none⟩, L, n, c) (by simp)).rd.2).1 h2).vd _ (List.getElem_mem hpl)))
      unfold GiveF at CK
      have HR := Lib.hid hr
      clear hr hb ho
      have hcz := chkO_01 L[p].1 L[p].2
      have HNX : Hid (chkO L[p].1 L[p].2 = 0 → ∀ o ∈ L.take (p + 1), chkO o.1 o.2 = 0) := Lib.hid (fun h o ho => by
        rw [HTK.out, List.mem_append, List.mem_singleton] at ho
        rcases ho with ho | rfl
        · exact HALL.out o ho
        · exact h)
      clear HTK
      generalize L[p].1 = x at *
      generalize L[p].2 = y at *
      rcases hcz with hcz | hcz
      · have HN2 := Lib.hid (HNX.out hcz)
        rw [hcz] at CK
        clear HNX HNO hcz
        go_wp2_with (refine wpList_loadO rfl (.tmp 30) rfl rfl HR.out hl16 ?_)
        refine (CK.out _).mono ?_
        rintro e w3 ⟨rfl, hb3⟩
        have K3 := kp7 KL (Lib.hid hb3)
        clear hb3 KL HR
        go_wp2_with fail
        exact ⟨⟨p + 1, by omega, by go_num, HN2.out, K3.out⟩, by simp [intOf]; omega⟩
      · rw [hcz] at CK
        clear HNX HNO hcz
        go_wp2_with (refine wpList_loadO rfl (.tmp 30) rfl rfl HR.out hl16 ?_)
        refine (CK.out _).mono ?_
        rintro e w3 ⟨rfl, hb3⟩
        have K3 := kp7 KL (Lib.hid hb3)
        clear hb3 KL HR
        go_wp2_with fail
        refine (same_none none none 0 0 0 1 _ (by decide)).mono ?_
        rintro e w' ⟨rfl, rfl⟩
        go_wp2_with fail
        refine (lives_at7 _ K3.out.e).mono ?_
        rintro e w4 ⟨rfl, hb⟩
        have K4 := kp7 K3 hb
        clear hb K3
        go_wp2_with fail
        go_ret
        exact ⟨rfl, K4.out.b⟩
    · obtain rfl : p = n := by omega
      exfalso
      have h2 : okA L = true := by
        rw [List.take_of_length_le (by rw [HLN.out]; exact Nat.le_refl _)] at HALL
        unfold okA
        rw [List.all_eq_true]
        intro o ho
        have := HALL.out o ho
        simp [this]
      rw [HV.out] at h2
      cases h2
set_option linter.unusedSimpArgs false in
set_option linter.unusedVariables false in
set_option maxHeartbeats 4000000 in
set_option maxRecDepth 100000 in
theorem of7_ok (A : Option Addr) (L : List Od) (n c : Nat) (w : World) (hE : Env w) (hA : Ino w A L n c) (hg : n ≤ 30) (hv : okA L = true) :
    Calls Tryz.prog 4 #[.slice A n c] w fun e w' => e = .returned (.bool true) ∧ Below w.heap.size w w' := by
  have K0 := ka7 (Lib.hid (St7.start hE)) (Lib.hid hA)
  have IA := Lib.hid hA
  have HLN := Lib.hid hA.ln
  clear hE hA
  have hgi : ¬ (30 : Int) < (n : Int) := by omega
  have HV : Hid (ValO L) := Lib.hid ((okA_val IA.out.rd.2).1 hv)
  obtain ⟨R, hR⟩ : ∃ R, ofR L = R := ⟨_, rfl⟩
  have HR0 := Lib.hid hR
  obtain ⟨k, hk⟩ : ∃ k, R.length = k := ⟨_, rfl⟩
  have HK := Lib.hid hk
  have hkn : k ≤ n := by rw [← hk, ← hR, ← HLN.out]; exact ofR_le L
  have HRV : Hid (ValO L.reverse) := Lib.hid ⟨fun o ho => HV.out.ok o (List.mem_reverse.1 ho), fun o ho => HV.out.vd o (List.mem_reverse.1 ho)⟩
  have HRR : Hid (ofR L.reverse = R) := Lib.hid (by rw [← hR]; exact (ofR_set HRV.out).uniq (ofR_set HV.out) fun z => by rw [mem_ofR HRV.out, mem_ofR HV.out, List.mem_reverse])
  have HSR : Hid (SetO R) := Lib.hid (by rw [← hR]; exact ofR_set HV.out)
  have HSS : Hid (ofR R = R) := Lib.hid (ofR_self HSR.out)
  clear hv hR hk
  go_enter Tryz.func4, Tryz.ntmps4
  go_upto_region 1 with fail
  go_wp2_with fail
  refine (of_at7 A L n c R k _ (K0.out.r (A, L, n, c) (by simp)) (by omega) HV.out HR0.out HK.out).mono ?_
  rintro e w1 ⟨A1, rfl, hi, hb⟩
  have K1 := kp7 K0 hb
  clear hb K0
  have K1n := ka7 K1 hi
  clear hi K1
  have K1 := K1n
  clear K1n
  go_upto_region 5 with fail
  go_loopw [5] (fun i wr => ∃ p : Nat, p ≤ n ∧ i = .int .i64 (p : Int) ∧ (∀ o ∈ L.take p, chkO o.1 o.2 = 0) ∧ St7 w [(A1, R, k, k), (A, L, n, c)] wr) (fun i _ => n - (intOf i).toNat)
  case atStart => exact ⟨0, Nat.zero_le _, rfl, (fun o h => absurd h (by simp)), K1.out⟩
  case round =>
    obtain ⟨p, hp, rfl, hall, hst⟩ := hrel
    have HALL := Lib.hid hall
    have KL := Lib.hid hst
    clear hall hst K1
    rcases Nat.lt_or_ge p n with hlt | hge
    · have hpl : p < L.length := by rw [HLN.out]; exact hlt
      obtain ⟨b, off, hAe, hb, hr, ho⟩ := (KL.out.r (A, L, n, c) (by simp)).rd.at_ hpl
      dsimp only at hAe
      subst hAe
      have hl16 := ho.len
      have CK := Lib.hid (fun W => rcheck_any L[p].1 L[p].2 W ho)
      have HTK := Lib.hid (List.take_succ_eq_append_getElem hpl)
      have HNO : Hid (chkO L[p].1 L[p].2 ≠ 0 → okA L = false) := Lib.hid (fun h => by
        rw [Bool.eq_false_iff]
        intro h2
        exact h (((okA_val (KL.out.r (some ⟨b, off, none⟩, L, n, c) (by simp)).rd.2).1 h2).vd _ (List.getElem_mem hpl)))
      unfold GiveF at CK
      have HR := Lib.hid hr
      clear hr hb ho
      have hcz := chkO_01 L[p].1 L[p].2
      have HNX : Hid (chkO L[p].1 L[p].2 = 0 → ∀ o ∈ L.take (p + 1), chkO o.1 o.2 = 0) := Lib.hid (fun h o ho => by
        rw [HTK.out, List.mem_append, List.mem_singleton] at ho
        rcases ho with ho | rfl
        · exact HALL.out o ho
        · exact h)
      clear HTK
      generalize L[p].1 = x at *
      generalize L[p].2 = y at *
      rcases hcz with hcz | hcz
      · have HN2 := Lib.hid (HNX.out hcz)
        rw [hcz] at CK
        clear HNX HNO hcz
        go_wp2_with (refine wpList_loadO rfl (.tmp 30) rfl rfl HR.out hl16 ?_)
        refine (CK.out _).mono ?_
        rintro e w3 ⟨rfl, hb3⟩
        have K3 := kp7 KL (Lib.hid hb3)
        clear hb3 KL HR
        go_wp2_with fail
        exact ⟨⟨p + 1, by omega, by go_num, HN2.out, K3.out⟩, by simp [intOf]; omega⟩
      · exfalso
        have h2 := HNO.out (by rw [hcz]; decide)
        rw [(okA_val IA.out.rd.2).2 HV.out] at h2
        cases h2
    · obtain rfl : p = n := by omega
      clear HALL
      go_wp2_with fail
      refine (giveK_at (rof_any A L p c _ (KL.out.r (A, L, p, c) (by simp)) (by omega)) ((congrArg List.length HR0.out).trans HK.out)).mono ?_
      rintro e w5 ⟨A2, c2, rfl, hi, hb⟩
      rw [HR0.out] at hi
      have K5n := kp7 KL hb
      have K5 := ka7 K5n hi
      clear hi hb KL K5n
      go_upto_region 12 with fail
      go_loopw [7, 8] (fun v i wx => ∃ q : Nat, q ≤ p ∧ i = .int .i64 ((p : Int) - 1 - (q : Int)) ∧ PO w5.heap.size (L.reverse.take q) v wx ∧ Below w5.heap.size w5 wx) (fun _ i _ => (intOf i + 1).toNat)
      case atStart => exact ⟨0, Nat.zero_le _, by simp, PO.new w5, Below.refl _ _⟩
      case round =>
        obtain ⟨q, hq, rfl, hpo, hbl⟩ := hrel
        have BL := Lib.hid hbl
        have PK := Lib.hid hpo
        obtain ⟨Ak, ck, rfl, hk1, hk2, hrk, -⟩ := hpo.form
        have HRK := Lib.hid hrk
        have HK1 := Lib.hid hk1
        have HK2 := Lib.hid hk2
        have hkq : (L.reverse.take q).length = q := by rw [List.length_take, List.length_reverse, HLN.out]; omega
        clear hbl hpo hrk hk1 hk2
        rcases Nat.lt_or_ge q p with hlt | hge
        · obtain ⟨j, hj⟩ : ∃ j, p - 1 - q = j := ⟨_, rfl⟩
          have HJ := Lib.hid hj
          have hji : (p : Int) - 1 - (q : Int) = (j : Int) := by omega
          have hjp : j < p := by omega
          have hjl : j < L.length := by rw [HLN.out]; exact hjp
          obtain ⟨b, off, hAe, hb, hr, ho⟩ := ((K5.out.r (A, L, p, c) (by simp)).below BL.out).rd.at_ hjl
          dsimp only at hAe
          subst hAe
          have HOO := Lib.hid ho
          have hl16 := ho.len
          have HRX := Lib.hid hr
          have HTK : Hid (L.reverse.take (q + 1) = L.reverse.take q ++ [(L[j].1, L[j].2)]) := Lib.hid (by
            rw [List.take_succ_eq_append_getElem (by rw [List.length_reverse, HLN.out]; omega), List.getElem_reverse]
            congr 2
            simp only [HLN.out, HJ.out])
          generalize L[j].1 = x at *
          generalize L[j].2 = y at *
          generalize L.reverse.take q = K at *
          have HKQ := Lib.hid hkq
          rw [HKQ.out] at HK1 PK ⊢
          obtain ⟨v2, w7, hrun, hpo7, hb7⟩ := PK.out.push (by rw [HKQ.out]; omega) HOO.out
          have HRUN := Lib.hid hrun
          have P7 := Lib.hid hpo7
          have B7 := Lib.hid (BL.out.trans hb7)
          clear hj hkq hrun hpo7 hb7 hr hb ho PK BL HRK
          rw [hji]
          have hj0 : (0 : Int) ≤ (j : Int) := by omega
          go_wp2_with (first
            | (refine wpList_loadO rfl (.tmp 52) rfl rfl HRX.out hl16 ?_)
            | (refine wpList_buildO rfl 53 rfl rfl hl16 ?_)
            | (at_builtin; refine wpList_appO rfl _ _ _ _ rfl _ _ rfl rfl HRUN.out ?_))
          exact ⟨⟨q + 1, by omega, by have := HJ.out; congr 1 <;> omega, by rw [HTK.out]; exact P7.out, B7.out⟩, by simp [intOf] <;> omega⟩
        · obtain rfl : q = p := by omega
          have hall : L.reverse.take q = L.reverse := List.take_of_length_le (by rw [List.length_reverse, HLN.out]; exact Nat.le_refl _)
          rw [hall] at HRK HK1 hkq ⊢
          have HKQ := Lib.hid hkq
          rw [HKQ.out] at HK1 ⊢
          have HIN : Hid (Ino wr Ak L.reverse q ck) := Lib.hid ⟨HRK.out, HKQ.out, HK1.out, HK2.out⟩
          have K6n := kp7 K5 BL
          have K6 := ka7 K6n HIN
          clear hall hkq HRK BL PK K5 K6n HIN HKQ
          have hqi : (q : Int) - 1 - (q : Int) = -1 := by omega
          rw [hqi]
          go_wp2_with fail
          refine (of_at7 Ak L.reverse q ck R k _ (K6.out.r (Ak, L.reverse, q, ck) (by simp)) (by omega) HRV.out HRR.out HK.out).mono ?_
          rintro e w7 ⟨A3, rfl, hi, hb⟩
          have K7 := kp7 K6 hb
          clear hb K6
          have K7n := ka7 K7 hi
          clear hi K7
          have K7 := K7n
          clear K7n
          go_wp2_with fail
          refine (of_at7 A2 R k c2 R k _ (K7.out.r (A2, R, k, c2) (by simp)) (by omega) HSR.out.val HSS.out HK.out).mono ?_
          rintro e w8 ⟨A4, rfl, hi, hb⟩
          have K8 := kp7 K7 hb
          clear hb K7
          have K8n := ka7 K8 hi
          clear hi K8
          have K8 := K8n
          clear K8n
          go_wp2_with fail
          refine (same_at7 A1 A2 R k c2 _ (K8.out.r (A1, R, k, k) (by simp)) (K8.out.r (A2, R, k, c2) (by simp)) (by omega)).mono ?_
          rintro e w9 ⟨rfl, hb⟩
          have K9 := kp7 K8 hb
          clear hb K8
          go_wp2_with fail
          refine (same_at7 A3 A2 R k c2 _ (K9.out.r (A3, R, k, k) (by simp)) (K9.out.r (A2, R, k, c2) (by simp)) (by omega)).mono ?_
          rintro e w10 ⟨rfl, hb⟩
          have K10 := kp7 K9 hb
          clear hb K9
          go_wp2_with fail
          refine (same_at7 A4 A2 R k c2 _ (K10.out.r (A4, R, k, k) (by simp)) (K10.out.r (A2, R, k, c2) (by simp)) (by omega)).mono ?_
          rintro e w11 ⟨rfl, hb⟩
          have K11 := kp7 K10 hb
          clear hb K10
          go_wp2_with fail
          refine (lives_at7 _ K11.out.e).mono ?_
          rintro e w12 ⟨rfl, hb⟩
          have K12 := kp7 K11 hb
          clear hb K11
          go_wp2_with fail
          go_ret
          exact ⟨rfl, K12.out.b⟩
theorem of7_walk (A : Option Addr) (L : List Od) (n c : Nat) (w : World) (hE : Env w) (hA : Ino w A L n c) :
    Calls Tryz.prog 4 #[.slice A n c] w fun e w' => e = .returned (.bool true) ∧ Below w.heap.size w w' := by
  rcases Nat.lt_or_ge 30 n with h1 | h1
  · exact of7_long A L n c w hE hA h1
  · cases hv : okA L
    · exact of7_bad A L n c w hE hA h1 hv
    · exact of7_ok A L n c w hE hA h1 hv

open Go.ChangeShapes Go.WideShapes Go.ChangeAt Go.WideMaps Go.WideElems
set_option maxRecDepth 100000 in
theorem oidsetsOf_lifted (os : Os) (started : os.Started) (H : Type) (enc : TypeId × Value → H) :
    ReturnsInHanded {} Tryz.checked os 4 .any (fun w args => (Rows.oidsetsOfSpec.pre enc Tryz.prog Tryz.f4 [] false w args ∧ laidMetH Tryz.prog laidL w) ∧ sizedMet enc Tryz.prog Tryz.f4 (OpenSpec.ofChange Rows.oidsetsOfSpec) false w args)
      (Rows.oidsetsOfSpec.post enc Tryz.prog Tryz.f4 false true false false) := by
  refine returnsInHanded_of_change_and (C := Tryz.checked) (X := fun w _ => laidMetH Tryz.prog laidL w) (fun _ _ _ hh h => h.of_heap hh) x_own started (by kernel_rfl) Tryz.func4
    (ChangeSpec.witness_shaped (enc := enc) (C := Tryz.checked) (os := os) (X := fun w _ => laidMetH Tryz.prog laidL w) false (World.laidAll Tryz.prog os laidL) #[.slice none 0 0] 8 (World.laidAll_os _ _ _) (World.shaped_of_ZipB (by kernel_rfl) (by kernel_rfl)) (by kernel_rfl) (by kernel_rfl) (by kernel_rfl) (door_met os _)) ?_
  intro W base args ds gs before hval0 hW _ _ hL _
  have hval : ∀ (j : Nat) t v, Tryz.f4.params[j]? = some t → args[j]? = some v → Value.okWide Tryz.prog W .any base t v := hval0
  have hW' := hW
  obtain ⟨p, q, hA0, hV, rfl, hfz, hnd⟩ := hW
  have hA : DataW.TrodAll enc Tryz.prog W 0 (fun _ => true) true Tryz.f4.params.toList args.toList ds p := hA0
  rw [Tryz.params4] at hA hval
  obtain ⟨v0, d0, rfl, rfl, h0⟩ := trodAll_one hA
  obtain ⟨rfl, rfl⟩ := trodVars_none hV
  obtain ⟨A, L, c, rfl, hA2⟩ := open_oids (hval 0 _ v0 rfl rfl) h0
  have hE := of_laid hL
  clear hA0 hval0
  simp only [List.append_nil] at hW'
  refine (of7_walk A L L.length c W hE hA2).mono fun e W' ⟨he, hb⟩ => ?_
  subst he
  exact ⟨_, rfl, law_post (tb := 4) x_laid (by decide +kernel) rfl rfl (by kernel_rfl) Tryz.underlying4 hW' hb⟩

/-- The row's statement. -/
theorem oidsetsOf_row : Rows.OidsetsOfSaid :=
  OpenClaim.holds_of_wide 4 Tryz.f4 rfl rfl rfl rfl rfl rfl rfl ⟨rfl, rfl, rfl, rfl, rfl⟩ rfl rfl rfl rfl rfl (by kernel_rfl) Tryz.func4 (by kernel_rfl)
    (of_decide_eq_true (by kernel_rfl)) (by unfold Func.isWrapper; first | (rw [if_pos (by decide +kernel)]; kernel_rfl) | (rw [if_neg (by decide +kernel)]; exact ⟨rfl, rfl⟩))
    (fun os started H enc _ => oidsetsOf_lifted os started H enc)

/-- The statement: the card. -/
theorem oidsetsOf_holds : Rows.OidsetsOfCardSaid :=
  Claim7.holds_tied_plain_at .later [] [.data, .data, .data, .data, .sentinel, .sentinel, .pinned] true Rows.oidsetsOfCard.stood.harness true
    oidsetsOf_row (fun _ h => by cases h) (by kernel_rfl) (fun _ h => by cases h) oidsetsOf_row_tie rfl ⟨rfl, rfl⟩ (by kernel_rfl) rfl
    (fun f fn hf hfn => by
      obtain rfl : f = 4 := Option.some.inj ((show Tryz.prog.funcNamed "vidimus/vidimuslaw07.OidsetsOf" = some 4 by kernel_rfl).symm.trans hf) |>.symm
      obtain rfl : fn = Tryz.f4 := (Option.some.inj (Tryz.func4.symm.trans hfn)).symm
      exact ⟨by kernel_rfl, fun j t ht => by
        rw [Tryz.params4] at ht
        have hm : t ∈ Tryz.f4.params.toList := by rw [Tryz.params4]; exact Array.mem_toList_iff.2 (Array.mem_of_getElem? ht)
        have hall : (Tryz.f4.params.toList.all fun u => !Tryz.prog.wantsStandIn u) = true := by kernel_rfl
        exact (show Tryz.prog.wantsStandIn t = false by simpa using List.all_eq_true.1 hall t hm)⟩)
    (by kernel_rfl)
end Go.Proofs.YtaiiihdckdjpoaaGreatDoor
