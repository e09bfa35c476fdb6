/-
  Layer 7: contract of Insert of the reference.
  Conditions: the OIDs' cells are in their kinds.
-/
import Derived.Test.YtaiiihdckdjpoaaGreatDoorOgG
namespace Go.Proofs.YtaiiihdckdjpoaaGreatDoor
open Go.RowKit

set_option linter.unusedSimpArgs false in
set_option maxHeartbeats 4000000 in
set_option maxRecDepth 100000 in
theorem rinsert_any (A : Option Addr) (L : List Od) (n c x0 : Nat) (k0 : List Nat) (w : World) (hA : Ino w A L n c) (hn : n ≤ 100000) (ho : OkO x0 k0) :
    Calls Tryz.prog 51 #[.slice A n c, oV x0 k0] w fun e w' => ∃ A' c', e = .returned (.slice A' (insR L (x0, k0)).length c') ∧ Ino w' A' (insR L (x0, k0)) (insR L (x0, k0)).length c' ∧ Below w.heap.size w w' := by
  obtain ⟨w1, hw1⟩ : ∃ w1, w.alloc (.cells (oc x0 k0).toArray 26) = w1 := ⟨_, rfl⟩
  have hb1 : Below w.heap.size w w1 := by rw [← hw1]; exact bel1 _ _
  obtain ⟨g, hg⟩ : ∃ g, w.heap.size = g := ⟨_, rfl⟩
  have hk1 : Bk w1 g 26 (oc x0 k0) := by rw [← hw1, ← hg]; exact Bk.new w 26 (oc x0 k0)
  have hol := ho.len
  have HO := Lib.hid ho
  have IA1 := Lib.hid (hA.below hb1)
  have B1 := Lib.hid hb1
  have K1 := Lib.hid hk1
  have HW1 := Lib.hid hw1
  have HG := Lib.hid hg
  obtain ⟨R, hR⟩ : ∃ R, insR L (x0, k0) = R := ⟨_, rfl⟩
  have HR := Lib.hid hR
  rw [hR]
  clear hA hb1 hk1 hw1 hg ho hR
  go_enter Tryz.func51, Tryz.ntmps51
  go_wp2_with (refine wpList_load25 rfl (.tmp 3) rfl rfl (Bk.new w 26 (oc x0 k0)) hol ?_)
  rw [HW1.out]
  refine (rhas_any A L n c x0 k0 w1 IA1.out.rd IA1.out.ln hn HO.out).mono ?_
  rintro e W1 ⟨rfl, hb⟩
  have IA := Lib.hid (IA1.out.below hb)
  have B0 := Lib.hid (B1.out.trans (hb.mono B1.out.size))
  have KG := Lib.hid (K1.out.below hb K1.out.lt)
  have HGE := HG
  clear hb IA1 B1 K1 HW1
  rw [HG.out]
  by_cases hin : (x0, k0) ∈ L
  · have hd : decide ((x0, k0) ∈ L) = true := decide_eq_true hin
    have HE : Hid (R = L) := Lib.hid (by rw [← HR.out]; unfold insR; rw [if_pos hin])
    clear hin
    go_wp2_with fail
    go_ret
    rw [HE.out]
    exact ⟨A, c, by rw [IA.out.ln]; rfl, ⟨IA.out.rd, rfl, by rw [IA.out.ln]; exact IA.out.lc, IA.out.cm⟩, B0.out⟩
  have hd : decide ((x0, k0) ∈ L) = false := decide_eq_false hin
  have HNI := Lib.hid hin
  rw [hd]
  clear hin hd
  go_upto_region 4 with fail
  go_loopw [5] (fun i wr => ∃ p : Nat, p ≤ n ∧ i = .int .i64 (p : Int) ∧ (∀ x ∈ L.take p, lsO (x0, k0) x = true) ∧ Below W1.heap.size W1 wr) (fun i _ => n - (intOf i).toNat)
  case atStart => exact ⟨0, Nat.zero_le _, rfl, by simp, Below.refl _ _⟩
  case round =>
    obtain ⟨p, hp, rfl, hall, hbl⟩ := hrel
    have HALL := Lib.hid hall
    have BL := Lib.hid hbl
    clear hall hbl
    by_cases hlt : p < n
    · have hpl : p < L.length := by rw [IA.out.ln]; exact hlt
      have hlb : decide ((p : Int) < (n : Int)) = true := decide_eq_true (by omega)
      obtain ⟨b, off, hAe, hb, hr, ho⟩ := IA.out.rd.at_ hpl
      subst hAe
      have hl_m := ho.len
      have HQ := Lib.hid (show L[p] = (L[p].1, L[p].2) from rfl)
      generalize hm1 : L[p].1 = m at *
      generalize hk1 : L[p].2 = k at *
      have HX := Lib.hid hr
      have HXB := Lib.hid hb
      have HXE := Lib.hid (show L[p] = (m, k) from HQ.out)
      have hcm := fun W => rcompare_any m k x0 k0 W ho HO.out
      obtain ⟨y, hy⟩ : ∃ y, cmpO m k x0 k0 = y := ⟨_, rfl⟩
      have HY := Lib.hid hy
      rw [hy] at hcm
      have HCM := Lib.hid hcm
      clear hm1 hk1 HQ hb hr ho hcm hy
      go_upto_region 4 with fail
      obtain ⟨wd, hwd⟩ : ∃ y, wr.drew = y := ⟨_, rfl⟩
      have hbd : Below wr.heap.size wr wd := by rw [← hwd]; exact ⟨rfl, rfl, rfl, Nat.le_refl _, fun _ _ => rfl⟩
      have BLq := Lib.hid (BL.out.trans (hbd.mono BL.out.size))
      clear BL
      have BL := BLq
      clear BLq
      refine wp_region_held_drew (S := fun W => Below W1.heap.size W1 W) (by kernel_rfl) (by rw [hwd]; exact BL.out) (fun hS => ?_)
      rw [hwd] at hS ⊢
      clear hwd hbd
      refine wpAnyH_take (i := 0) (oi := ⟨some 11, _, _, _, _, _⟩) (v := .int .i64 (p : Int)) rfl (by kernel_rfl) (by kernel_rfl) (by kernel_rfl) (fun _ _ _ h => h) (Or.inl ⟨by rfl, fun w hSw => by (try dsimp only at hSw); go_simp <;> first | omega | (intro hx; exact absurd hx (by omega))⟩) hS ?_
      simp only [Act.put, List.setIfInBounds_toArray, List.set_cons_zero, List.set_cons_succ]
      refine wpAnyH_take (i := 1) (oi := ⟨some 12, _, _, _, _, _⟩) (v := .slice (some ⟨b, off, none⟩) n c) rfl (by kernel_rfl) (by kernel_rfl) (by kernel_rfl) (fun _ _ _ h => h) (Or.inl ⟨by rfl, fun w hSw => by (try dsimp only at hSw); go_simp <;> first | omega | (intro hx; exact absurd hx (by omega))⟩) hS ?_
      simp only [Act.put, List.setIfInBounds_toArray, List.set_cons_zero, List.set_cons_succ]
      refine wpAnyH_take (i := 2) (oi := ⟨some 13, _, _, _, _, _⟩) (v := .int .i64 (n : Int)) rfl (by kernel_rfl) (by kernel_rfl) (by kernel_rfl) (fun _ _ _ h => h) (Or.inl ⟨by rfl, fun w hSw => by (try dsimp only at hSw); go_simp <;> first | omega | (intro hx; exact absurd hx (by omega))⟩) hS ?_
      simp only [Act.put, List.setIfInBounds_toArray, List.set_cons_zero, List.set_cons_succ]
      refine wpAnyH_take (i := 3) (oi := ⟨some 14, _, _, _, _, _⟩) (v := .bool true) rfl (by kernel_rfl) (by kernel_rfl) (by kernel_rfl) (fun _ _ _ h => h) (Or.inl ⟨by rfl, fun w hSw => by (try dsimp only at hSw); go_simp <;> first | omega | (intro hx; exact absurd hx (by omega))⟩) hS ?_
      simp only [Act.put, List.setIfInBounds_toArray, List.set_cons_zero, List.set_cons_succ]
      refine wpAnyH_take (i := 4) (oi := ⟨some 15, _, _, _, _, _⟩) (v := .bool true) rfl (by kernel_rfl) (by kernel_rfl) (by kernel_rfl) (fun _ _ _ h => h) (Or.inl ⟨by rfl, fun w hSw => by (try dsimp only at hSw); go_simp <;> first | omega | (intro hx; exact absurd hx (by omega))⟩) hS ?_
      simp only [Act.put, List.setIfInBounds_toArray, List.set_cons_zero, List.set_cons_succ]
      refine wpAnyH_take (i := 5) (oi := ⟨some 16, _, _, _, _, _⟩) (v := .slice (some ⟨b, off, none⟩) n c) rfl (by kernel_rfl) (by kernel_rfl) (by kernel_rfl) (fun _ _ _ h => h) (Or.inl ⟨by rfl, fun w hSw => by (try dsimp only at hSw); go_simp <;> first | omega | (intro hx; exact absurd hx (by omega))⟩) hS ?_
      simp only [Act.put, List.setIfInBounds_toArray, List.set_cons_zero, List.set_cons_succ]
      refine wpAnyH_take (i := 6) (oi := ⟨some 17, _, _, _, _, _⟩) (v := .int .i64 (p : Int)) rfl (by kernel_rfl) (by kernel_rfl) (by kernel_rfl) (fun _ _ _ h => h) (Or.inl ⟨by rfl, fun w hSw => by (try dsimp only at hSw); go_simp <;> first | omega | (intro hx; exact absurd hx (by omega))⟩) hS ?_
      simp only [Act.put, List.setIfInBounds_toArray, List.set_cons_zero, List.set_cons_succ]
      refine wpAnyH_take (i := 7) (oi := ⟨some 18, _, _, _, _, _⟩) (v := .pointer (some ⟨b, off + p * 17, none⟩)) rfl (by kernel_rfl) (by kernel_rfl) (by kernel_rfl) (fun _ _ _ h => h) (Or.inl ⟨by rfl, fun w hSw => by (try dsimp only at hSw); go_simp <;> first | omega | (intro hx; exact absurd hx (by omega))⟩) hS ?_
      simp only [Act.put, List.setIfInBounds_toArray, List.set_cons_zero, List.set_cons_succ]
      refine wpAnyH_take (i := 8) (oi := ⟨some 19, _, _, _, _, _⟩) (v := oV m k) rfl (by kernel_rfl) (by kernel_rfl) (by kernel_rfl) (fun _ _ _ h => h) (yieldsIf_load_mid (by rfl) 26 (.tmp 18) rfl (b) (off + p * 17) rfl (oc m k) _ (fun W h => range_below HX.out HXB.out h) Tryz.underlying26 rfl (by rw [oc_length, hl_m]; exact info25)) hS ?_
      simp only [Act.put, List.setIfInBounds_toArray, List.set_cons_zero, List.set_cons_succ]
      refine wpAnyH_take (i := 9) (oi := ⟨some 20, _, _, _, _, _⟩) (v := oV x0 k0) rfl (by kernel_rfl) (by kernel_rfl) (by kernel_rfl) (fun _ _ _ h => h) (yieldsIf_load_mid (by rfl) 26 (.tmp 3) rfl (g) (0) rfl (oc x0 k0) _ (fun W h => range25 (KG.out.below h KG.out.lt)) Tryz.underlying26 rfl (by rw [oc_length, hol]; exact info25)) hS ?_
      simp only [Act.put, List.setIfInBounds_toArray, List.set_cons_zero, List.set_cons_succ]
      refine wpAnyH_ready (rs := [10]) (by kernel_rfl) (by simp) ?_
      refine AllReadyH.cons (o := _) rfl (fun K hK => ?_) (AllReadyH.nil)
      go_simp
      refine (HCM.out _).mono ?_
      rintro r w4 ⟨rfl, hb⟩
      have BLq := Lib.hid (BL.out.trans (hb.mono BL.out.size))
      clear BL hb
      have BL := BLq
      clear BLq
      refine hK.out _ _ BL.out (fun hS => ?_)
      clear hK K HCM
      (try simp only [Act.put, List.setIfInBounds_toArray, List.set_cons_zero, List.set_cons_succ])
      by_cases hneg : y < 0
      · have hyd : decide (y < 0) = true := decide_eq_true hneg
        refine wpAnyH_take (i := 11) (oi := ⟨some 22, _, _, _, _, _⟩) (v := .bool true) rfl (by kernel_rfl) (by kernel_rfl) (by kernel_rfl) (fun _ _ _ h => h) (Or.inl ⟨by rfl, fun w hSw => by (try dsimp only at hSw); go_simp <;> first | omega | (intro hx; exact absurd hx (by omega))⟩) hS ?_
        simp only [Act.put, List.setIfInBounds_toArray, List.set_cons_zero, List.set_cons_succ]
        refine wpAnyH_take (i := 12) (oi := ⟨some 23, _, _, _, _, _⟩) (v := .bool true) rfl (by kernel_rfl) (by kernel_rfl) (by kernel_rfl) (fun _ _ _ h => h) (Or.inl ⟨by rfl, fun w hSw => by (try dsimp only at hSw); go_simp <;> first | omega | (intro hx; exact absurd hx (by omega))⟩) hS ?_
        simp only [Act.put, List.setIfInBounds_toArray, List.set_cons_zero, List.set_cons_succ]
        refine wpAnyH_done (by kernel_rfl) ?_ _
        clear hS
        have HN : Hid (∀ x ∈ L.take (p + 1), lsO (x0, k0) x = true) := Lib.hid (by
          intro x hx
          rw [List.take_succ_eq_append_getElem hpl, List.mem_append, List.mem_singleton] at hx
          rcases hx with hx | rfl
          · exact HALL.out x hx
          · rw [HXE.out]; unfold lsO; simp only [HY.out]; exact decide_eq_true hneg)
        clear hneg
        go_wp2_with fail
        exact ⟨⟨p + 1, hlt, by go_num, HN.out, BL.out⟩, by simp [intOf]; omega⟩
      · have hyd : decide (y < 0) = false := decide_eq_false hneg
        refine wpAnyH_take (i := 11) (oi := ⟨some 22, _, _, _, _, _⟩) (v := .bool false) rfl (by kernel_rfl) (by kernel_rfl) (by kernel_rfl) (fun _ _ _ h => h) (Or.inl ⟨by rfl, fun w hSw => by (try dsimp only at hSw); go_simp <;> first | omega | (intro hx; exact absurd hx (by omega))⟩) hS ?_
        simp only [Act.put, List.setIfInBounds_toArray, List.set_cons_zero, List.set_cons_succ]
        refine wpAnyH_take (i := 12) (oi := ⟨some 23, _, _, _, _, _⟩) (v := .bool false) rfl (by kernel_rfl) (by kernel_rfl) (by kernel_rfl) (fun _ _ _ h => h) (Or.inl ⟨by rfl, fun w hSw => by (try dsimp only at hSw); go_simp <;> first | omega | (intro hx; exact absurd hx (by omega))⟩) hS ?_
        simp only [Act.put, List.setIfInBounds_toArray, List.set_cons_zero, List.set_cons_succ]
        refine wpAnyH_done (by kernel_rfl) ?_ _
        clear hS
        have HSTOP : Hid (∀ h : p < L.length, lsO (x0, k0) L[p] = false) := Lib.hid (by
          intro h
          rw [HXE.out]; unfold lsO; simp only [HY.out]; exact decide_eq_false hneg)
        clear hneg
        have HDN := Lib.hid (while_at (lsO (x0, k0)) L p (by rw [IA.out.ln]; exact hp) HALL.out HSTOP.out)
        have HRES : Hid (R = L.take p ++ [(x0, k0)] ++ L.drop p) := Lib.hid (by rw [← HR.out]; unfold insR; rw [if_neg HNI.out, HDN.out.1, HDN.out.2])
        obtain ⟨A2, s1, s2, hrd2⟩ := (IA.out.below BL.out).from_ p hp
        have st := slTO (some ⟨b, off, none⟩) n c p (by have := IA.out.lc; omega)
        have PE := PO.empty (B := W1.heap.size) w4 BL.out.size
        have hbe := bel1 w4 (.cells #[] 26)
        have RT := ((IA.out.below BL.out).rd.below hbe).take_ p
        obtain ⟨v1, w5, hrun1, hp1, hb1⟩ := PE.pushAll RT (by have := IA.out.ln; simp; omega) p c (by rw [List.length_take, IA.out.ln]; omega)
        have HRUN1 := Lib.hid hrun1
        have PK := Lib.hid hp1
        have BLq := Lib.hid ((BL.out.trans (hbe.mono BL.out.size)).trans (hb1.mono (Nat.le_refl _)))
        have HRD2 : Hid (RdO W1 A2 (L.drop p)) := Lib.hid (by
          obtain ⟨A3, s1', _, hrd3⟩ := IA.out.from_ p hp
          have e := (s1' W1).symm.trans (s1 W1)
          injection e with e1 _
          injection e1 with e2
          rw [← e2]; exact hrd3)
        clear BL PE hbe RT hrun1 hp1 hb1 hrd2 HDN HALL HSTOP
        have BL := BLq
        clear BLq
        go_upto_region 7 with (at_builtin; refine wpList_appO (o := ⟨some 30, _, _, _, _, _⟩) rfl _ _ _ _ rfl _ _ rfl rfl HRUN1.out ?_)
        obtain ⟨wd7, hwd⟩ : ∃ y, w5.drew = y := ⟨_, rfl⟩
        have hbd : Below w5.heap.size w5 wd7 := by rw [← hwd]; exact ⟨rfl, rfl, rfl, Nat.le_refl _, fun _ _ => rfl⟩
        have BLq := Lib.hid (BL.out.trans (hbd.mono BL.out.size))
        have PKq := Lib.hid (PK.out.below hbd)
        clear BL PK HRUN1
        have BL := BLq
        have PK := PKq
        clear BLq PKq
        refine wp_region_held_drew (S := fun W => Below W1.heap.size W1 W) (by kernel_rfl) (by rw [hwd]; exact BL.out) (fun hS => ?_)
        rw [hwd] at hS ⊢
        clear hwd hbd
        refine wpAnyH_take (i := 0) (oi := ⟨some 31, _, _, _, _, _⟩) (v := v1) rfl (by kernel_rfl) (by kernel_rfl) (by kernel_rfl) (fun _ _ _ h => h) (Or.inl ⟨by rfl, fun w hSw => by (try dsimp only at hSw); go_simp <;> first | omega | (intro hx; exact absurd hx (by omega))⟩) hS ?_
        simp only [Act.put, List.setIfInBounds_toArray, List.set_cons_zero, List.set_cons_succ]
        refine wpAnyH_take (i := 1) (oi := ⟨some 32, _, _, _, _, _⟩) (v := oV x0 k0) rfl (by kernel_rfl) (by kernel_rfl) (by kernel_rfl) (fun _ _ _ h => h) (yieldsIf_load_mid (by rfl) 26 (.tmp 3) rfl (g) (0) rfl (oc x0 k0) _ (fun W h => range25 (KG.out.below h KG.out.lt)) Tryz.underlying26 rfl (by rw [oc_length, hol]; exact info25)) hS ?_
        simp only [Act.put, List.setIfInBounds_toArray, List.set_cons_zero, List.set_cons_succ]
        refine wpAnyH_take (i := 4) (oi := ⟨some 35, _, _, _, _, _⟩) (v := .slice (some ⟨b, off, none⟩) n c) rfl (by kernel_rfl) (by kernel_rfl) (by kernel_rfl) (fun _ _ _ h => h) (Or.inl ⟨by rfl, fun w hSw => by (try dsimp only at hSw); go_simp <;> first | omega | (intro hx; exact absurd hx (by omega))⟩) hS ?_
        simp only [Act.put, List.setIfInBounds_toArray, List.set_cons_zero, List.set_cons_succ]
        refine wpAnyH_take (i := 5) (oi := ⟨some 36, _, _, _, _, _⟩) (v := .int .i64 (p : Int)) rfl (by kernel_rfl) (by kernel_rfl) (by kernel_rfl) (fun _ _ _ h => h) (Or.inl ⟨by rfl, fun w hSw => by (try dsimp only at hSw); go_simp <;> first | omega | (intro hx; exact absurd hx (by omega))⟩) hS ?_
        simp only [Act.put, List.setIfInBounds_toArray, List.set_cons_zero, List.set_cons_succ]
        refine wpAnyH_take (i := 6) (oi := ⟨some 37, _, _, _, _, _⟩) (v := .slice A2 (n - p) (c - p)) rfl (by kernel_rfl) (by kernel_rfl) (by kernel_rfl) (fun _ _ _ h => h) (Or.inl ⟨by rfl, fun w hSw => by (try dsimp only at hSw); go_simp <;> first | omega | (intro hx; exact absurd hx (by omega))⟩) hS ?_
        simp only [Act.put, List.setIfInBounds_toArray, List.set_cons_zero, List.set_cons_succ]
        refine wpAnyH_ready (rs := [2]) (by kernel_rfl) (by simp) ?_
        refine AllReadyH.cons (o := ⟨some 33, _, _, _, _, _⟩) rfl (fun K hK => ?_) (AllReadyH.nil)
        refine buildO_wp 32 rfl rfl hol ?_
        obtain ⟨v2, w8, hrun2, hp2, hb2⟩ := PK.out.push (by rw [List.nil_append, List.length_take]; have := IA.out.ln; omega) HO.out
        have HRUN2 := Lib.hid hrun2
        have PKq := Lib.hid hp2
        have hbn := bel1 wd7 (.cells (oc x0 k0).toArray 26)
        have BL8 := Lib.hid (BL.out.trans (hb2.mono (Nat.le_refl _)))
        refine hK.out _ _ (BL.out.trans (hbn.mono BL.out.size)) (fun hS => ?_)
        clear hK K hrun2 hp2 hb2 hbn BL PK
        (try simp only [Act.put, List.setIfInBounds_toArray, List.set_cons_zero, List.set_cons_succ])
        refine wpAnyH_ready (rs := [3]) (by kernel_rfl) (by simp) ?_
        refine AllReadyH.cons (o := ⟨some 34, _, _, _, _, _⟩) rfl (fun K hK => ?_) (AllReadyH.nil)
        refine appO_wp (.tmp 31) (.tmp 33) _ _ rfl _ _ rfl rfl HRUN2.out ?_
        refine hK.out _ _ BL8.out (fun hS => ?_)
        clear hK K HRUN2
        (try simp only [Act.put, List.setIfInBounds_toArray, List.set_cons_zero, List.set_cons_succ])
        obtain ⟨v3, w9, hrun3, hp3, hb3⟩ := PKq.out.pushAll (HRD2.out.below BL8.out) (by rw [List.length_append, List.nil_append, List.length_take, List.length_drop, List.length_singleton]; have := IA.out.ln; omega) (n - p) (c - p) (by rw [List.length_drop, IA.out.ln])
        have HRUN3 := Lib.hid hrun3
        have PK := Lib.hid hp3
        have BL := Lib.hid (BL8.out.trans (hb3.mono (Nat.le_refl _)))
        clear hrun3 hp3 hb3 BL8 PKq
        refine wpAnyH_ready (rs := [7]) (by kernel_rfl) (by simp) ?_
        refine AllReadyH.cons (o := ⟨some 38, _, _, _, _, _⟩) rfl (fun K hK => ?_) (AllReadyH.nil)
        refine appO_wp (.tmp 34) (.tmp 37) _ _ rfl _ _ rfl rfl HRUN3.out ?_
        refine hK.out _ _ BL.out (fun hS => ?_)
        clear hK K HRUN3
        (try simp only [Act.put, List.setIfInBounds_toArray, List.set_cons_zero, List.set_cons_succ])
        refine wpAnyH_take (i := 8) (oi := ⟨some 4, _, _, _, _, _⟩) (v := v3) rfl (by kernel_rfl) (by kernel_rfl) (by kernel_rfl) (fun _ _ _ h => h) (Or.inl ⟨by rfl, fun w hSw => by (try dsimp only at hSw); go_simp <;> first | omega | (intro hx; exact absurd hx (by omega))⟩) hS ?_
        simp only [Act.put, List.setIfInBounds_toArray, List.set_cons_zero, List.set_cons_succ]
        refine wpAnyH_done (by kernel_rfl) ?_ _
        clear hS
        obtain ⟨A9, c9, rfl, h1, h2, h3, _⟩ := PK.out.form
        have e9 : [] ++ L.take p ++ [(x0, k0)] ++ L.drop p = R := by rw [HRES.out, List.nil_append]
        rw [e9] at h1 h3 ⊢
        have HIN : Hid (Ino w9 A9 R R.length c9) := Lib.hid ⟨h3, rfl, h1, h2⟩
        clear h1 h2 h3 PK HRES e9
        go_wp2_with fail
        go_ret
        exact ⟨A9, c9, rfl, HIN.out, B0.out.trans (BL.out.mono B0.out.size)⟩
    · have hpn : p = n := by omega
      subst hpn
      have hlb : decide ((p : Int) < (p : Int)) = false := decide_eq_false (by omega)
      go_upto_region 4 with fail
      obtain ⟨wd, hwd⟩ : ∃ y, wr.drew = y := ⟨_, rfl⟩
      have hbd : Below wr.heap.size wr wd := by rw [← hwd]; exact ⟨rfl, rfl, rfl, Nat.le_refl _, fun _ _ => rfl⟩
      have BLq := Lib.hid (BL.out.trans (hbd.mono BL.out.size))
      clear BL
      have BL := BLq
      clear BLq
      refine wp_region_held_drew (S := fun W => Below W1.heap.size W1 W) (by kernel_rfl) (by rw [hwd]; exact BL.out) (fun hS => ?_)
      rw [hwd] at hS ⊢
      clear hwd hbd
      refine wpAnyH_take (i := 0) (oi := ⟨some 11, _, _, _, _, _⟩) (v := .int .i64 (p : Int)) rfl (by kernel_rfl) (by kernel_rfl) (by kernel_rfl) (fun _ _ _ h => h) (Or.inl ⟨by rfl, fun w hSw => by (try dsimp only at hSw); go_simp <;> first | omega | (intro hx; exact absurd hx (by omega))⟩) hS ?_
      simp only [Act.put, List.setIfInBounds_toArray, List.set_cons_zero, List.set_cons_succ]
      refine wpAnyH_take (i := 1) (oi := ⟨some 12, _, _, _, _, _⟩) (v := .slice A p c) rfl (by kernel_rfl) (by kernel_rfl) (by kernel_rfl) (fun _ _ _ h => h) (Or.inl ⟨by rfl, fun w hSw => by (try dsimp only at hSw); go_simp <;> first | omega | (intro hx; exact absurd hx (by omega))⟩) hS ?_
      simp only [Act.put, List.setIfInBounds_toArray, List.set_cons_zero, List.set_cons_succ]
      refine wpAnyH_take (i := 2) (oi := ⟨some 13, _, _, _, _, _⟩) (v := .int .i64 (p : Int)) rfl (by kernel_rfl) (by kernel_rfl) (by kernel_rfl) (fun _ _ _ h => h) (Or.inl ⟨by rfl, fun w hSw => by (try dsimp only at hSw); go_simp <;> first | omega | (intro hx; exact absurd hx (by omega))⟩) hS ?_
      simp only [Act.put, List.setIfInBounds_toArray, List.set_cons_zero, List.set_cons_succ]
      refine wpAnyH_take (i := 3) (oi := ⟨some 14, _, _, _, _, _⟩) (v := .bool false) rfl (by kernel_rfl) (by kernel_rfl) (by kernel_rfl) (fun _ _ _ h => h) (Or.inl ⟨by rfl, fun w hSw => by (try dsimp only at hSw); go_simp <;> first | omega | (intro hx; exact absurd hx (by omega))⟩) hS ?_
      simp only [Act.put, List.setIfInBounds_toArray, List.set_cons_zero, List.set_cons_succ]
      refine wpAnyH_take (i := 4) (oi := ⟨some 15, _, _, _, _, _⟩) (v := .bool false) rfl (by kernel_rfl) (by kernel_rfl) (by kernel_rfl) (fun _ _ _ h => h) (Or.inl ⟨by rfl, fun w hSw => by (try dsimp only at hSw); go_simp <;> first | omega | (intro hx; exact absurd hx (by omega))⟩) hS ?_
      simp only [Act.put, List.setIfInBounds_toArray, List.set_cons_zero, List.set_cons_succ]
      refine wpAnyH_take (i := 5) (oi := ⟨some 16, _, _, _, _, _⟩) (v := undef) rfl (by kernel_rfl) (by kernel_rfl) (by kernel_rfl) (fun _ _ _ h => h) (Or.inr ⟨by rfl, rfl⟩) hS ?_
      simp only [Act.put, List.setIfInBounds_toArray, List.set_cons_zero, List.set_cons_succ]
      refine wpAnyH_take (i := 6) (oi := ⟨some 17, _, _, _, _, _⟩) (v := undef) rfl (by kernel_rfl) (by kernel_rfl) (by kernel_rfl) (fun _ _ _ h => h) (Or.inr ⟨by rfl, rfl⟩) hS ?_
      simp only [Act.put, List.setIfInBounds_toArray, List.set_cons_zero, List.set_cons_succ]
      refine wpAnyH_take (i := 7) (oi := ⟨some 18, _, _, _, _, _⟩) (v := undef) rfl (by kernel_rfl) (by kernel_rfl) (by kernel_rfl) (fun _ _ _ h => h) (Or.inr ⟨by rfl, rfl⟩) hS ?_
      simp only [Act.put, List.setIfInBounds_toArray, List.set_cons_zero, List.set_cons_succ]
      refine wpAnyH_take (i := 8) (oi := ⟨some 19, _, _, _, _, _⟩) (v := undef) rfl (by kernel_rfl) (by kernel_rfl) (by kernel_rfl) (fun _ _ _ h => h) (Or.inr ⟨by rfl, rfl⟩) hS ?_
      simp only [Act.put, List.setIfInBounds_toArray, List.set_cons_zero, List.set_cons_succ]
      refine wpAnyH_take (i := 9) (oi := ⟨some 20, _, _, _, _, _⟩) (v := undef) rfl (by kernel_rfl) (by kernel_rfl) (by kernel_rfl) (fun _ _ _ h => h) (Or.inr ⟨by rfl, rfl⟩) hS ?_
      simp only [Act.put, List.setIfInBounds_toArray, List.set_cons_zero, List.set_cons_succ]
      refine wpAnyH_take (i := 10) (oi := ⟨some 21, _, _, _, _, _⟩) (v := undef) rfl (by kernel_rfl) (by kernel_rfl) (by kernel_rfl) (fun _ _ _ h => h) (Or.inr ⟨by rfl, rfl⟩) hS ?_
      simp only [Act.put, List.setIfInBounds_toArray, List.set_cons_zero, List.set_cons_succ]
      refine wpAnyH_take (i := 11) (oi := ⟨some 22, _, _, _, _, _⟩) (v := undef) rfl (by kernel_rfl) (by kernel_rfl) (by kernel_rfl) (fun _ _ _ h => h) (Or.inr ⟨by rfl, rfl⟩) hS ?_
      simp only [Act.put, List.setIfInBounds_toArray, List.set_cons_zero, List.set_cons_succ]
      refine wpAnyH_take (i := 12) (oi := ⟨some 23, _, _, _, _, _⟩) (v := .bool false) rfl (by kernel_rfl) (by kernel_rfl) (by kernel_rfl) (fun _ _ _ h => h) (Or.inl ⟨by rfl, fun w hSw => by (try dsimp only at hSw); go_simp <;> first | omega | (intro hx; exact absurd hx (by omega))⟩) hS ?_
      simp only [Act.put, List.setIfInBounds_toArray, List.set_cons_zero, List.set_cons_succ]
      refine wpAnyH_done (by kernel_rfl) ?_ _
      clear hS
      have HSTOP : Hid (∀ h : p < L.length, lsO (x0, k0) L[p] = false) := Lib.hid (fun h => by have := IA.out.ln; omega)
      have HDN := Lib.hid (while_at (lsO (x0, k0)) L p (by rw [IA.out.ln]; exact hp) HALL.out HSTOP.out)
      have HRES : Hid (R = L.take p ++ [(x0, k0)] ++ L.drop p) := Lib.hid (by rw [← HR.out]; unfold insR; rw [if_neg HNI.out, HDN.out.1, HDN.out.2])
      obtain ⟨A2, s1, s2, hrd2⟩ := (IA.out.below BL.out).from_ p hp
      have st := slTO A p c p (by have := IA.out.lc; omega)
      have PE := PO.empty (B := W1.heap.size) wd BL.out.size
      have hbe := bel1 wd (.cells #[] 26)
      have RT := ((IA.out.below BL.out).rd.below hbe).take_ p
      obtain ⟨v1, w5, hrun1, hp1, hb1⟩ := PE.pushAll RT (by have := IA.out.ln; simp; omega) p c (by rw [List.length_take, IA.out.ln]; omega)
      have HRUN1 := Lib.hid hrun1
      have PK := Lib.hid hp1
      have BLq := Lib.hid ((BL.out.trans (hbe.mono BL.out.size)).trans (hb1.mono (Nat.le_refl _)))
      have HRD2 : Hid (RdO W1 A2 (L.drop p)) := Lib.hid (by
        obtain ⟨A3, s1', _, hrd3⟩ := IA.out.from_ p hp
        have e := (s1' W1).symm.trans (s1 W1)
        injection e with e1 _
        injection e1 with e2
        rw [← e2]; exact hrd3)
      clear BL PE hbe RT hrun1 hp1 hb1 hrd2 HDN HALL HSTOP
      have BL := BLq
      clear BLq
      go_upto_region 7 with (at_builtin; refine wpList_appO (o := ⟨some 30, _, _, _, _, _⟩) rfl _ _ _ _ rfl _ _ rfl rfl HRUN1.out ?_)
      obtain ⟨wd7, hwd⟩ : ∃ y, w5.drew = y := ⟨_, rfl⟩
      have hbd : Below w5.heap.size w5 wd7 := by rw [← hwd]; exact ⟨rfl, rfl, rfl, Nat.le_refl _, fun _ _ => rfl⟩
      have BLq := Lib.hid (BL.out.trans (hbd.mono BL.out.size))
      have PKq := Lib.hid (PK.out.below hbd)
      clear BL PK HRUN1
      have BL := BLq
      have PK := PKq
      clear BLq PKq
      refine wp_region_held_drew (S := fun W => Below W1.heap.size W1 W) (by kernel_rfl) (by rw [hwd]; exact BL.out) (fun hS => ?_)
      rw [hwd] at hS ⊢
      clear hwd hbd
      refine wpAnyH_take (i := 0) (oi := ⟨some 31, _, _, _, _, _⟩) (v := v1) rfl (by kernel_rfl) (by kernel_rfl) (by kernel_rfl) (fun _ _ _ h => h) (Or.inl ⟨by rfl, fun w hSw => by (try dsimp only at hSw); go_simp <;> first | omega | (intro hx; exact absurd hx (by omega))⟩) hS ?_
      simp only [Act.put, List.setIfInBounds_toArray, List.set_cons_zero, List.set_cons_succ]
      refine wpAnyH_take (i := 1) (oi := ⟨some 32, _, _, _, _, _⟩) (v := oV x0 k0) rfl (by kernel_rfl) (by kernel_rfl) (by kernel_rfl) (fun _ _ _ h => h) (yieldsIf_load_mid (by rfl) 26 (.tmp 3) rfl (g) (0) rfl (oc x0 k0) _ (fun W h => range25 (KG.out.below h KG.out.lt)) Tryz.underlying26 rfl (by rw [oc_length, hol]; exact info25)) hS ?_
      simp only [Act.put, List.setIfInBounds_toArray, List.set_cons_zero, List.set_cons_succ]
      refine wpAnyH_take (i := 4) (oi := ⟨some 35, _, _, _, _, _⟩) (v := .slice A p c) rfl (by kernel_rfl) (by kernel_rfl) (by kernel_rfl) (fun _ _ _ h => h) (Or.inl ⟨by rfl, fun w hSw => by (try dsimp only at hSw); go_simp <;> first | omega | (intro hx; exact absurd hx (by omega))⟩) hS ?_
      simp only [Act.put, List.setIfInBounds_toArray, List.set_cons_zero, List.set_cons_succ]
      refine wpAnyH_take (i := 5) (oi := ⟨some 36, _, _, _, _, _⟩) (v := .int .i64 (p : Int)) rfl (by kernel_rfl) (by kernel_rfl) (by kernel_rfl) (fun _ _ _ h => h) (Or.inl ⟨by rfl, fun w hSw => by (try dsimp only at hSw); go_simp <;> first | omega | (intro hx; exact absurd hx (by omega))⟩) hS ?_
      simp only [Act.put, List.setIfInBounds_toArray, List.set_cons_zero, List.set_cons_succ]
      refine wpAnyH_take (i := 6) (oi := ⟨some 37, _, _, _, _, _⟩) (v := .slice A2 (p - p) (c - p)) rfl (by kernel_rfl) (by kernel_rfl) (by kernel_rfl) (fun _ _ _ h => h) (Or.inl ⟨by rfl, fun w hSw => by (try dsimp only at hSw); go_simp <;> first | omega | (intro hx; exact absurd hx (by omega))⟩) hS ?_
      simp only [Act.put, List.setIfInBounds_toArray, List.set_cons_zero, List.set_cons_succ]
      refine wpAnyH_ready (rs := [2]) (by kernel_rfl) (by simp) ?_
      refine AllReadyH.cons (o := ⟨some 33, _, _, _, _, _⟩) rfl (fun K hK => ?_) (AllReadyH.nil)
      refine buildO_wp 32 rfl rfl hol ?_
      obtain ⟨v2, w8, hrun2, hp2, hb2⟩ := PK.out.push (by rw [List.nil_append, List.length_take]; have := IA.out.ln; omega) HO.out
      have HRUN2 := Lib.hid hrun2
      have PKq := Lib.hid hp2
      have hbn := bel1 wd7 (.cells (oc x0 k0).toArray 26)
      have BL8 := Lib.hid (BL.out.trans (hb2.mono (Nat.le_refl _)))
      refine hK.out _ _ (BL.out.trans (hbn.mono BL.out.size)) (fun hS => ?_)
      clear hK K hrun2 hp2 hb2 hbn BL PK
      (try simp only [Act.put, List.setIfInBounds_toArray, List.set_cons_zero, List.set_cons_succ])
      refine wpAnyH_ready (rs := [3]) (by kernel_rfl) (by simp) ?_
      refine AllReadyH.cons (o := ⟨some 34, _, _, _, _, _⟩) rfl (fun K hK => ?_) (AllReadyH.nil)
      refine appO_wp (.tmp 31) (.tmp 33) _ _ rfl _ _ rfl rfl HRUN2.out ?_
      refine hK.out _ _ BL8.out (fun hS => ?_)
      clear hK K HRUN2
      (try simp only [Act.put, List.setIfInBounds_toArray, List.set_cons_zero, List.set_cons_succ])
      obtain ⟨v3, w9, hrun3, hp3, hb3⟩ := PKq.out.pushAll (HRD2.out.below BL8.out) (by rw [List.length_append, List.nil_append, List.length_take, List.length_drop, List.length_singleton]; have := IA.out.ln; omega) (p - p) (c - p) (by rw [List.length_drop, IA.out.ln])
      have HRUN3 := Lib.hid hrun3
      have PK := Lib.hid hp3
      have BL := Lib.hid (BL8.out.trans (hb3.mono (Nat.le_refl _)))
      clear hrun3 hp3 hb3 BL8 PKq
      refine wpAnyH_ready (rs := [7]) (by kernel_rfl) (by simp) ?_
      refine AllReadyH.cons (o := ⟨some 38, _, _, _, _, _⟩) rfl (fun K hK => ?_) (AllReadyH.nil)
      refine appO_wp (.tmp 34) (.tmp 37) _ _ rfl _ _ rfl rfl HRUN3.out ?_
      refine hK.out _ _ BL.out (fun hS => ?_)
      clear hK K HRUN3
      (try simp only [Act.put, List.setIfInBounds_toArray, List.set_cons_zero, List.set_cons_succ])
      refine wpAnyH_take (i := 8) (oi := ⟨some 4, _, _, _, _, _⟩) (v := v3) rfl (by kernel_rfl) (by kernel_rfl) (by kernel_rfl) (fun _ _ _ h => h) (Or.inl ⟨by rfl, fun w hSw => by (try dsimp only at hSw); go_simp <;> first | omega | (intro hx; exact absurd hx (by omega))⟩) hS ?_
      simp only [Act.put, List.setIfInBounds_toArray, List.set_cons_zero, List.set_cons_succ]
      refine wpAnyH_done (by kernel_rfl) ?_ _
      clear hS
      obtain ⟨A9, c9, rfl, h1, h2, h3, _⟩ := PK.out.form
      have e9 : [] ++ L.take p ++ [(x0, k0)] ++ L.drop p = R := by rw [HRES.out, List.nil_append]
      rw [e9] at h1 h3 ⊢
      have HIN : Hid (Ino w9 A9 R R.length c9) := Lib.hid ⟨h3, rfl, h1, h2⟩
      clear h1 h2 h3 PK HRES e9
      go_wp2_with fail
      go_ret
      exact ⟨A9, c9, rfl, HIN.out, B0.out.trans (BL.out.mono B0.out.size)⟩
end Go.Proofs.YtaiiihdckdjpoaaGreatDoor

/-!
  Layer 7: contracts of Of and Union of the reference.
  Conditions: the OIDs' cells are in their kinds.
-/
namespace Go.Proofs.YtaiiihdckdjpoaaGreatDoor
open Go.RowKit

/-- What the reference's Of answers. -/
def ofR (L : List Od) : List Od := L.foldl insR []
theorem insR_le (L : List Od) (o : Od) : (insR L o).length ≤ L.length + 1 := by
  unfold insR
  split
  · omega
  · have := congrArg List.length (List.takeWhile_append_dropWhile (p := lsO o) (l := L))
    simp only [List.length_append, List.length_singleton] at this ⊢
    omega
theorem ofR_snoc (L : List Od) (o : Od) : ofR (L ++ [o]) = insR (ofR L) o := by unfold ofR; rw [List.foldl_append]; rfl
theorem ofR_le (L : List Od) : (ofR L).length ≤ L.length := by
  suffices h : ∀ (L K : List Od), (L.foldl insR K).length ≤ K.length + L.length by simpa [ofR] using h L []
  intro L
  induction L with
  | nil => intro K; simp
  | cons o L ih =>
    intro K
    have h1 := ih (insR K o)
    have h2 := insR_le K o
    simp only [List.foldl_cons, List.length_cons] at *
    omega
/-- OIDs that a function of the reference answers. -/
def GiveK (w : World) (R : List Od) (e : Ending) (w' : World) : Prop := ∃ A c, e = .returned (.slice A R.length c) ∧ Ino w' A R R.length c ∧ Below w.heap.size w w'

set_option linter.unusedSimpArgs false in
set_option maxHeartbeats 1000000 in
set_option maxRecDepth 100000 in
theorem rof_any (A0 : Option Addr) (L : List Od) (n c : Nat) (w : World) (hA : Ino w A0 L n c) (hn : n ≤ 100000) :
    Calls Tryz.prog 25 #[.slice A0 n c] w (GiveK w (ofR L)) := by
  have IA := Lib.hid hA
  clear hA
  obtain ⟨R, hR⟩ : ∃ R, ofR L = R := ⟨_, rfl⟩
  have HR := Lib.hid hR
  rw [hR]
  clear hR
  go_enter Tryz.func25, Tryz.ntmps25
  go_upto_region 3 with fail
  go_loopw [4, 3] (fun i kv wr => ∃ (p : Nat) (A' : Option Addr) (c' : Nat), p ≤ n ∧ i = .int .i64 (p : Int) ∧ kv = .slice A' (ofR (L.take p)).length c' ∧ Ino wr A' (ofR (L.take p)) (ofR (L.take p)).length c' ∧ Below w.heap.size w wr) (fun i _ _ => n - (intOf i).toNat)
  case atStart => exact ⟨0, none, 0, Nat.zero_le _, rfl, rfl, ⟨RdO.nil, rfl, Nat.le_refl _, by unfold maxLen; omega⟩, Below.refl _ _⟩
  case round =>
    obtain ⟨p, A', c', hp, rfl, rfl, hik, hbl⟩ := hrel
    have IK := Lib.hid hik
    have BL := Lib.hid hbl
    have hkl : (ofR (L.take p)).length ≤ p := Nat.le_trans (ofR_le _) (by rw [List.length_take]; omega)
    clear hik hbl
    by_cases hlt : p < n
    · have hpl : p < L.length := by rw [IA.out.ln]; exact hlt
      have HTS := Lib.hid (show ofR (L.take (p + 1)) = insR (ofR (L.take p)) L[p] by rw [List.take_succ_eq_append_getElem hpl, ofR_snoc])
      generalize ofR (L.take p) = K at *
      obtain ⟨b, off, rfl, hb, hr, ho⟩ := IA.out.rd.at_ hpl
      have hl_x := ho.len
      have HQ := Lib.hid (show L[p] = (L[p].1, L[p].2) from rfl)
      generalize hm1 : L[p].1 = x at *
      generalize hk1 : L[p].2 = k at *
      have HX := Lib.hid hr
      have HXB := Lib.hid hb
      have HXO := Lib.hid ho
      have HXE := Lib.hid (show L[p] = (x, k) from HQ.out)
      clear hm1 hk1 HQ hb hr ho
      have HRG := Lib.hid (range_below HX.out HXB.out BL.out)
      have HTT : Hid (ofR (L.take (p + 1)) = insR K (x, k)) := Lib.hid (by rw [HTS.out, HXE.out])
      obtain ⟨nk, hnk⟩ : ∃ nk, K.length = nk := ⟨_, rfl⟩
      rw [hnk] at IK hkl ⊢
      clear HTS hnk
      go_wp2_with (refine wpList_loadO rfl (.tmp 14) rfl rfl HRG.out hl_x ?_)
      refine (rinsert_any A' K nk c' x k wr IK.out (by omega) HXO.out).mono ?_
      rintro e w2 ⟨A2, c2, rfl, hi, hb⟩
      have HI := Lib.hid hi
      have BL2 := Lib.hid (BL.out.trans (hb.mono BL.out.size))
      clear hi hb
      go_wp2_with fail
      exact ⟨⟨p + 1, A2, c2, hlt, by go_num, by rw [HTT.out], by rw [HTT.out]; exact HI.out, BL2.out⟩, by simp [intOf]; omega⟩
    · obtain rfl : p = n := by omega
      have HT : Hid (ofR (L.take p) = R) := Lib.hid (by rw [List.take_of_length_le (Nat.le_of_eq IA.out.ln), HR.out])
      rw [HT.out] at IK ⊢
      go_wp2_with fail
      go_ret
      exact ⟨A', c', rfl, IK.out, BL.out⟩

set_option linter.unusedSimpArgs false in
set_option maxHeartbeats 1000000 in
set_option maxRecDepth 100000 in
theorem runion_any (A0 B0 : Option Addr) (L M : List Od) (n m c d : Nat) (w : World) (hA : Ino w A0 L n c) (hB : Ino w B0 M m d) (hn : n ≤ 40000) (hm : m ≤ 40000) :
    Calls Tryz.prog 27 #[.slice A0 n c, .slice B0 m d] w (GiveK w (ofR (L ++ M))) := by
  have PE := PO.empty (B := w.heap.size) w (Nat.le_refl _)
  have hbe := bel1 w (.cells #[] 26)
  have lA := hA.ln
  have lB := hB.ln
  obtain ⟨v1, w1, hrun1, hp1, hb1⟩ := PE.pushAll (hA.rd.below hbe) (by simp; omega) n c lA
  have hb1' := hbe.trans (hb1.mono (Nat.le_refl _))
  obtain ⟨v2, w2, hrun2, hp2, hb2⟩ := hp1.pushAll (hB.rd.below hb1') (by simp; omega) m d lB
  have B2 := Lib.hid (hb1'.trans (hb2.mono (Nat.le_refl _)))
  obtain ⟨A2, c2, rfl, h1, h2, h3, _⟩ := hp2.form
  rw [List.nil_append] at h1 h3 hrun2
  have hlm : (L ++ M).length ≤ 100000 := by rw [List.length_append]; omega
  generalize L ++ M = LM at *
  obtain ⟨nl, hnl⟩ : ∃ nl, LM.length = nl := ⟨_, rfl⟩
  rw [hnl] at h1 hrun2 hlm
  have HIN : Hid (Ino w2 A2 LM nl c2) := Lib.hid ⟨h3, hnl, h1, h2⟩
  clear hnl lA lB
  have HRUN1 := Lib.hid hrun1
  have HRUN2 := Lib.hid hrun2
  clear PE hbe hrun1 hp1 hb1 hb1' hrun2 hp2 hb2 h1 h2 h3 hA hB
  go_enter Tryz.func27, Tryz.ntmps27
  go_wp2_with (at_builtin; first | (refine wpList_appO (o := ⟨some 7, _, _, _, _, _⟩) rfl (.tmp 5) (.tmp 6) _ _ rfl _ _ rfl rfl HRUN1.out ?_) | (refine wpList_appO (o := ⟨some 9, _, _, _, _, _⟩) rfl (.tmp 7) (.tmp 8) _ _ rfl _ _ rfl rfl HRUN2.out ?_))
  refine (rof_any A2 LM nl c2 w2 HIN.out hlm).mono ?_
  rintro e w3 ⟨A3, c3, rfl, hi, hb⟩
  have HI := Lib.hid hi
  have HB := Lib.hid (B2.out.trans (hb.mono B2.out.size))
  clear hi hb
  go_wp2_with fail
  go_ret
  exact ⟨A3, c3, rfl, HI.out, HB.out⟩
end Go.Proofs.YtaiiihdckdjpoaaGreatDoor
