/-
  Layer 8, the statement BitstringsBack: the content octets of a bit string are those of the definition, and are read as the bit string again; so is its element; Bit returns its bits; the examples of the chapter hold.
  Conditions: none.
-/
import Derived.Test.YtnebjdgolbnkfaaBitR
import Derived.Deep.RegionHeld3
namespace Go.Proofs.Ytnebjdgolbnkfaa.Bit
open Go.RowKit

theorem bt_in {P : List Nat} (h : Lt 2 P) (hl : P.length ≤ 524288) {m : Nat} (hm : m < P.length) : btB (byt P) (P.length : Nat) (m : Nat) = decide (P.getD m 0 = 1) := by
  unfold btB
  rw [decide_eq_true (putB_eq h hl).1, decide_eq_true (show (0 : Int) ≤ (m : Int) by omega), decide_eq_true (show (m : Int) < (P.length : Nat) by omega), Int.toNat_natCast, bt1_byt h (by omega)]
  simp
theorem bt_out {P : List Nat} {i : Int} {l : List Nat} (h : i < 0 ∨ (P.length : Nat) ≤ i) : btB l (P.length : Nat) i = false := by
  unfold btB
  rcases h with h | h
  · rw [decide_eq_false (show ¬ 0 ≤ i by omega)]; simp
  · rw [decide_eq_false (show ¬ i < (P.length : Nat) by omega)]; simp
set_option linter.unusedSimpArgs false in
set_option maxHeartbeats 6400000 in
set_option maxRecDepth 100000 in
theorem back_walk (A : Option Addr) (l : List Nat) (N c : Nat) (i : Int) (w : World) (h : Rb w A l) (hN : l.length = N) (hm : N ≤ maxLen) (hi1 : -9223372036854775808 ≤ i) (hi2 : i < 9223372036854775808) :
    Calls Try.prog 3 #[.agg #[.slice A N c], .int .i64 i] w fun e w' => e = .returned (.bool true) ∧ Below w.heap.size w w' := by
  have B0 := Lib.hid (bel1 w (.cells #[.slice A N c] 24))
  have HLO := Lib.hid (lof_any A l N c (w.alloc (.cells #[.slice A N c] 24)) (h.below B0.out) hN hm)
  have h2 := parL_lt l
  have hn3 : (parL l).length ≤ 300 := by rw [parL_length]; omega
  generalize parL l = P at *
  have hout := @bt_out P i (byt P)
  have hin := fun (m : Nat) (hm : m < P.length) => bt_in h2 (by omega) hm
  obtain ⟨hc0, hp0⟩ := putB_eq h2 (show P.length ≤ 524288 by omega)
  obtain ⟨g1, g2, g3, g4⟩ := get_putB h2 (show P.length ≤ 524288 by omega)
  have hM : (byt P).length = (P.length + 7) / 8 := byt_length P
  have hK : (putB P).length = (byt P).length + 1 := by unfold putB; rw [List.length_cons]
  have HBY := Lib.hid (fun (W : World) (A2 : Option Addr) (c2 : Nat) (hW : Ri W A2 P) => rbytes_any A2 P P.length c2 W hW h2 rfl (by omega))
  have HRP := Lib.hid (fun (W : World) (A2 : Option Addr) (c2 : Nat) (hW : Ri W A2 P) => rput_any A2 P P.length c2 W hW h2 rfl (by omega))
  have HPT := Lib.hid (fun (W : World) (A2 : Option Addr) (M c2 : Nat) (hW : Rb W A2 (byt P)) (hM2 : (byt P).length = M) (hcc : M ≤ c2) => put_any A2 (byt P) M c2 (P.length : Nat) W hW hM2 (by omega) hcc (by omega) (by omega))
  have HCK := Lib.hid (fun (W : World) (A2 : Option Addr) (M c2 : Nat) (hW : Rb W A2 (byt P)) (hM2 : (byt P).length = M) => check_any A2 (byt P) M c2 (P.length : Nat) W hW hM2 (by omega) (by omega) (by omega))
  have HRD := Lib.hid (fun (W : World) (A3 A2 : Option Addr) (K M c3 c2 : Nat) (hW3 : Rb W A3 (putB P)) (hW : Rb W A2 (byt P)) (hK2 : (putB P).length = K) (hM2 : (byt P).length = M) (hcc : K ≤ c3) => read_ok A3 A2 (putB P) (byt P) K c3 M c2 P.length 0 W hW3 hW hK2 hM2 hcc (by omega) g2 g3 g1)
  have HEL := Lib.hid (fun (W : World) (A2 : Option Addr) (M c2 : Nat) (hW : Rb W A2 (byt P)) (hM2 : (byt P).length = M) (hcc : M ≤ c2) => element_ok A2 (byt P) M c2 (P.length : Nat) W hW hM2 (by omega) hcc (by omega) (by omega) hc0)
  have HOF := Lib.hid (fun (W : World) (A5 : Option Addr) (K : Nat) (hW : Rb W A5 (putB P)) (hK2 : (putB P).length = K) => of_any 0 3 false A5 none (putB P) K K 0 0 W hW hK2 (by omega) (Nat.le_refl _))
  have e0 : wrg 0 3 false 0 3 = 0 := rfl
  have e1 : ofB 0 3 false 0 (putB P) = byt P := by unfold ofB; rw [if_pos e0, g2]
  have e2 : ofK 0 3 false 0 (putB P) = P.length := by unfold ofK; rw [if_pos e0, g3]
  have e3 : ofE 0 3 false 0 (putB P) = 0 := by unfold ofE; rw [if_pos e0, g1]
  rw [hp0, hc0] at HPT
  rw [hc0] at HCK
  rw [hp0] at HEL
  rw [e1, e2, e3] at HOF
  have HBT := Lib.hid (fun (W : World) (A2 : Option Addr) (M c2 : Nat) (j : Int) (hW : Rb W A2 (byt P)) (hM2 : (byt P).length = M) (hj1 : -9223372036854775808 ≤ j) (hj2 : j < 9223372036854775808) => bit_any A2 (byt P) M c2 (P.length : Nat) j W hW hM2 (by omega) (by omega) (by omega) hj1 hj2)
  have HIN := Lib.hid hin
  have HOUT := Lib.hid hout
  have HI12 := Lib.hid (And.intro hi1 hi2)
  have H2 := Lib.hid h2
  obtain ⟨n, hn⟩ : ∃ n, P.length = n := ⟨_, rfl⟩
  obtain ⟨M, hMe⟩ : ∃ M, (byt P).length = M := ⟨_, rfl⟩
  obtain ⟨K, hKe⟩ : ∃ K, (putB P).length = K := ⟨_, rfl⟩
  rw [hn] at HBY HRP HPT HCK HRD HEL HOF HBT HIN HOUT hn3
  have HPn := Lib.hid hn
  have HbM := Lib.hid hMe
  have HwK := Lib.hid hKe
  have hMb : M ≤ 100 := by omega
  have hKb : K ≤ 101 := by omega
  clear h hN hm h2 hout hin hc0 hp0 g1 g2 g3 g4 hM hK e0 e1 e2 e3 hn hMe hKe hi1 hi2
  generalize byt P = b at *
  generalize putB P = Q at *
  go_enter Try.func3, Try.ntmps3
  go_wp2_with fail
  refine (HLO.out).mono ?_
  rintro e w1 ⟨A1, n1, c1, hl, rfl, hr, hc1, hc2, hb⟩
  obtain rfl : n = n1 := HPn.out.symm.trans hl
  clear hl hc1 hc2
  have R1 := Lib.hid hr
  clear hr
  have B1 := bt B0 (Lib.hid hb)
  clear hb B0
  go_wp2_with fail
  refine (HBY.out w1 A1 c1 R1.out).mono ?_
  rintro e w2 ⟨A2, n2, c2, hl, rfl, hr, hc1, hc2, hb⟩
  obtain rfl : M = n2 := HbM.out.symm.trans hl
  have HC2 := Lib.hid hc1
  clear hl hc1 hc2
  have R2 := Lib.hid hr
  clear hr
  have R1 := Lib.hid (R1.out.below hb)
  have B2 := bt B1 (Lib.hid hb)
  clear hb B1
  go_wp2_with fail
  refine (HRP.out w2 A1 c1 R1.out).mono ?_
  rintro e w3 ⟨A3, n3, c3, hl, rfl, hr, hc1, hc2, hb⟩
  obtain rfl : K = n3 := HwK.out.symm.trans hl
  have HC3 := Lib.hid hc1
  clear hl hc1 hc2
  have R3 := Lib.hid hr
  clear hr
  have R1 := Lib.hid (R1.out.below hb)
  have R2 := Lib.hid (R2.out.below hb)
  have B3 := bt B2 (Lib.hid hb)
  clear hb B2
  go_wp2_with fail
  refine (HPT.out w3 A2 M c2 R2.out HbM.out HC2.out).mono ?_
  rintro e w4 ⟨A4, n4, hl, rfl, hr, hb, hq⟩
  obtain rfl : K = n4 := HwK.out.symm.trans hl
  clear hl hq
  have R4 := Lib.hid hr
  clear hr
  have R1 := Lib.hid (R1.out.below hb)
  have R2 := Lib.hid (R2.out.below hb)
  have R3 := Lib.hid (R3.out.below hb)
  have B4 := bt B3 (Lib.hid hb)
  clear hb B3
  go_wp2_with fail
  refine (HCK.out w4 A2 M c2 R2.out HbM.out).mono ?_
  rintro e w' ⟨rfl, rfl⟩
  go_wp2_with fail
  refine (same_ok A4 A3 Q c3 K 0 w4 R4.out R3.out HwK.out).mono ?_
  rintro e w' ⟨rfl, rfl⟩
  go_wp2_with fail
  refine (HRD.out w4 A3 A2 K M c3 c2 R3.out R2.out HwK.out HbM.out HC3.out).mono ?_
  rintro e w5 ⟨rfl, hb⟩
  have R1 := Lib.hid (R1.out.below hb)
  have R2 := Lib.hid (R2.out.below hb)
  have R3 := Lib.hid (R3.out.below hb)
  have B5 := bt B4 (Lib.hid hb)
  clear hb B4
  go_wp2_with fail
  refine (HEL.out w5 A2 M c2 R2.out HbM.out HC2.out).mono ?_
  rintro e w6 ⟨A5, n5, hl, rfl, hr, hb⟩
  obtain rfl : K = n5 := HwK.out.symm.trans hl
  clear hl
  have R5 := Lib.hid hr
  clear hr
  have R1 := Lib.hid (R1.out.below hb)
  have R2 := Lib.hid (R2.out.below hb)
  have R3 := Lib.hid (R3.out.below hb)
  have B6 := bt B5 (Lib.hid hb)
  clear hb B5
  obtain ⟨D, wz, w7, hD, hwz, hkz, hw3, hk3, hb⟩ := var5 w6 3 A5 K
  obtain ⟨z0, z1, z2, z3, z4, zz⟩ := Bk.five hkz
  obtain ⟨y0, y1, y2, y3, y4⟩ := Bk.free5 hkz
  obtain ⟨x0, x1, x2, x3, x4, xz⟩ := Bk.five hk3
  have KY := Lib.hid hk3
  clear hkz hk3
  have R1 := Lib.hid (R1.out.below hb)
  have R2 := Lib.hid (R2.out.below hb)
  have R3 := Lib.hid (R3.out.below hb)
  have R5 := Lib.hid (R5.out.below hb)
  have B7 := bt B6 (Lib.hid hb)
  clear hb B6
  go_wp2_with fail
  clear z0 z1 z2 z3 z4 zz y0 y1 y2 y3 y4 hw3 hwz hD x0 x1 x2 x3 x4 xz
  refine (HOF.out w7 A5 K R5.out HwK.out).mono ?_
  rintro e w8 ⟨A6, n6, hl, rfl, hr, hb, hq⟩
  obtain rfl : M = n6 := HbM.out.symm.trans hl
  clear hl hq
  have R6 := Lib.hid hr
  clear hr
  have R1 := Lib.hid (R1.out.below hb)
  have R2 := Lib.hid (R2.out.below hb)
  have R3 := Lib.hid (R3.out.below hb)
  have R5 := Lib.hid (R5.out.below hb)
  have KY := Lib.hid (KY.out.below hb KY.out.lt)
  have B8 := bt B7 (Lib.hid hb)
  clear hb B7
  obtain ⟨x0, x1, x2, x3, x4, xz⟩ := Bk.five KY.out
  clear KY
  go_wp2_with fail
  clear x0 x1 x2 x3 x4 xz
  refine (is_ok A5 A3 Q 3 K c3 w8 R5.out R3.out HwK.out).mono ?_
  rintro e w9 ⟨rfl, hb⟩
  have R1 := Lib.hid (R1.out.below hb)
  have R2 := Lib.hid (R2.out.below hb)
  have R3 := Lib.hid (R3.out.below hb)
  have R5 := Lib.hid (R5.out.below hb)
  have R6 := Lib.hid (R6.out.below hb)
  have B9 := bt B8 (Lib.hid hb)
  clear hb B8
  go_wp2_with fail
  refine (same_ok A6 A2 b c2 M 0 w9 R6.out R2.out HbM.out).mono ?_
  rintro e w' ⟨rfl, rfl⟩
  go_wp2_with fail
  have hn9 : (n : Int) ≤ 300 := by omega
  go_loopw [16] (fun s wr => ∃ m : Nat, m ≤ n ∧ s = .int .i64 (m : Int) ∧ Below w.heap.size w wr ∧ Below w9.heap.size w9 wr) (fun s _ => n - (intOf s).toNat)
  case atStart => exact ⟨0, Nat.zero_le _, rfl, B9.out, Below.refl _ _⟩
  case round =>
    obtain ⟨m, hm, rfl, hbw, hbk⟩ := hrel
    have HBW := Lib.hid hbw
    have HBK := Lib.hid hbk
    clear hbw hbk
    by_cases hlt : m < n
    · have hml : m < P.length := by rw [HPn.out]; exact hlt
      obtain ⟨bb, off, rfl, hbz, hcell⟩ := (R1.out.below HBK.out).at_ hml
      have HSS := Lib.hid (show ∀ w', Below wr.heap.size wr w' → w'.cell? ⟨bb, off + m, none⟩ = some (.int .i64 ((P[m]'hml : Nat) : Int)) from fun w' hb => (hb.cell (p := ⟨bb, off + m, none⟩) hbz).trans hcell)
      have hbt := HIN.out m hlt
      have hy : P.getD m 0 = P[m]'hml := by rw [List.getD_eq_getElem?_getD, List.getElem?_eq_getElem hml]; rfl
      rw [hy] at hbt
      generalize P[m]'hml = y at *
      have hbi : decide (y = 1) = ((y : Int) == 1) := by
        by_cases h1 : y = 1
        · subst h1; rfl
        · rw [decide_eq_false h1, Eq.comm, beq_eq_false_iff_ne]; omega
      have HBB := Lib.hid (HBT.out wr.drew A2 M c2 (m : Int) (R2.out.below (HBK.out.drew)) HbM.out (by omega) (by omega))
      rw [hbt, hbi] at HBB
      obtain ⟨be, hbe⟩ : ∃ be, ((y : Int) == 1) = be := ⟨_, rfl⟩
      rw [hbe] at HBB
      have hne : (be != be) = false := by simp
      have r0 := Below.refl wr.heap.size wr
      have hmn : (m : Int) < (n : Int) := by omega
      clear hbt hy hbi hcell hbz hml
      go_wp2_with fail
      refine wp_region_held_drew (S := fun w' => w'.cell? ⟨bb, off + m, none⟩ = some (.int .i64 (y : Int))) (by kernel_rfl) (HSS.out _ r0.drew) (fun hS => ?_)
      refine wpAnyH_take (i := 0) (oi := ⟨some 83, _, _, _, _, _⟩) (v := .slice A2 M c2) rfl (by kernel_rfl) (by kernel_rfl) (by kernel_rfl) (fun _ _ _ h => h) (Or.inl ⟨by rfl, fun w hSw => by (try dsimp only at hSw); go_simp⟩) hS ?_
      simp only [Act.put, List.setIfInBounds_toArray, List.set_cons_zero, List.set_cons_succ]
      refine wpAnyH_take (i := 1) (oi := ⟨some 84, _, _, _, _, _⟩) (v := .int .i64 (n : Int)) rfl (by kernel_rfl) (by kernel_rfl) (by kernel_rfl) (fun _ _ _ h => h) (Or.inl ⟨by rfl, fun w hSw => by (try dsimp only at hSw); go_simp⟩) hS ?_
      simp only [Act.put, List.setIfInBounds_toArray, List.set_cons_zero, List.set_cons_succ]
      refine wpAnyH_take (i := 2) (oi := ⟨some 85, _, _, _, _, _⟩) (v := .int .i64 (m : Int)) rfl (by kernel_rfl) (by kernel_rfl) (by kernel_rfl) (fun _ _ _ h => h) (Or.inl ⟨by rfl, fun w hSw => by (try dsimp only at hSw); go_simp⟩) hS ?_
      simp only [Act.put, List.setIfInBounds_toArray, List.set_cons_zero, List.set_cons_succ]
      refine wpAnyH_take (i := 4) (oi := ⟨some 87, _, _, _, _, _⟩) (v := .slice (some ⟨bb, off, none⟩) n c1) rfl (by kernel_rfl) (by kernel_rfl) (by kernel_rfl) (fun _ _ _ h => h) (Or.inl ⟨by rfl, fun w hSw => by (try dsimp only at hSw); go_simp⟩) hS ?_
      simp only [Act.put, List.setIfInBounds_toArray, List.set_cons_zero, List.set_cons_succ]
      refine wpAnyH_take (i := 5) (oi := ⟨some 88, _, _, _, _, _⟩) (v := .int .i64 (m : Int)) rfl (by kernel_rfl) (by kernel_rfl) (by kernel_rfl) (fun _ _ _ h => h) (Or.inl ⟨by rfl, fun w hSw => by (try dsimp only at hSw); go_simp⟩) hS ?_
      simp only [Act.put, List.setIfInBounds_toArray, List.set_cons_zero, List.set_cons_succ]
      refine wpAnyH_take (i := 6) (oi := ⟨some 89, _, _, _, _, _⟩) (v := .pointer (some ⟨bb, off + m, none⟩)) rfl (by kernel_rfl) (by kernel_rfl) (by kernel_rfl) (fun _ _ _ h => h) (Or.inl ⟨by rfl, fun w hSw => by (try dsimp only at hSw); go_simp⟩) hS ?_
      simp only [Act.put, List.setIfInBounds_toArray, List.set_cons_zero, List.set_cons_succ]
      refine wpAnyH_take (i := 7) (oi := ⟨some 90, _, _, _, _, _⟩) (v := .int .i64 (y : Int)) rfl (by kernel_rfl) (by kernel_rfl) (by kernel_rfl) (fun _ _ _ h => h) (Or.inl ⟨by rfl, fun w hSw => by (try dsimp only at hSw); go_simp⟩) hS ?_
      simp only [Act.put, List.setIfInBounds_toArray, List.set_cons_zero, List.set_cons_succ]
      refine wpAnyH_take (i := 8) (oi := ⟨some 91, _, _, _, _, _⟩) (v := .bool be) rfl (by kernel_rfl) (by kernel_rfl) (by kernel_rfl) (fun _ _ _ h => h) (Or.inl ⟨by rfl, fun w hSw => by (try dsimp only at hSw); go_simp⟩) hS ?_
      simp only [Act.put, List.setIfInBounds_toArray, List.set_cons_zero, List.set_cons_succ]
      refine wpAnyH_ready (rs := [3]) (by kernel_rfl) (by simp) ?_
      refine AllReadyH.cons (o := _) rfl (fun K hK => ?_) (AllReadyH.nil)
      go_simp
      refine HBB.out.mono ?_
      rintro e u1 ⟨rfl, hb⟩
      have d1 := r0.drew.trans (hb.mono r0.drew.size)
      clear hb
      refine hK.out _ _ (HSS.out _ d1) (fun hS => ?_)
      clear hK K
      (try simp only [Act.put, List.setIfInBounds_toArray, List.set_cons_zero, List.set_cons_succ])
      refine wpAnyH_take (i := 9) (oi := ⟨some 92, _, _, _, _, _⟩) (v := .bool false) rfl (by kernel_rfl) (by kernel_rfl) (by kernel_rfl) (fun _ _ _ h => h) (Or.inl ⟨by rfl, fun w hSw => by (try dsimp only at hSw); go_simp⟩) hS ?_
      simp only [Act.put, List.setIfInBounds_toArray, List.set_cons_zero, List.set_cons_succ]
      refine wpAnyH_done (by kernel_rfl) ?_ _
      go_wp2_with fail
      exact ⟨⟨m + 1, by omega, by go_num, HBW.out.trans (d1.mono HBW.out.size), HBK.out.trans (d1.mono HBK.out.size)⟩, by simp [intOf]; omega⟩
    · have hmn : ¬ (m : Int) < (n : Int) := by omega
      have hmn2 : decide (m < n) = false := by simp; omega
      have R2 := Lib.hid (R2.out.below HBK.out)
      have HB1 := Lib.hid (HBT.out wr A2 M c2 i R2.out HbM.out HI12.out.1 HI12.out.2)
      clear hlt
      by_cases hi0 : 0 ≤ i
      · by_cases hin : i < (n : Int)
        · clear HB1
          go_wp2_with fail
          refine (lives1 wr).mono ?_
          rintro e u1 ⟨rfl, hb⟩
          have hbb := HBW.out.trans (hb.mono HBW.out.size)
          clear hb
          go_wp2_with fail
          go_ret
          exact ⟨rfl, hbb⟩
        · rw [HOUT.out (Or.inr (by omega))] at HB1
          have hin2 : decide (i < (n : Int)) = false := by simp; omega
          go_wp2_with fail
          refine HB1.out.mono ?_
          rintro e u0 ⟨rfl, hb0⟩
          have HBB := Lib.hid (HBW.out.trans (hb0.mono HBW.out.size))
          clear hb0
          go_wp2_with fail
          refine (lives1 u0).mono ?_
          rintro e u1 ⟨rfl, hb⟩
          have hbb := HBB.out.trans (hb.mono HBB.out.size)
          clear hb
          go_wp2_with fail
          go_ret
          exact ⟨rfl, hbb⟩
      · rw [HOUT.out (Or.inl (by omega))] at HB1
        have hi2 : decide (0 ≤ i) = false := by simp; omega
        go_wp2_with fail
        refine HB1.out.mono ?_
        rintro e u0 ⟨rfl, hb0⟩
        have HBB := Lib.hid (HBW.out.trans (hb0.mono HBW.out.size))
        clear hb0
        go_wp2_with fail
        refine (lives1 u0).mono ?_
        rintro e u1 ⟨rfl, hb⟩
        have hbb := HBB.out.trans (hb.mono HBB.out.size)
        clear hb
        go_wp2_with fail
        go_ret
        exact ⟨rfl, hbb⟩

open Go.ChangeShapes Go.WideShapes Go.ChangeAt
set_option maxRecDepth 100000 in
theorem bitstringsBack_lifted (os : Os) (started : os.Started) (H : Type) (enc : TypeId × Value → H) :
    ReturnsInHanded {} Try.checked os 3 .any (Rows.bitstringsBackSpec.pre6 enc Try.prog Try.f3 Rows.bitstringsBackRow.domain false) (Rows.bitstringsBackSpec.post enc Try.prog Try.f3 false true false false) := by
  refine returnsInHanded_of_change (C := Try.checked) x_own started (by kernel_rfl) Try.func3
    (ChangeSpec.witness6 (enc := enc) (C := Try.checked) false ⟨#[], #[.agg #[.slice none 0 0], .int .i64 0], []⟩ 8 (by kernel_rfl) (by kernel_rfl) (by kernel_rfl) (by kernel_rfl)) ?_
  intro W base args ds gs before hval0 hW hcnd _
  have hval : ∀ (j : Nat) t v, Try.f3.params[j]? = some t → args[j]? = some v → Value.okWide Try.prog W .any base t v := hval0
  have hW' := hW
  obtain ⟨p, q, hA0, hV, rfl, hfz, hnd⟩ := hW
  have hA : DataW.TrodAll enc Try.prog W 0 (fun _ => true) true Try.f3.params.toList args.toList ds p := hA0
  rw [Try.params3] at hA hval
  obtain ⟨v0, v1, d0, d1, p0, p1, rfl, rfl, rfl, h0, h1⟩ := trodAll_two hA
  obtain ⟨rfl, rfl⟩ := trodVars_none hV
  obtain ⟨A, l, c, rfl, hR, hlc, hcm⟩ := open_L (hval 0 _ v0 rfl rfl) h0
  obtain ⟨z, rfl, hz1, hz2⟩ := open_i64 (hval 1 _ v1 rfl rfl) h1
  clear hA0 hval0
  refine (back_walk A l l.length c z W hR rfl (Nat.le_trans hlc hcm) hz1 hz2).mono fun e W' ⟨he, hb⟩ => ?_
  subst he
  exact ⟨_, rfl, law_post (tb := 4) x_laid (by decide +kernel) rfl rfl (by kernel_rfl) Try.underlying4 hW' hb⟩

/-- The statement. -/
theorem bitstringsBack_holds : Rows.BitstringsBackSaid :=
  OpenClaim.holds_of_wide 3 Try.f3 rfl rfl rfl rfl rfl rfl rfl ⟨rfl, rfl, rfl, rfl, rfl⟩ rfl rfl rfl rfl rfl (by kernel_rfl) Try.func3 (by kernel_rfl)
    (of_decide_eq_true (by kernel_rfl)) (by unfold Func.isWrapper; first | (rw [if_pos (by decide +kernel)]; kernel_rfl) | (rw [if_neg (by decide +kernel)]; exact ⟨rfl, rfl⟩))
    (fun os started H enc _ => bitstringsBack_lifted os started H enc)
end Go.Proofs.Ytnebjdgolbnkfaa.Bit
