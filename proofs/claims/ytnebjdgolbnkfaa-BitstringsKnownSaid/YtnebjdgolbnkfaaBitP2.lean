/-
  Layer 8, the statement BitstringsGet: content octets are read as the definition says, and only those that are returned for some value; the examples of the chapter hold.
  Conditions: none.
-/
import Derived.Test.YtnebjdgolbnkfaaBitR
import Derived.Deep.RegionHeld3
import Derived.Deep.RegionWith
import Derived.Deep.DeepCutAuto
namespace Go.Proofs.Ytnebjdgolbnkfaa.Bit
open Go.RowKit

set_option linter.unusedSimpArgs false in
set_option maxHeartbeats 6400000 in
set_option maxRecDepth 100000 in
theorem get_walk (A : Option Addr) (l : List Nat) (N c : Nat) (w : World) (h : Rb w A l) (hN : l.length = N) (hc : N ≤ c) (hm : c ≤ maxLen) :
    Calls Try.prog 4 #[.slice A N c] w fun e w' => e = .returned (.bool true) ∧ Below w.heap.size w w' := by
  unfold maxLen at hm
  have B0 := Lib.hid (Below.refl w.heap.size w)
  by_cases h60 : 60 < N
  · have h60' : (60 : Int) < (N : Int) := by omega
    clear h hN
    go_enter Try.func4, Try.ntmps4
    go_wp2_with fail
    refine (lives1 w).mono ?_
    rintro e w1 ⟨rfl, hb⟩
    have B1 := bt B0 (Lib.hid hb)
    clear hb B0
    go_wp2_with fail
    go_ret
    exact ⟨rfl, B1.out⟩
  have hN6 : N ≤ 60 := by omega
  clear h60
  have hcm : N ≤ c ∧ c ≤ 2 ^ 63 - 1 := ⟨hc, hm⟩
  have R0 := Lib.hid h
  have RW := Lib.hid h
  have HN := Lib.hid hN
  have hbb := gtL_byt h.2
  have HG := Lib.hid (fun (W : World) (hW : Rb W A l) => rget_any A l N c W hW hN (by omega) hc)
  have HGN := Lib.hid (fun (W : World) (hW : Rb W A l) => rgetn_any A l N c W hW hN (by omega) hc)
  have HNM := Lib.hid (fun (W : World) (hW : Rb W A l) => named_ok A l N c (gnV l) (gnE l) W hW hN hc (by omega) rfl rfl)
  have HPG := Lib.hid (fun (he : gtE l = 0) => put_get he)
  have HPN := Lib.hid (fun (he : gnE l = 0) => pn_gn h.2 he)
  have hvl := gnV_lt l
  have HVL := Lib.hid hvl
  have HL2 := Lib.hid (show Lt 2 (gtL l) from fun x hx => by
    unfold gtL at hx
    split at hx
    · exact bts_lt _ x (List.mem_of_mem_take hx)
    · cases hx)
  have HB8 := Lib.hid (show All8 (byt (gtL l)) from byt_all HL2.out)
  have HBB := Lib.hid hbb.1
  have HKK := Lib.hid hbb.2
  have HRD := Lib.hid (fun (W : World) (A2 : Option Addr) (n2 c2 : Nat) (hW : Rb W A l) (hW2 : Rb W A2 (byt (gtL l))) (hn2 : (byt (gtL l)).length = n2) => read_ok A A2 l (byt (gtL l)) N c n2 c2 (gtK l) (gtE l) W hW hW2 hN hn2 hc (by omega) HBB.out.symm rfl rfl)
  have hlen : gtK l ≤ 480 := by
    rw [← HKK.out]; unfold gtL
    split
    · rw [List.length_take, bts_length, List.length_tail, hN]; omega
    · simp
  have HBY := Lib.hid (fun (W : World) (A2 : Option Addr) (c2 : Nat) (hW : Ri W A2 (gtL l)) => rbytes_any A2 (gtL l) (gtK l) c2 W hW HL2.out HKK.out (by omega))
  have HBL := Lib.hid (show (byt (gtL l)).length ≤ 60 by rw [byt_length, HKK.out]; omega)
  have HPT := Lib.hid (fun (W : World) (A2 : Option Addr) (n2 c2 : Nat) (hW : Rb W A2 (byt (gtL l))) (hn2 : (byt (gtL l)).length = n2) (hc2 : n2 ≤ c2) (hE : gtE l = 0) => by
    have h1 := put_any A2 (byt (gtL l)) n2 c2 (gtK l : Nat) W hW hn2 (by have := HBL.out; omega) hc2 (by omega) (by omega)
    rw [HBB.out, (HPG.out hE).1, (HPG.out hE).2] at h1
    exact h1)
  have HGE := Lib.hid (fun (W : World) (hW : Rb W A l) => HG.out W hW)
  obtain ⟨S, hS0⟩ : ∃ S, bstr l = S := ⟨_, rfl⟩
  have HConv := Lib.hid (fun (w' : World) (hb : Below w.heap.size w w') => (show (convert 22 9 (.slice A N c)).run Try.prog w' = .ok (.string S) w' by have := run_str8 (RW.out.below hb) c; rwa [HN.out, hS0] at this))
  have HPB : Hid (gnE l = 0 → ∀ w1, Calls Try.prog 23 #[.int .u64 ((gnV l : Nat) : Int)] w1 fun e w' => ∃ A, e = .returned (.slice A N N) ∧ (∀ w2, Below w'.heap.size w' w2 → (convert 22 9 (.slice A N N)).run Try.prog w2 = .ok (.string S) w2) ∧ Below w1.heap.size w1 w') := Lib.hid fun he w1 => by
    refine (putn_any (gnV l) w1 HVL.out).mono fun _ _ ⟨g, h1, h2, h3, h4, _⟩ => ?_
    rw [HPN.out he] at h1 h2
    rw [HN.out] at h1
    exact ⟨_, h1, fun _ hb => by have := run_str8 (h2.below hb) N; rwa [HN.out, hS0] at this, h4⟩
  clear hvl hbb h hN HG HPG HPN HVL hS0 hc hm HL2 HB8 HBB
  generalize gnV l = v at *
  generalize gnE l = g at *
  generalize gtE l = f at *
  generalize byt (gtL l) = b at *
  generalize gtL l = L at *
  generalize gtK l = k at *
  go_enter Try.func4, Try.ntmps4
  go_wp2_with fail
  refine (HGE.out w R0.out).mono ?_
  rintro e w1 ⟨A1, n1, c1, hl, rfl, hr, hc1, hc2, hb⟩
  have R1 := Lib.hid hr
  clear hr
  have R0 := Lib.hid (R0.out.below hb)
  have B1 := bt B0 (Lib.hid hb)
  clear hb B0
  obtain rfl : n1 = k := hl.symm.trans HKK.out
  clear hl hc1 hc2
  go_wp2_with fail
  refine (HBY.out w1 A1 c1 R1.out).mono ?_
  rintro e w2 ⟨A2, n2, c2, hl, rfl, hr, hc1, hc2, hb⟩
  have R2 := Lib.hid hr
  clear hr
  have R0 := Lib.hid (R0.out.below hb)
  have R1 := Lib.hid (R1.out.below hb)
  have B2 := bt B1 (Lib.hid hb)
  clear hb B1
  have L2 := Lib.hid hl
  clear hl hc1 hc2
  go_wp2_with fail
  refine (HRD.out w2 A2 n2 c2 R0.out R2.out L2.out).mono ?_
  rintro e w3 ⟨rfl, hb⟩
  have R0 := Lib.hid (R0.out.below hb)
  have R1 := Lib.hid (R1.out.below hb)
  have B3 := bt B2 (Lib.hid hb)
  clear hb B2
  clear HRD L2
  go_upto_if 26 with (fail)
  go_cut [4] (fun s wx => Below w.heap.size w wx)
  case first =>
    by_cases hf : f = 0
    · subst hf
      have HPT0 := Lib.hid (fun (W : World) (A2 : Option Addr) (n2 c2 : Nat) (hW : Rb W A2 b) (hn2 : b.length = n2) (hc2 : n2 ≤ c2) => HPT.out W A2 n2 c2 hW hn2 hc2 rfl)
      clear HPT HGN HNM HPB HConv
      go_wp2_with fail
      refine (HBY.out w3 A1 c1 R1.out).mono ?_
      rintro e w4 ⟨A3, n3, c3, hl, rfl, hr, hc1, hc2, hb⟩
      have R3 := Lib.hid hr
      clear hr
      have R0 := Lib.hid (R0.out.below hb)
      have B4 := bt B3 (Lib.hid hb)
      clear hb B3
      have L3 := Lib.hid hl
      have HC3 := Lib.hid hc1
      clear hl hc1 hc2
      go_wp2_with fail
      refine (HPT0.out w4 A3 n3 c3 R3.out L3.out HC3.out).mono ?_
      rintro e w5 ⟨A4, n4, hl, rfl, hr, hb, hq⟩
      clear hq
      obtain rfl : N = n4 := HN.out.symm.trans hl
      clear hl
      have R4 := Lib.hid hr
      clear hr
      have R0 := Lib.hid (R0.out.below hb)
      have B5 := bt B4 (Lib.hid hb)
      clear hb B4
      go_wp2_with fail
      refine (same_ok A4 A l c N 0 w5 R4.out R0.out HN.out).mono ?_
      rintro e w' ⟨rfl, rfl⟩
      go_wp2_with fail
      go_meet
      exact B5.out
    · have hf1 : ((f : Int) == 0) = false := by simp; omega
      clear hf HBY HPT
      go_wp2_with fail
      go_meet
      exact B3.out
  case rest =>
    have B1 := Lib.hid hcut
    have R0 := Lib.hid (RW.out.below hcut)
    clear hcut HBY HPT
    by_cases hg : g = 0
    · subst hg
      have HPB0 := Lib.hid (HPB.out rfl)
      clear HPB
      go_wp2_with fail
      refine (HGN.out wc R0.out).mono ?_
      rintro e w2 ⟨rfl, hb⟩
      have R0 := Lib.hid (R0.out.below hb)
      have B2 := bt B1 (Lib.hid hb)
      clear hb B1
      go_wp2_with fail
      have b1 := B2.out
      have s00 := HConv.out _ b1.drew
      have q1 : (S.toList == S.toList) = true := by simp
      refine wp_region_held_drew (S := fun w' => (convert 22 9 (.slice A N c)).run Try.prog w' = .ok (.string S) w') (by kernel_rfl) (s00) (fun hS => ?_)
      refine wpAnyH_take (i := 0) (oi := ⟨some 45, _, _, _, _, _⟩) (v := .slice A N c) rfl (by kernel_rfl) (by kernel_rfl) (by kernel_rfl) (fun _ _ _ h => h) (Or.inl ⟨by rfl, fun w hSw => by (try dsimp only at hSw); go_simp⟩) hS ?_
      simp only [Act.put, List.setIfInBounds_toArray, List.set_cons_zero, List.set_cons_succ]
      refine wpAnyH_take (i := 1) (oi := ⟨some 46, _, _, _, _, _⟩) (v := .int .u64 (v : Int)) rfl (by kernel_rfl) (by kernel_rfl) (by kernel_rfl) (fun _ _ _ h => h) (Or.inl ⟨by rfl, fun w hSw => by (try dsimp only at hSw); go_simp⟩) hS ?_
      simp only [Act.put, List.setIfInBounds_toArray, List.set_cons_zero, List.set_cons_succ]
      refine wpAnyH_take (i := 2) (oi := ⟨some 47, _, _, _, _, _⟩) (v := .int .i64 0) rfl (by kernel_rfl) (by kernel_rfl) (by kernel_rfl) (fun _ _ _ h => h) (Or.inl ⟨by rfl, fun w hSw => by (try dsimp only at hSw); go_simp⟩) hS ?_
      simp only [Act.put, List.setIfInBounds_toArray, List.set_cons_zero, List.set_cons_succ]
      refine wpAnyH_ready (rs := [3]) (by kernel_rfl) (by simp) ?_
      refine AllReadyH.cons (o := _) rfl (fun K hK => ?_) (AllReadyH.nil)
      go_simp
      refine (HNM.out _ (R0.out.below (bel_drew w2))).mono ?_
      rintro e u1 ⟨rfl, hb⟩
      have d1 := b1.drew.trans (hb.mono b1.drew.size)
      clear hb
      refine hK.out _ _ (HConv.out _ d1) (fun hS => ?_)
      clear hK K
      (try simp only [Act.put, List.setIfInBounds_toArray, List.set_cons_zero, List.set_cons_succ])
      refine wpAnyH_take (i := 4) (oi := ⟨some 49, _, _, _, _, _⟩) (v := .bool true) rfl (by kernel_rfl) (by kernel_rfl) (by kernel_rfl) (fun _ _ _ h => h) (Or.inl ⟨by rfl, fun w hSw => by (try dsimp only at hSw); go_simp⟩) hS ?_
      simp only [Act.put, List.setIfInBounds_toArray, List.set_cons_zero, List.set_cons_succ]
      refine wpAnyH_take (i := 5) (oi := ⟨some 50, _, _, _, _, _⟩) (v := .int .i64 0) rfl (by kernel_rfl) (by kernel_rfl) (by kernel_rfl) (fun _ _ _ h => h) (Or.inl ⟨by rfl, fun w hSw => by (try dsimp only at hSw); go_simp⟩) hS ?_
      simp only [Act.put, List.setIfInBounds_toArray, List.set_cons_zero, List.set_cons_succ]
      refine wpAnyH_take (i := 6) (oi := ⟨some 51, _, _, _, _, _⟩) (v := .bool false) rfl (by kernel_rfl) (by kernel_rfl) (by kernel_rfl) (fun _ _ _ h => h) (Or.inl ⟨by rfl, fun w hSw => by (try dsimp only at hSw); go_simp⟩) hS ?_
      simp only [Act.put, List.setIfInBounds_toArray, List.set_cons_zero, List.set_cons_succ]
      refine wpAnyH_take (i := 7) (oi := ⟨some 52, _, _, _, _, _⟩) (v := .bool false) rfl (by kernel_rfl) (by kernel_rfl) (by kernel_rfl) (fun _ _ _ h => h) (Or.inl ⟨by rfl, fun w hSw => by (try dsimp only at hSw); go_simp⟩) hS ?_
      simp only [Act.put, List.setIfInBounds_toArray, List.set_cons_zero, List.set_cons_succ]
      refine wpAnyH_take (i := 8) (oi := ⟨some 53, _, _, _, _, _⟩) (v := .int .u64 (v : Int)) rfl (by kernel_rfl) (by kernel_rfl) (by kernel_rfl) (fun _ _ _ h => h) (Or.inl ⟨by rfl, fun w hSw => by (try dsimp only at hSw); go_simp⟩) hS ?_
      simp only [Act.put, List.setIfInBounds_toArray, List.set_cons_zero, List.set_cons_succ]
      refine wpAnyH_take (i := 11) (oi := ⟨some 56, _, _, _, _, _⟩) (v := .slice A N c) rfl (by kernel_rfl) (by kernel_rfl) (by kernel_rfl) (fun _ _ _ h => h) (Or.inl ⟨by rfl, fun w hSw => by (try dsimp only at hSw); go_simp⟩) hS ?_
      simp only [Act.put, List.setIfInBounds_toArray, List.set_cons_zero, List.set_cons_succ]
      refine wpAnyH_take (i := 12) (oi := ⟨some 57, _, _, _, _, _⟩) (v := .string S) rfl (by kernel_rfl) (by kernel_rfl) (by kernel_rfl) (fun _ _ _ h => h) (Or.inl ⟨by rfl, fun w hSw => by (try dsimp only at hSw); go_simp⟩) hS ?_
      simp only [Act.put, List.setIfInBounds_toArray, List.set_cons_zero, List.set_cons_succ]
      refine wpAnyH_ready (rs := [9]) (by kernel_rfl) (by simp) ?_
      refine AllReadyH.cons (o := _) rfl (fun K hK => ?_) (AllReadyH.nil)
      go_simp
      refine (HPB0.out u1).mono ?_
      rintro e u2 ⟨A9, rfl, hs, hb⟩
      have d2 := d1.trans (hb.mono d1.size)
      have s1 := hs _ (Below.refl _ _)
      clear hb hs
      refine hK.out _ _ (HConv.out _ d2) (fun hS => ?_)
      clear hK K
      (try simp only [Act.put, List.setIfInBounds_toArray, List.set_cons_zero, List.set_cons_succ])
      refine wpAnyH_ready (rs := [10]) (by kernel_rfl) (by simp) ?_
      refine AllReadyH.cons (o := _) rfl (fun K hK => ?_) (AllReadyH.nil)
      go_simp
      refine hK.out _ _ (HConv.out _ d2) (fun hS => ?_)
      clear hK K
      (try simp only [Act.put, List.setIfInBounds_toArray, List.set_cons_zero, List.set_cons_succ])
      refine wpAnyH_take (i := 13) (oi := ⟨some 58, _, _, _, _, _⟩) (v := .bool true) rfl (by kernel_rfl) (by kernel_rfl) (by kernel_rfl) (fun _ _ _ h => h) (Or.inl ⟨by rfl, fun w hSw => by (try dsimp only at hSw); go_simp⟩) hS ?_
      simp only [Act.put, List.setIfInBounds_toArray, List.set_cons_zero, List.set_cons_succ]
      refine wpAnyH_take (i := 14) (oi := ⟨some 59, _, _, _, _, _⟩) (v := .bool true) rfl (by kernel_rfl) (by kernel_rfl) (by kernel_rfl) (fun _ _ _ h => h) (Or.inl ⟨by rfl, fun w hSw => by (try dsimp only at hSw); go_simp⟩) hS ?_
      simp only [Act.put, List.setIfInBounds_toArray, List.set_cons_zero, List.set_cons_succ]
      refine wpAnyH_take (i := 15) (oi := ⟨some 60, _, _, _, _, _⟩) (v := .bool true) rfl (by kernel_rfl) (by kernel_rfl) (by kernel_rfl) (fun _ _ _ h => h) (Or.inl ⟨by rfl, fun w hSw => by (try dsimp only at hSw); go_simp⟩) hS ?_
      simp only [Act.put, List.setIfInBounds_toArray, List.set_cons_zero, List.set_cons_succ]
      refine wpAnyH_take (i := 16) (oi := ⟨some 61, _, _, _, _, _⟩) (v := .bool true) rfl (by kernel_rfl) (by kernel_rfl) (by kernel_rfl) (fun _ _ _ h => h) (Or.inl ⟨by rfl, fun w hSw => by (try dsimp only at hSw); go_simp⟩) hS ?_
      simp only [Act.put, List.setIfInBounds_toArray, List.set_cons_zero, List.set_cons_succ]
      refine wpAnyH_ready (rs := [17]) (by kernel_rfl) (by simp) ?_
      refine AllReadyH.cons (o := _) rfl (fun K hK => ?_) (AllReadyH.nil)
      go_simp
      refine (lives1 u2).mono ?_
      rintro e u3 ⟨rfl, hb⟩
      have d3 := d2.trans (hb.mono d2.size)
      clear hb
      refine hK.out _ _ (HConv.out _ d3) (fun hS => ?_)
      clear hK K
      (try simp only [Act.put, List.setIfInBounds_toArray, List.set_cons_zero, List.set_cons_succ])
      refine wpAnyH_take (i := 18) (oi := ⟨some 63, _, _, _, _, _⟩) (v := .bool true) rfl (by kernel_rfl) (by kernel_rfl) (by kernel_rfl) (fun _ _ _ h => h) (Or.inl ⟨by rfl, fun w hSw => by (try dsimp only at hSw); go_simp⟩) hS ?_
      simp only [Act.put, List.setIfInBounds_toArray, List.set_cons_zero, List.set_cons_succ]
      refine wpAnyH_take (i := 19) (oi := ⟨some 2, _, _, _, _, _⟩) (v := .bool true) rfl (by kernel_rfl) (by kernel_rfl) (by kernel_rfl) (fun _ _ _ h => h) (Or.inl ⟨by rfl, fun w hSw => by (try dsimp only at hSw); go_simp⟩) hS ?_
      simp only [Act.put, List.setIfInBounds_toArray, List.set_cons_zero, List.set_cons_succ]
      refine wpAnyH_done (by kernel_rfl) ?_ _
      go_wp2_with fail
      go_ret
      exact ⟨rfl, d3⟩
    · have hg1 : ((g : Int) != 0) = true := by simp; omega
      clear hg HPB
      go_wp2_with fail
      refine (HGN.out wc R0.out).mono ?_
      rintro e w2 ⟨rfl, hb⟩
      have R0 := Lib.hid (R0.out.below hb)
      have B2 := bt B1 (Lib.hid hb)
      clear hb B1
      go_wp2_with fail
      have b1 := B2.out
      have s00 := HConv.out _ b1.drew
      have q1 : (S.toList == S.toList) = true := by simp
      refine wp_region_held_drew (S := fun w' => (convert 22 9 (.slice A N c)).run Try.prog w' = .ok (.string S) w') (by kernel_rfl) (s00) (fun hS => ?_)
      refine wpAnyH_take (i := 0) (oi := ⟨some 45, _, _, _, _, _⟩) (v := .slice A N c) rfl (by kernel_rfl) (by kernel_rfl) (by kernel_rfl) (fun _ _ _ h => h) (Or.inl ⟨by rfl, fun w hSw => by (try dsimp only at hSw); go_simp⟩) hS ?_
      simp only [Act.put, List.setIfInBounds_toArray, List.set_cons_zero, List.set_cons_succ]
      refine wpAnyH_take (i := 1) (oi := ⟨some 46, _, _, _, _, _⟩) (v := .int .u64 (v : Int)) rfl (by kernel_rfl) (by kernel_rfl) (by kernel_rfl) (fun _ _ _ h => h) (Or.inl ⟨by rfl, fun w hSw => by (try dsimp only at hSw); go_simp⟩) hS ?_
      simp only [Act.put, List.setIfInBounds_toArray, List.set_cons_zero, List.set_cons_succ]
      refine wpAnyH_take (i := 2) (oi := ⟨some 47, _, _, _, _, _⟩) (v := .int .i64 (g : Int)) rfl (by kernel_rfl) (by kernel_rfl) (by kernel_rfl) (fun _ _ _ h => h) (Or.inl ⟨by rfl, fun w hSw => by (try dsimp only at hSw); go_simp⟩) hS ?_
      simp only [Act.put, List.setIfInBounds_toArray, List.set_cons_zero, List.set_cons_succ]
      refine wpAnyH_ready (rs := [3]) (by kernel_rfl) (by simp) ?_
      refine AllReadyH.cons (o := _) rfl (fun K hK => ?_) (AllReadyH.nil)
      go_simp
      refine (HNM.out _ (R0.out.below (bel_drew w2))).mono ?_
      rintro e u1 ⟨rfl, hb⟩
      have d1 := b1.drew.trans (hb.mono b1.drew.size)
      clear hb
      refine hK.out _ _ (HConv.out _ d1) (fun hS => ?_)
      clear hK K
      (try simp only [Act.put, List.setIfInBounds_toArray, List.set_cons_zero, List.set_cons_succ])
      refine wpAnyH_take (i := 4) (oi := ⟨some 49, _, _, _, _, _⟩) (v := .bool true) rfl (by kernel_rfl) (by kernel_rfl) (by kernel_rfl) (fun _ _ _ h => h) (Or.inl ⟨by rfl, fun w hSw => by (try dsimp only at hSw); go_simp⟩) hS ?_
      simp only [Act.put, List.setIfInBounds_toArray, List.set_cons_zero, List.set_cons_succ]
      refine wpAnyH_take (i := 5) (oi := ⟨some 50, _, _, _, _, _⟩) (v := .int .i64 (g : Int)) rfl (by kernel_rfl) (by kernel_rfl) (by kernel_rfl) (fun _ _ _ h => h) (Or.inl ⟨by rfl, fun w hSw => by (try dsimp only at hSw); go_simp⟩) hS ?_
      simp only [Act.put, List.setIfInBounds_toArray, List.set_cons_zero, List.set_cons_succ]
      refine wpAnyH_take (i := 6) (oi := ⟨some 51, _, _, _, _, _⟩) (v := .bool true) rfl (by kernel_rfl) (by kernel_rfl) (by kernel_rfl) (fun _ _ _ h => h) (Or.inl ⟨by rfl, fun w hSw => by (try dsimp only at hSw); go_simp⟩) hS ?_
      simp only [Act.put, List.setIfInBounds_toArray, List.set_cons_zero, List.set_cons_succ]
      refine wpAnyH_take (i := 7) (oi := ⟨some 52, _, _, _, _, _⟩) (v := .bool true) rfl (by kernel_rfl) (by kernel_rfl) (by kernel_rfl) (fun _ _ _ h => h) (Or.inl ⟨by rfl, fun w hSw => by (try dsimp only at hSw); go_simp⟩) hS ?_
      simp only [Act.put, List.setIfInBounds_toArray, List.set_cons_zero, List.set_cons_succ]
      refine wpAnyH_take (i := 8) (oi := ⟨some 53, _, _, _, _, _⟩) (v := undef) rfl (by kernel_rfl) (by kernel_rfl) (by kernel_rfl) (fun _ _ _ h => h) (Or.inr ⟨by rfl, rfl⟩) hS ?_
      simp only [Act.put, List.setIfInBounds_toArray, List.set_cons_zero, List.set_cons_succ]
      refine wpAnyH_take (i := 9) (oi := ⟨some 54, _, _, _, _, _⟩) (v := undef) rfl (by kernel_rfl) (by kernel_rfl) (by kernel_rfl) (fun _ _ _ h => h) (Or.inr ⟨by rfl, rfl⟩) hS ?_
      simp only [Act.put, List.setIfInBounds_toArray, List.set_cons_zero, List.set_cons_succ]
      refine wpAnyH_take (i := 10) (oi := ⟨some 55, _, _, _, _, _⟩) (v := undef) rfl (by kernel_rfl) (by kernel_rfl) (by kernel_rfl) (fun _ _ _ h => h) (Or.inr ⟨by rfl, rfl⟩) hS ?_
      simp only [Act.put, List.setIfInBounds_toArray, List.set_cons_zero, List.set_cons_succ]
      refine wpAnyH_take (i := 11) (oi := ⟨some 56, _, _, _, _, _⟩) (v := undef) rfl (by kernel_rfl) (by kernel_rfl) (by kernel_rfl) (fun _ _ _ h => h) (Or.inr ⟨by rfl, rfl⟩) hS ?_
      simp only [Act.put, List.setIfInBounds_toArray, List.set_cons_zero, List.set_cons_succ]
      refine wpAnyH_take (i := 12) (oi := ⟨some 57, _, _, _, _, _⟩) (v := undef) rfl (by kernel_rfl) (by kernel_rfl) (by kernel_rfl) (fun _ _ _ h => h) (Or.inr ⟨by rfl, rfl⟩) hS ?_
      simp only [Act.put, List.setIfInBounds_toArray, List.set_cons_zero, List.set_cons_succ]
      refine wpAnyH_take (i := 13) (oi := ⟨some 58, _, _, _, _, _⟩) (v := undef) rfl (by kernel_rfl) (by kernel_rfl) (by kernel_rfl) (fun _ _ _ h => h) (Or.inr ⟨by rfl, rfl⟩) hS ?_
      simp only [Act.put, List.setIfInBounds_toArray, List.set_cons_zero, List.set_cons_succ]
      refine wpAnyH_take (i := 14) (oi := ⟨some 59, _, _, _, _, _⟩) (v := .bool true) rfl (by kernel_rfl) (by kernel_rfl) (by kernel_rfl) (fun _ _ _ h => h) (Or.inl ⟨by rfl, fun w hSw => by (try dsimp only at hSw); go_simp⟩) hS ?_
      simp only [Act.put, List.setIfInBounds_toArray, List.set_cons_zero, List.set_cons_succ]
      refine wpAnyH_take (i := 15) (oi := ⟨some 60, _, _, _, _, _⟩) (v := .bool true) rfl (by kernel_rfl) (by kernel_rfl) (by kernel_rfl) (fun _ _ _ h => h) (Or.inl ⟨by rfl, fun w hSw => by (try dsimp only at hSw); go_simp⟩) hS ?_
      simp only [Act.put, List.setIfInBounds_toArray, List.set_cons_zero, List.set_cons_succ]
      refine wpAnyH_take (i := 16) (oi := ⟨some 61, _, _, _, _, _⟩) (v := .bool true) rfl (by kernel_rfl) (by kernel_rfl) (by kernel_rfl) (fun _ _ _ h => h) (Or.inl ⟨by rfl, fun w hSw => by (try dsimp only at hSw); go_simp⟩) hS ?_
      simp only [Act.put, List.setIfInBounds_toArray, List.set_cons_zero, List.set_cons_succ]
      refine wpAnyH_ready (rs := [17]) (by kernel_rfl) (by simp) ?_
      refine AllReadyH.cons (o := _) rfl (fun K hK => ?_) (AllReadyH.nil)
      go_simp
      refine (lives1 u1).mono ?_
      rintro e u3 ⟨rfl, hb⟩
      have d3 := d1.trans (hb.mono d1.size)
      clear hb
      refine hK.out _ _ (HConv.out _ d3) (fun hS => ?_)
      clear hK K
      (try simp only [Act.put, List.setIfInBounds_toArray, List.set_cons_zero, List.set_cons_succ])
      refine wpAnyH_take (i := 18) (oi := ⟨some 63, _, _, _, _, _⟩) (v := .bool true) rfl (by kernel_rfl) (by kernel_rfl) (by kernel_rfl) (fun _ _ _ h => h) (Or.inl ⟨by rfl, fun w hSw => by (try dsimp only at hSw); go_simp⟩) hS ?_
      simp only [Act.put, List.setIfInBounds_toArray, List.set_cons_zero, List.set_cons_succ]
      refine wpAnyH_take (i := 19) (oi := ⟨some 2, _, _, _, _, _⟩) (v := .bool true) rfl (by kernel_rfl) (by kernel_rfl) (by kernel_rfl) (fun _ _ _ h => h) (Or.inl ⟨by rfl, fun w hSw => by (try dsimp only at hSw); go_simp⟩) hS ?_
      simp only [Act.put, List.setIfInBounds_toArray, List.set_cons_zero, List.set_cons_succ]
      refine wpAnyH_done (by kernel_rfl) ?_ _
      go_wp2_with fail
      go_ret
      exact ⟨rfl, d3⟩

open Go.ChangeShapes Go.WideShapes Go.ChangeAt
set_option maxRecDepth 100000 in
theorem bitstringsGet_lifted (os : Os) (started : os.Started) (H : Type) (enc : TypeId × Value → H) :
    ReturnsInHanded {} Try.checked os 4 .any (Rows.bitstringsGetSpec.pre6 enc Try.prog Try.f4 Rows.bitstringsGetRow.domain false) (Rows.bitstringsGetSpec.post enc Try.prog Try.f4 false true false false) := by
  refine returnsInHanded_of_change (C := Try.checked) x_own started (by kernel_rfl) Try.func4
    (ChangeSpec.witness6 (enc := enc) (C := Try.checked) false ⟨#[], #[.slice none 0 0], []⟩ 8 (by kernel_rfl) (by kernel_rfl) (by kernel_rfl) (by kernel_rfl)) ?_
  intro W base args ds gs before hval0 hW hcnd _
  have hval : ∀ (j : Nat) t v, Try.f4.params[j]? = some t → args[j]? = some v → Value.okWide Try.prog W .any base t v := hval0
  have hW' := hW
  obtain ⟨p, q, hA0, hV, rfl, hfz, hnd⟩ := hW
  have hA : DataW.TrodAll enc Try.prog W 0 (fun _ => true) true Try.f4.params.toList args.toList ds p := hA0
  rw [Try.params4] at hA hval
  obtain ⟨v0, d0, rfl, rfl, h0⟩ := trodAll_one hA
  obtain ⟨rfl, rfl⟩ := trodVars_none hV
  obtain ⟨A, l, c, rfl, hR, hlc, hcm⟩ := open_bytes (hval 0 _ v0 rfl rfl) h0
  clear hA0 hval0
  refine (get_walk A l l.length c W hR rfl hlc hcm).mono fun e W' ⟨he, hb⟩ => ?_
  subst he
  exact ⟨_, rfl, law_post (tb := 4) x_laid (by decide +kernel) rfl rfl (by kernel_rfl) Try.underlying4 hW' hb⟩

/-- The statement. -/
theorem bitstringsGet_holds : Rows.BitstringsGetSaid :=
  OpenClaim.holds_of_wide 4 Try.f4 rfl rfl rfl rfl rfl rfl rfl ⟨rfl, rfl, rfl, rfl, rfl⟩ rfl rfl rfl rfl rfl (by kernel_rfl) Try.func4 (by kernel_rfl)
    (of_decide_eq_true (by kernel_rfl)) (by unfold Func.isWrapper; first | (rw [if_pos (by decide +kernel)]; kernel_rfl) | (rw [if_neg (by decide +kernel)]; exact ⟨rfl, rfl⟩))
    (fun os started H enc _ => bitstringsGet_lifted os started H enc)
end Go.Proofs.Ytnebjdgolbnkfaa.Bit
