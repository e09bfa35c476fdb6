/-
  Layer 12: the reference's Offset: the offset of the element to which a path leads.
  Conditions: the element is valid, the path leads to one.
-/
import Derived.Test.YtfbdeefeagednaaFlRa
import Derived.Test.YtfbdeefeagednaaFlEo
namespace Go.Proofs.Ytfbdeefeagednaa.Fl
open Go.RowKit

set_option linter.unusedSimpArgs false in
set_option maxHeartbeats 4000000 in
set_option maxRecDepth 100000 in
theorem roff_any {x : Bool} {S : Nat → Prop} (e : El) (v : Value) (path : List Int) (P : Option Addr) (N pc : Nat) (w : World) (hE : RdE x S w e v) (hok : OKe e) (hP : Rd w P (csZ path)) (hN : path.length = N) (hN1 : N ≤ 1000000) (d : El) (hat : atE e path = some d) :
    Calls Try.prog 18 #[v, .slice P N pc] w fun e' w' => e' = .returned (.int .i64 ((offE e path : Nat) : Int)) ∧ Below w.heap.size w w' := by
  have hE2 : RdE x (· < w.heap.size) w e v := RdE.keep (Nat.le_refl _) (fun _ _ _ => rfl) (fun _ _ h => h) _ _ hE
  obtain ⟨c, n, k, u1, u2, hv⟩ : ∃ c n k u1 u2, v = elV c n k u1 u2 := by
    obtain ⟨c, n, k, A, l, q, A2, l2, q2, h⟩ := hE.form
    exact ⟨_, _, _, _, _, h⟩
  subst hv
  obtain ⟨G, hG⟩ : ∃ G, w.heap.size = G := ⟨_, rfl⟩
  obtain ⟨w1, hw1⟩ : ∃ v, w.alloc (.cells #[.int .u8 (c : Int), .bool k, .int .u32 (n : Int), u1, u2] 29) = v := ⟨_, rfl⟩
  have b1 : Below w.heap.size w w1 := by rw [← hw1]; exact bel1 _ _
  have k1 : Bk w1 G 29 [.int .u8 (c : Int), .bool k, .int .u32 (n : Int), u1, u2] := by rw [← hw1, ← hG]; exact Bk.new w _ [_, _, _, _, _]
  have K1 := Lib.hid k1
  have B1 := Lib.hid b1
  have HW := Lib.hid (And.intro hw1 hG)
  have HG := Lib.hid hG
  have E0 := Lib.hid hE2
  have HPA := Lib.hid hP
  have HN := Lib.hid hN
  have HOK := Lib.hid hok
  have HAT0 := Lib.hid hat
  have HLE := Lib.hid (offE_le path e hok)
  obtain ⟨L, hL⟩ : ∃ L, (encE e).length = L := ⟨_, rfl⟩
  have hLm : L ≤ 1048576 := by rw [← hL]; exact hok.2.2.2
  rw [hL] at HLE
  obtain ⟨R, hR⟩ : ∃ R, offE e path = R := ⟨_, rfl⟩
  have HRR := Lib.hid hR
  rw [hR] at HLE ⊢
  clear hE hE2 hok hat hP hN hR hG hw1 b1 k1 hL
  go_enter Try.func18, Try.ntmps18
  go_upto_region 1 with fail
  rw [HW.out.1, HW.out.2]
  go_wp2_with fail
  go_loopw [5, 6, 7, 8] (fun a i _ _ wr => ∃ (q z : Nat) (y : El) (c n : Nat) (k : Bool) (u1 u2 : Value), q ≤ N ∧ i = .int .i64 (q : Int) ∧ a = .int .i64 (z : Int) ∧ atE y (path.drop q) = some d ∧ R = z + offE y (path.drop q) ∧ OKe y ∧ z ≤ L ∧
      RdE x (· < w.heap.size) w y (elV c n k u1 u2) ∧ Bk wr G 29 [.int .u8 (c : Int), .bool k, .int .u32 (n : Int), u1, u2] ∧ Below w.heap.size w wr) (fun _ i _ _ _ => N - (intOf i).toNat)
  case atStart => exact ⟨0, 0, e, c, n, k, u1, u2, Nat.zero_le _, rfl, rfl, by rw [List.drop_zero]; exact HAT0.out, by rw [List.drop_zero, Nat.zero_add]; exact HRR.out.symm, HOK.out, Nat.zero_le _, E0.out, K1.out, B1.out⟩
  case round =>
    clear K1 B1 E0 HOK HRR HAT0
    obtain ⟨q, z, y, c, n, k, u1, u2, hq, rfl, rfl, hat, hof, hok, hzL, hE, hk, hbl⟩ := hrel
    have KK := Lib.hid hk
    have BB := Lib.hid hbl
    have HAT := Lib.hid hat
    have HOF := Lib.hid hof
    have HOK := Lib.hid hok
    have EE := Lib.hid hE
    obtain ⟨e0, e1, e2, e3, e4, ez⟩ := KK.out.five
    clear hk hbl hat hof hok hE
    by_cases hlt : q < N
    · obtain ⟨t, ht⟩ : ∃ t, path[q]'(by rw [HN.out]; exact hlt) = t := ⟨_, rfl⟩
      have hdr : path.drop q = t :: path.drop (q + 1) := by rw [List.drop_eq_getElem_cons (by rw [HN.out]; exact hlt), ht]
      obtain ⟨pb, po, rfl, hpb, hpc⟩ := (HPA.out.below BB.out).at_ (k := q) (by rw [csZ_len, HN.out]; exact hlt)
      have hpc1 : wr.cell? ⟨pb, po + q, none⟩ = some (.int .i64 t) := by rw [hpc]; unfold csZ; rw [List.getElem_map, ht]
      obtain ⟨yc, yn, yk, bs, ss⟩ := y
      have hE1 := EE.out
      obtain ⟨_, _, _, A, ca, B, cb, hv, _, _, _, hm1, hm2, _, hRS⟩ := hE1
      injection hv with hv
      simp at hv
      obtain ⟨hv1, rfl, hv2, rfl, rfl⟩ := hv
      obtain rfl : c = yc := by omega
      obtain rfl : n = yn := by omega
      obtain ⟨m, hm⟩ : ∃ m, ss.length = m := ⟨_, rfl⟩
      have HRS := Lib.hid hRS
      have HM := Lib.hid hm
      have hmm : m ≤ 9223372036854775807 := by unfold maxLen at hm2; omega
      rw [hdr] at HAT HOF
      have hin : 0 ≤ t ∧ t < (m : Int) := by
        have h := HAT.out
        rw [atE] at h
        split at h
        · rename_i hh; rw [hm] at hh; omega
        · cases h
      rw [hm] at KK e4 EE
      clear hpc hdr ht hRS hm1 hm2 hv1 hv2
      clear hm
      obtain ⟨j, rfl⟩ : ∃ j : Nat, t = (j : Int) := ⟨t.toNat, by omega⟩
      have hj : j < m := by omega
      have hat2 : atE (.mk c n k bs ss) ((j : Int) :: path.drop (q + 1)) = atE (ss[j]'(by rw [HM.out]; exact hj)) (path.drop (q + 1)) := by
        rw [atE, dif_pos ⟨by omega, by rw [HM.out]; simpa using hj⟩]; rfl
      have hof2 := offE_cons (c := c) (n := n) (k := k) (bs := bs) (ss := ss) (i := j) (t := path.drop (q + 1)) (by rw [HM.out]; exact hj)
      have HAT2 := Lib.hid (hat2.symm.trans HAT.out)
      have hof3 := HOF.out
      rw [hof2] at hof3
      obtain ⟨D, hD⟩ : ∃ D, (encE (.mk c n k bs ss)).length - (encS (ss.drop j)).length = D := ⟨_, rfl⟩
      rw [hD] at hof3
      have HOF2 := Lib.hid (show R = (z + D) + offE (ss[j]'(by rw [HM.out]; exact hj)) (path.drop (q + 1)) by rw [hof3]; omega)
      have hzD : z + D ≤ L := by have := HLE.out; have := HOF2.out; omega
      have HDD := Lib.hid (And.intro hD (Nat.le_trans (encS_drop_le ss j) (encS_le (c := c) (n := n) (k := k) (bs := bs) (ss := ss))))
      have HPC := Lib.hid (And.intro hpb hpc1)
      have tn : decide ((j : Int) < 0) = false := by simp
      have tg : decide ((j : Int) ≥ (m : Int)) = false := by simp; omega
      clear hat2 hof2 hof3 hD HAT HOF hin
      go_upto_region 5 with fail
      have HSR := Lib.hid (show ∀ W, Below wr.heap.size wr W → W.cell? ⟨pb, po + q, none⟩ = some (.int .i64 (j : Int)) ∧ W.cell? ⟨G, 4, none⟩ = some (.slice B m cb) ∧ Below wr.heap.size wr W from fun W hW => ⟨(hW.cell (p := ⟨pb, po + q, none⟩) hpb).trans hpc1, (hW.cell (p := ⟨G, 4, none⟩) KK.out.lt).trans (KK.out.cell 4), hW⟩)
      refine wp_region_held_drew (S := fun W => W.cell? ⟨pb, po + q, none⟩ = some (.int .i64 (j : Int)) ∧ W.cell? ⟨G, 4, none⟩ = some (.slice B m cb) ∧ Below wr.heap.size wr W) (by kernel_rfl) (HSR.out _ (Below.refl wr.heap.size wr).drew) (fun hS => ?_)
      obtain ⟨wd, hwd⟩ : ∃ v, wr.drew = v := ⟨_, rfl⟩
      have d0 : Below wr.heap.size wr wd := by rw [← hwd]; exact (Below.refl wr.heap.size wr).drew
      rw [hwd] at hS ⊢
      clear hwd
      refine wpAnyH_take (i := 0) (oi := ⟨some 15, _, _, _, _, _⟩) (v := .slice (some ⟨pb, po, none⟩) N pc) rfl (by kernel_rfl) (by kernel_rfl) (by kernel_rfl) (fun _ _ _ h => h) (Or.inl ⟨by rfl, fun w _ => by go_simp⟩) hS ?_
      (try simp only [Act.put, List.setIfInBounds_toArray, List.set_cons_zero, List.set_cons_succ])
      refine wpAnyH_take (i := 1) (oi := ⟨some 16, _, _, _, _, _⟩) (v := .int .i64 (q : Int)) rfl (by kernel_rfl) (by kernel_rfl) (by kernel_rfl) (fun _ _ _ h => h) (Or.inl ⟨by rfl, fun w _ => by go_simp⟩) hS ?_
      (try simp only [Act.put, List.setIfInBounds_toArray, List.set_cons_zero, List.set_cons_succ])
      refine wpAnyH_take (i := 2) (oi := ⟨some 17, _, _, _, _, _⟩) (v := .pointer (some ⟨pb, po + q, none⟩)) rfl (by kernel_rfl) (by kernel_rfl) (by kernel_rfl) (fun _ _ _ h => h) (Or.inl ⟨by rfl, fun w _ => by go_simp⟩) hS ?_
      (try simp only [Act.put, List.setIfInBounds_toArray, List.set_cons_zero, List.set_cons_succ])
      refine wpAnyH_take (i := 3) (oi := ⟨some 18, _, _, _, _, _⟩) (v := .int .i64 (j : Int)) rfl (by kernel_rfl) (by kernel_rfl) (by kernel_rfl) (fun _ _ _ h => h) (Or.inl ⟨by rfl, fun w hSw => by (try obtain ⟨s1, s2, s3⟩ := hSw); go_simp⟩) hS ?_
      (try simp only [Act.put, List.setIfInBounds_toArray, List.set_cons_zero, List.set_cons_succ])
      refine wpAnyH_take (i := 4) (oi := ⟨some 19, _, _, _, _, _⟩) (v := .bool false) rfl (by kernel_rfl) (by kernel_rfl) (by kernel_rfl) (fun _ _ _ h => h) (Or.inl ⟨by rfl, fun w _ => by go_simp⟩) hS ?_
      (try simp only [Act.put, List.setIfInBounds_toArray, List.set_cons_zero, List.set_cons_succ])
      refine wpAnyH_take (i := 5) (oi := ⟨some 20, _, _, _, _, _⟩) (v := .bool false) rfl (by kernel_rfl) (by kernel_rfl) (by kernel_rfl) (fun _ _ _ h => h) (Or.inl ⟨by rfl, fun w _ => by go_simp⟩) hS ?_
      (try simp only [Act.put, List.setIfInBounds_toArray, List.set_cons_zero, List.set_cons_succ])
      refine wpAnyH_take (i := 6) (oi := ⟨some 21, _, _, _, _, _⟩) (v := .slice (some ⟨pb, po, none⟩) N pc) rfl (by kernel_rfl) (by kernel_rfl) (by kernel_rfl) (fun _ _ _ h => h) (Or.inl ⟨by rfl, fun w _ => by go_simp⟩) hS ?_
      (try simp only [Act.put, List.setIfInBounds_toArray, List.set_cons_zero, List.set_cons_succ])
      refine wpAnyH_take (i := 7) (oi := ⟨some 22, _, _, _, _, _⟩) (v := .int .i64 (q : Int)) rfl (by kernel_rfl) (by kernel_rfl) (by kernel_rfl) (fun _ _ _ h => h) (Or.inl ⟨by rfl, fun w _ => by go_simp⟩) hS ?_
      (try simp only [Act.put, List.setIfInBounds_toArray, List.set_cons_zero, List.set_cons_succ])
      refine wpAnyH_take (i := 8) (oi := ⟨some 23, _, _, _, _, _⟩) (v := .pointer (some ⟨pb, po + q, none⟩)) rfl (by kernel_rfl) (by kernel_rfl) (by kernel_rfl) (fun _ _ _ h => h) (Or.inl ⟨by rfl, fun w _ => by go_simp⟩) hS ?_
      (try simp only [Act.put, List.setIfInBounds_toArray, List.set_cons_zero, List.set_cons_succ])
      refine wpAnyH_take (i := 9) (oi := ⟨some 24, _, _, _, _, _⟩) (v := .int .i64 (j : Int)) rfl (by kernel_rfl) (by kernel_rfl) (by kernel_rfl) (fun _ _ _ h => h) (Or.inl ⟨by rfl, fun w hSw => by (try obtain ⟨s1, s2, s3⟩ := hSw); go_simp⟩) hS ?_
      (try simp only [Act.put, List.setIfInBounds_toArray, List.set_cons_zero, List.set_cons_succ])
      refine wpAnyH_take (i := 10) (oi := ⟨some 25, _, _, _, _, _⟩) (v := .pointer (some ⟨G, 4, none⟩)) rfl (by kernel_rfl) (by kernel_rfl) (by kernel_rfl) (fun _ _ _ h => h) (Or.inl ⟨by rfl, fun w _ => by go_simp⟩) hS ?_
      (try simp only [Act.put, List.setIfInBounds_toArray, List.set_cons_zero, List.set_cons_succ])
      refine wpAnyH_take (i := 11) (oi := ⟨some 26, _, _, _, _, _⟩) (v := .slice B m cb) rfl (by kernel_rfl) (by kernel_rfl) (by kernel_rfl) (fun _ _ _ h => h) (Or.inl ⟨by rfl, fun w hSw => by (try obtain ⟨s1, s2, s3⟩ := hSw); go_simp⟩) hS ?_
      (try simp only [Act.put, List.setIfInBounds_toArray, List.set_cons_zero, List.set_cons_succ])
      refine wpAnyH_take (i := 12) (oi := ⟨some 27, _, _, _, _, _⟩) (v := .int .i64 (m : Int)) rfl (by kernel_rfl) (by kernel_rfl) (by kernel_rfl) (fun _ _ _ h => h) (Or.inl ⟨by rfl, fun w _ => by go_simp⟩) hS ?_
      (try simp only [Act.put, List.setIfInBounds_toArray, List.set_cons_zero, List.set_cons_succ])
      refine wpAnyH_take (i := 13) (oi := ⟨some 28, _, _, _, _, _⟩) (v := .bool false) rfl (by kernel_rfl) (by kernel_rfl) (by kernel_rfl) (fun _ _ _ h => h) (Or.inl ⟨by rfl, fun w _ => by go_simp⟩) hS ?_
      (try simp only [Act.put, List.setIfInBounds_toArray, List.set_cons_zero, List.set_cons_succ])
      refine wpAnyH_take (i := 14) (oi := ⟨some 29, _, _, _, _, _⟩) (v := .bool false) rfl (by kernel_rfl) (by kernel_rfl) (by kernel_rfl) (fun _ _ _ h => h) (Or.inl ⟨by rfl, fun w _ => by go_simp⟩) hS ?_
      (try simp only [Act.put, List.setIfInBounds_toArray, List.set_cons_zero, List.set_cons_succ])
      refine wpAnyH_done (by kernel_rfl) ?_ _
      clear hS
      have B3 := bt BB (Lib.hid d0)
      have K3 := kt KK (Lib.hid d0)
      have g5 := (d0.cell (p := ⟨pb, po + q, none⟩) HPC.out.1).trans HPC.out.2
      have HD0 := Lib.hid d0
      clear HSR d0 e0 e1 e2 e3 e4 ez KK BB hpc1 hpb tn tg
      go_upto_region 9 with fail
      go_loopw [7, 8] (fun bh kk w' => ∃ i b : Nat, j ≤ i ∧ i ≤ m ∧ kk = .int .i64 (i : Int) ∧ bh = .int .i64 (b : Int) ∧ b + (encS (ss.drop i)).length = (encS (ss.drop j)).length ∧ Below wd.heap.size wd w') (fun _ kk _ => m - (intOf kk).toNat)
      case atStart => exact ⟨j, 0, Nat.le_refl _, Nat.le_of_lt hj, rfl, rfl, by rw [Nat.zero_add], Below.refl _ _⟩
      case round =>
        obtain ⟨i, b, hji, him, rfl, rfl, hsum, hbi⟩ := hrel
        have BI := Lib.hid hbi
        have KI := kt K3 BI
        have B9 := bt B3 BI
        have HJI := Lib.hid (And.intro hji him)
        have hle1 : (encS (ss.drop j)).length ≤ 1048576 := by have := HDD.out.2; have := HOK.out.2.2.2; omega
        have hbb : b ≤ 1048576 := by omega
        have HSUM := Lib.hid (And.intro hsum hle1)
        clear hbi hsum hji him hle1 g5
        obtain ⟨e0, e1, e2, e3, e4, ez⟩ := KI.out.five
        by_cases him : i < m
        · have hil : i < ss.length := by rw [HM.out]; exact him
          obtain ⟨bb, off, c', n', k', v1, v2, hBe, hb, hSb, f0, f1, f2, f3, f4, hE3⟩ := HRS.out.five hil
          subst hBe
          have hcons : (encS (ss.drop i)).length = (encE ss[i]).length + (encS (ss.drop (i + 1))).length := by rw [List.drop_eq_getElem_cons hil, encS, List.length_append]
          have hoks := HOK.out.sub hil
          have HC := Lib.hid (renc_any ss[i] _ wr (hE3.below (B := w.heap.size) (fun _ h _ => h) B9.out) hoks.1 hoks.2.2.2)
          have g0 := (B9.out.cell (p := ⟨bb, off + i * 5, none⟩) hb).trans f0
          have g1 := (B9.out.cell (p := ⟨bb, off + i * 5 + 1, none⟩) hb).trans f1
          have g2 := (B9.out.cell (p := ⟨bb, off + i * 5 + 2, none⟩) hb).trans f2
          have g3 := (B9.out.cell (p := ⟨bb, off + i * 5 + 3, none⟩) hb).trans f3
          have g4 := (B9.out.cell (p := ⟨bb, off + i * 5 + 4, none⟩) hb).trans f4
          have HCONS := Lib.hid hcons
          clear f0 f1 f2 f3 f4 hE3 hSb hb hcons hoks
          go_wp2_with fail
          refine HC.out.mono ?_
          rintro e' w9 ⟨A9, N9, c9, rfl, hl9, _, _, _, hb9⟩
          have BN := bt BI (Lib.hid hb9)
          have hN9 : b + N9 ≤ 1048576 := by have := HSUM.out; have := HCONS.out; omega
          have HL9 := Lib.hid hl9
          clear hb9 hl9 HC g0 g1 g2 g3 g4 e0 e1 e2 e3 e4 ez
          go_wp2_with fail
          exact ⟨⟨i + 1, b + N9, by have := HJI.out.1; omega, him, by go_num, by go_num, by have := HSUM.out.1; have := HCONS.out; have := HL9.out; omega, BN.out⟩, by simp [intOf]; omega⟩
        · have hie : i = m := by have := HJI.out.2; omega
          subst hie
          have hs := HSUM.out.1
          rw [List.drop_eq_nil_of_le (by rw [HM.out]; exact Nat.le_refl _), encS] at hs
          have hs' : b = (encS (ss.drop j)).length := by simpa using hs
          have HENC := Lib.hid (renc_any (.mk c n k bs ss) _ wr (EE.out.below (B := w.heap.size) (fun _ h _ => h) B9.out) HOK.out.1 HOK.out.2.2.2)
          have HBS := Lib.hid hs'
          clear hs hs' HSUM HJI
          go_wp2_with fail
          refine HENC.out.mono ?_
          rintro e' w9 ⟨A9, N9, c9, rfl, hl9, _, _, _, hb9⟩
          have B10 := bt B9 (Lib.hid hb9)
          have K10 := kt KI (Lib.hid hb9)
          have g5 := ((bt BI (Lib.hid hb9)).out.cell (p := ⟨pb, po + q, none⟩) (Nat.lt_of_lt_of_le HPC.out.1 HD0.out.size)).trans ((HD0.out.cell (p := ⟨pb, po + q, none⟩) HPC.out.1).trans HPC.out.2)
          have hN9 : N9 ≤ 1048576 := by rw [← hl9]; exact HOK.out.2.2.2
          have y1 : (N9 : Int) - (b : Int) = (D : Int) := by have h1 := HDD.out; have h2 := HBS.out; rw [hl9, ← h2] at h1; omega
          have y2 : D ≤ 1048576 := by have h1 := HDD.out; rw [hl9] at h1; omega
          clear hb9 hl9 HENC e0 e1 e2 e3 e4 ez K3
          go_upto_region 13 with fail
          clear y1
          obtain ⟨bb, off, c', n', k', v1, v2, hBe, hb, hSb, f0, f1, f2, f3, f4, hE3⟩ := HRS.out.five (i := j) (by rw [HM.out]; exact hj)
          subst hBe
          have EE3 := Lib.hid hE3
          have HOKj := Lib.hid (HOK.out.sub (i := j) (by rw [HM.out]; exact hj))
          have e4 : w9.cell? ⟨G, 4, none⟩ = some (.slice (some ⟨bb, off, none⟩) i cb) := K10.out.cell 4
          have g0 := (B10.out.cell (p := ⟨bb, off + j * 5, none⟩) hb).trans f0
          have g1 := (B10.out.cell (p := ⟨bb, off + j * 5 + 1, none⟩) hb).trans f1
          have g2 := (B10.out.cell (p := ⟨bb, off + j * 5 + 2, none⟩) hb).trans f2
          have g3 := (B10.out.cell (p := ⟨bb, off + j * 5 + 3, none⟩) hb).trans f3
          have g4 := (B10.out.cell (p := ⟨bb, off + j * 5 + 4, none⟩) hb).trans f4
          have ho1 : v1.oneCell' = true := by obtain ⟨_, _, _, _, _, _, _, _, _, h⟩ := EE3.out.form; injection h with h; simp at h; rw [h.2.2.2.1]; rfl
          have ho2 : v2.oneCell' = true := by obtain ⟨_, _, _, _, _, _, _, _, _, h⟩ := EE3.out.form; injection h with h; simp at h; rw [h.2.2.2.2]; rfl
          have HO := Lib.hid (And.intro ho1 ho2)
          clear ho1 ho2 f0 f1 f2 f3 f4 hE3 hSb hb
          refine wp_region_still_tail 8 (by kernel_rfl) (by kernel_rfl) ?_
          simp only [List.take_succ_cons, List.take_zero, List.drop_succ_cons, List.drop_zero]
          repeat still_step
          refine wpStill_nil ?_
          change wpList _ _ _ _ _ w9.drew
          clear g0 g1 g2 g3 g4 g5 e4
          have KG3 : Hid (Bk w9.drew G 29 [.int .u8 (c : Int), .bool k, .int .u32 (n : Int), .slice A bs.length ca, .slice (some ⟨bb, off, none⟩) i cb]) := Lib.hid (show Bk w9 G _ _ from K10.out)
          go_wp2_with (refine storeE rfl _ _ rfl rfl rfl KG3.out rfl rfl rfl HO.out.1 HO.out.2 ?_; intro w4 h4 h5)
          have B4 : Below w.heap.size w w9.drew := B10.out.drew
          exact ⟨⟨q + 1, z + D, _, c', n', k', v1, v2, by omega, by go_num, by go_num, HAT2.out, HOF2.out, HOKj.out, hzD, EE3.out, h4.out, B4.trans (only_below h5.out (by rw [HG.out]; exact Nat.le_refl _) B4.size)⟩, by simp [intOf]; omega⟩
    · have hdr : path.drop q = [] := List.drop_eq_nil_of_le (by rw [HN.out]; omega)
      have h3 := HOF.out
      rw [hdr, offE, Nat.add_zero] at h3
      subst h3
      clear hdr
      go_wp2_with fail
      go_ret
      exact ⟨rfl, BB.out⟩
end Go.Proofs.Ytfbdeefeagednaa.Fl
