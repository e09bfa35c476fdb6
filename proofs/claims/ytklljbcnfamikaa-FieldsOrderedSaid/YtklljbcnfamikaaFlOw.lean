/-
  Layer 12: FieldsOrdered: elements are in order exactly if each encoding is greater than the one before it; otherwise the first one that is not is told.
  Conditions: none beyond that the codes are bytes.
-/
import Derived.Test.YtklljbcnfamikaaFlSq
import Derived.Test.YtklljbcnfamikaaFlYv
import Derived.Test.YtklljbcnfamikaaFlRo
namespace Go.Proofs.Ytklljbcnfamikaa.Fl
open Go.RowKit

set_option linter.unusedSimpArgs false in
set_option maxHeartbeats 4000000 in
set_option maxRecDepth 100000 in
theorem order_law (code : List Nat) (A : Option Addr) (n c : Nat) (w : World) (hA : Rb w A code) (hn : code.length = n) (hnm : n ≤ maxLen) :
    Calls Try.prog 6 #[.agg #[.slice A n c]] w fun e w' => e = .returned (.bool true) ∧ Below w.heap.size w w' := by
  have HOK := Lib.hid (tofE_ok hA.2)
  have RA := Lib.hid hA
  have HN := Lib.hid (And.intro hn hnm)
  have B := Lib.hid (Below.refl w.heap.size w)
  clear hA hn hnm
  go_enter Try.func6, Try.ntmps6
  go_upto_region 1 with fail
  obtain ⟨g3, hg3⟩ : ∃ g, w.heap.size = g := ⟨_, rfl⟩
  obtain ⟨w1, hw⟩ : ∃ v, w.alloc (.cells #[.slice A n c] 24) = v := ⟨_, rfl⟩
  have hbh := Lib.hid (show Below w.heap.size w w1 by rw [← hw]; exact bel1 _ _)
  have K3n := Lib.hid (show Bk w1 g3 24 [.slice A n c] by rw [← hw, ← hg3]; exact Bk.new w _ [_])
  rw [hw, hg3]
  replace RA := Lib.hid (RA.out.below hbh.out)
  replace B := bt B hbh
  have K3 := K3n
  clear hbh hw K3n
  have c0 : w1.cell? ⟨g3, 0, none⟩ = some (.slice A n c) := K3.out.cell 0
  go_wp2_with fail
  refine (tof_any code A n c HN.out.1 HN.out.2 _ RA.out).mono ?_
  rintro e w2 ⟨B1, m, cb, rfl, hm1, hmc, hcm, hrs, hb⟩
  have HM := Lib.hid (And.intro hm1 (And.intro hmc hcm))
  have hbh := Lib.hid hb
  replace RA := Lib.hid (RA.out.below hbh.out)
  replace B := bt B hbh
  replace K3 := kt K3 hbh
  have RS := Lib.hid hrs
  clear hbh hb hm1 hmc hcm hrs c0
  go_upto_region 2 with fail
  obtain ⟨gE, hgE⟩ : ∃ g, w2.heap.size = g := ⟨_, rfl⟩
  obtain ⟨w3, hw⟩ : ∃ v, w2.alloc (.cells #[.int .u8 0, .bool true, .int .u32 16, .slice none 0 0, .slice B1 m cb] 32) = v := ⟨_, rfl⟩
  have hbh := Lib.hid (show Below w2.heap.size w2 w3 by rw [← hw]; exact bel1 _ _)
  have KEn := Lib.hid (show Bk w3 gE 32 [.int .u8 0, .bool true, .int .u32 16, .slice none 0 0, .slice B1 m cb] by rw [← hw, ← hgE]; exact Bk.new w2 _ [_, _, _, _, _])
  rw [hw, hgE]
  replace RA := Lib.hid (RA.out.below hbh.out)
  replace B := bt B hbh
  replace K3 := kt K3 hbh
  replace RS := Lib.hid (RS.out.stay hbh.out)
  have KE := KEn
  clear hbh hw KEn
  have HSUB : Hid (∀ e ∈ tofS code, OKe e) := Lib.hid (fun e he => by
    obtain ⟨i, hi, rfl⟩ := List.getElem_of_mem he
    exact OKe.sub HOK.out hi)
  obtain ⟨R1, hR⟩ : ∃ R, ordS 0 none (tofS code) = R := ⟨_, rfl⟩
  obtain ⟨P1, f1⟩ := R1
  have HR1 := Lib.hid hR
  clear hR
  have hw1 : IntKind.i64.wrap 1 = 1 := by rw [IntKind.wrap_i64]; omega
  have HSR := Lib.hid (show ∀ W, Below w3.heap.size w3 W → W.cell? ⟨gE, 0, none⟩ = some (.int .u8 0) ∧ W.cell? ⟨gE, 1, none⟩ = some (.bool true) ∧ W.cell? ⟨gE, 2, none⟩ = some (.int .u32 16) ∧ W.cell? ⟨gE, 3, none⟩ = some (.slice none 0 0) ∧ W.cell? ⟨gE, 4, none⟩ = some (.slice B1 m cb) ∧ Below w3.heap.size w3 W from fun W hW => ⟨(hW.cell (p := ⟨gE, 0, none⟩) KE.out.lt).trans (KE.out.cell 0), (hW.cell (p := ⟨gE, 1, none⟩) KE.out.lt).trans (KE.out.cell 1), (hW.cell (p := ⟨gE, 2, none⟩) KE.out.lt).trans (KE.out.cell 2), (hW.cell (p := ⟨gE, 3, none⟩) KE.out.lt).trans (KE.out.cell 3), (hW.cell (p := ⟨gE, 4, none⟩) KE.out.lt).trans (KE.out.cell 4), hW⟩)
  refine wp_region_held_drew (S := fun W => W.cell? ⟨gE, 0, none⟩ = some (.int .u8 0) ∧ W.cell? ⟨gE, 1, none⟩ = some (.bool true) ∧ W.cell? ⟨gE, 2, none⟩ = some (.int .u32 16) ∧ W.cell? ⟨gE, 3, none⟩ = some (.slice none 0 0) ∧ W.cell? ⟨gE, 4, none⟩ = some (.slice B1 m cb) ∧ Below w3.heap.size w3 W) (by kernel_rfl) (HSR.out _ (Below.refl w3.heap.size w3).drew) (fun hS => ?_)
  obtain ⟨wd, hwd⟩ : ∃ v, w3.drew = v := ⟨_, rfl⟩
  have d0 : Below w3.heap.size w3 wd := by rw [← hwd]; exact (Below.refl w3.heap.size w3).drew
  have RSx := Lib.hid (RS.out.stay d0)
  rw [hwd] at hS ⊢
  clear hwd
  refine wpAnyH_take (i := 0) (oi := ⟨some 7, _, _, _, _, _⟩) (v := .agg #[.int .u8 0, .bool true, .int .u32 16, .slice none 0 0, .slice B1 m cb]) rfl (by kernel_rfl) (by kernel_rfl) (by kernel_rfl) (fun _ _ _ h => h) (Or.inl ⟨by rfl, fun w hSw => by (try obtain ⟨s1, s2, s3, s4, s5, s6⟩ := hSw); go_simp⟩) hS ?_
  (try simp only [Act.put, List.setIfInBounds_toArray, List.set_cons_zero, List.set_cons_succ])
  refine wpAnyH_take (i := 2) (oi := ⟨some 9, _, _, _, _, _⟩) (v := .agg #[.int .u8 0, .bool true, .int .u32 16, .slice none 0 0, .slice B1 m cb]) rfl (by kernel_rfl) (by kernel_rfl) (by kernel_rfl) (fun _ _ _ h => h) (Or.inl ⟨by rfl, fun w hSw => by (try obtain ⟨s1, s2, s3, s4, s5, s6⟩ := hSw); go_simp⟩) hS ?_
  (try simp only [Act.put, List.setIfInBounds_toArray, List.set_cons_zero, List.set_cons_succ])
  refine wpAnyH_ready (rs := [1]) (by kernel_rfl) (by simp) ?_
  refine AllReadyH.cons (o := _) rfl (fun K hK => ?_) (AllReadyH.nil)
  go_simp
  refine (ord_any 0 16 true (.slice none 0 0) (tofS code) B1 m cb _ HM.out.1 (Nat.le_trans HM.out.2.1 HM.out.2.2) RSx.out (fun e he => ⟨by have := (HSUB.out e he).2.1; omega, (HSUB.out e he).con⟩) P1 f1 HR1.out).mono ?_
  rintro e wC1 ⟨A1, m1, n1, rfl, hl5, _, hm5, hx5, hr5, hv⟩
  obtain rfl := hx5 rfl
  have HL1 := Lib.hid (And.intro hl5 hm5)
  have R1 := Lib.hid hr5.rd
  have d1 : Below w3.heap.size w3 wC1 := d0.trans (hv.mono d0.size)
  replace RSx := Lib.hid (RSx.out.stay hv)
  clear hv hr5 hl5 hm5 hx5
  refine hK.out _ _ (HSR.out _ d1) (fun hS9 => ?_)
  clear hK K hS
  have hS := hS9
  clear hS9
  (try simp only [Act.put, List.setIfInBounds_toArray, List.set_cons_zero, List.set_cons_succ])
  refine wpAnyH_ready (rs := [3]) (by kernel_rfl) (by simp) ?_
  refine AllReadyH.cons (o := _) rfl (fun K hK => ?_) (AllReadyH.nil)
  go_simp
  refine (rord_any 0 16 true (.slice none 0 0) (tofS code) B1 m cb _ HM.out.1 (Nat.le_trans HM.out.2.1 HM.out.2.2) RSx.out HSUB.out P1 f1 HR1.out).mono ?_
  rintro e wC3 ⟨X1, k1, y1, rfl, hl5, _, _, _, hr5, hv⟩
  obtain rfl : n1 = k1 := HL1.out.1.symm.trans hl5
  have Q1 := Lib.hid hr5.rd
  have d2 : Below w3.heap.size w3 wC3 := d1.trans (hv.mono d1.size)
  replace RSx := Lib.hid (RSx.out.stay hv)
  replace R1 := Lib.hid (R1.out.below hv)
  clear hv hr5 hl5
  refine hK.out _ _ (HSR.out _ d2) (fun hS9 => ?_)
  clear hK K hS
  have hS := hS9
  clear hS9
  (try simp only [Act.put, List.setIfInBounds_toArray, List.set_cons_zero, List.set_cons_succ])
  refine wpAnyH_ready (rs := [4]) (by kernel_rfl) (by simp) ?_
  refine AllReadyH.cons (o := _) rfl (fun K hK => ?_) (AllReadyH.nil)
  go_simp
  refine (lfault_eq P1 f1 A1 X1 n1 y1 _ R1.out Q1.out HL1.out.1 HL1.out.2).mono ?_
  rintro e wC4 ⟨rfl, hv⟩
  have d3 : Below w3.heap.size w3 wC4 := d2.trans (hv.mono d2.size)
  replace RSx := Lib.hid (RSx.out.stay hv)
  replace R1 := Lib.hid (R1.out.below hv)
  replace Q1 := Lib.hid (Q1.out.below hv)
  clear hv
  refine hK.out _ _ (HSR.out _ d3) (fun hS9 => ?_)
  clear hK K hS
  have hS := hS9
  clear hS9
  (try simp only [Act.put, List.setIfInBounds_toArray, List.set_cons_zero, List.set_cons_succ])
  refine wpAnyH_take (i := 5) (oi := ⟨some 12, _, _, _, _, _⟩) (v := .bool false) rfl (by kernel_rfl) (by kernel_rfl) (by kernel_rfl) (fun _ _ _ h => h) (Or.inl ⟨by rfl, fun w _ => by go_simp⟩) hS ?_
  (try simp only [Act.put, List.setIfInBounds_toArray, List.set_cons_zero, List.set_cons_succ])
  refine wpAnyH_done (by kernel_rfl) ?_ _
  clear hS
  have D5 := Lib.hid d3
  clear HSR d0 d1 d2 d3
  generalize wC4 = W5 at *
  go_upto_region 4 with fail
  replace RA := Lib.hid (RA.out.below D5.out)
  replace B := bt B D5
  replace K3 := kt K3 D5
  replace RS := Lib.hid (RS.out.stay D5.out)
  replace KE := kt KE D5
  clear D5 R1 Q1 HL1 HR1 RSx
  go_wp2_with fail
  obtain ⟨e0, e1, e2, e3, e4, ez⟩ := KE.out.five
  clear e0 e1 e2 e3 e4 ez
  go_loopw [4] (fun z9 wr => ∃ q : Nat, z9 = .int .i64 (q : Int) ∧ q ≤ m ∧ Below W5.heap.size W5 wr) (fun z9 _ => m - (intOf z9).toNat)
  case atStart => exact ⟨0, rfl, Nat.zero_le _, Below.refl _ _⟩
  case round =>
    obtain ⟨q, rfl, hq, hbl⟩ := hrel
    have hmm : m ≤ 9223372036854775807 := maxN (Nat.le_trans HM.out.2.1 HM.out.2.2)
    have HQ := Lib.hid hq
    have hbh := Lib.hid hbl
    clear hbl hq
    have hbhk := hbh
    replace RA := Lib.hid (RA.out.below hbh.out)
    replace B := bt B hbh
    replace K3 := kt K3 hbh
    replace RS := Lib.hid (RS.out.stay hbh.out)
    replace KE := kt KE hbh
    obtain ⟨e0, e1, e2, e3, e4, ez⟩ := KE.out.five
    by_cases hlt : q < m
    · obtain ⟨sb, so, ec, en, ek, aA, l1, ca, aB, l2, cz, rfl, hsb, _, s0, s1, s2, s3, s4, hE⟩ := RS.out.fives (i := q) (by rw [HM.out.1]; exact hlt)
      obtain ⟨E0, hE0⟩ : ∃ E0, (tofS code)[q]'(by rw [HM.out.1]; exact hlt) = E0 := ⟨_, rfl⟩
      rw [hE0] at hE
      obtain ⟨c', n', k', bs, ts⟩ := E0
      have hokE : OKe (.mk c' n' k' bs ts) := by rw [← hE0]; exact OKe.sub HOK.out (by rw [HM.out.1]; exact hlt)
      obtain ⟨_, hn4, _, X1, xc, X2, xd, hv, _, _, _, hlx, hcx, _, hrx⟩ := hE
      simp only [elV, Value.agg.injEq, Array.mk.injEq, List.cons.injEq, Value.int.injEq, Value.bool.injEq, Value.slice.injEq, and_true, true_and, Int.ofNat_inj] at hv
      obtain ⟨rfl, rfl, rfl, ⟨rfl, rfl, rfl⟩, rfl, rfl, rfl⟩ := hv
      have HEN := Lib.hid hn4
      have RT := Lib.hid hrx
      have HTM := Lib.hid (Nat.le_trans hlx hcx)
      have HSUB2 : Hid (∀ e ∈ ts, OKe e) := Lib.hid (fun e he => by
        obtain ⟨i, hi, rfl⟩ := List.getElem_of_mem he
        exact OKe.sub hokE hi)
      clear hE0 hn4 hlx hcx hrx hokE
      obtain ⟨b9, hb9⟩ : ∃ b9, bs.length = b9 := ⟨_, rfl⟩
      obtain ⟨t9, ht9⟩ : ∃ t9, ts.length = t9 := ⟨_, rfl⟩
      rw [hb9] at s3
      rw [ht9] at s4
      have HT9 := Lib.hid ht9
      rw [ht9] at HTM
      clear hb9 ht9
      obtain ⟨RX, hRX⟩ : ∃ R, ordS 0 none ts = R := ⟨_, rfl⟩
      obtain ⟨P1, f1⟩ := RX
      have HRX := Lib.hid hRX
      clear hRX
      go_upto_region 7 with fail
      have HSR := Lib.hid (show ∀ W, Below wr.heap.size wr W → W.cell? ⟨gE, 4, none⟩ = some (.slice (some ⟨sb, so, none⟩) m cb) ∧ W.cell? ⟨sb, so + q * 5, none⟩ = some (.int .u8 (ec : Int)) ∧ W.cell? ⟨sb, so + q * 5 + 1, none⟩ = some (.bool ek) ∧ W.cell? ⟨sb, so + q * 5 + 2, none⟩ = some (.int .u32 (en : Int)) ∧ W.cell? ⟨sb, so + q * 5 + 3, none⟩ = some (.slice aA b9 ca) ∧ W.cell? ⟨sb, so + q * 5 + 4, none⟩ = some (.slice aB t9 cz) ∧ Below wr.heap.size wr W from fun W hW => ⟨(hW.cell (p := ⟨gE, 4, none⟩) KE.out.lt).trans e4, (hW.cell (p := ⟨sb, so + q * 5, none⟩) hsb).trans s0, (hW.cell (p := ⟨sb, so + q * 5 + 1, none⟩) hsb).trans s1, (hW.cell (p := ⟨sb, so + q * 5 + 2, none⟩) hsb).trans s2, (hW.cell (p := ⟨sb, so + q * 5 + 3, none⟩) hsb).trans s3, (hW.cell (p := ⟨sb, so + q * 5 + 4, none⟩) hsb).trans s4, hW⟩)
      refine wp_region_held_drew (S := fun W => W.cell? ⟨gE, 4, none⟩ = some (.slice (some ⟨sb, so, none⟩) m cb) ∧ W.cell? ⟨sb, so + q * 5, none⟩ = some (.int .u8 (ec : Int)) ∧ W.cell? ⟨sb, so + q * 5 + 1, none⟩ = some (.bool ek) ∧ W.cell? ⟨sb, so + q * 5 + 2, none⟩ = some (.int .u32 (en : Int)) ∧ W.cell? ⟨sb, so + q * 5 + 3, none⟩ = some (.slice aA b9 ca) ∧ W.cell? ⟨sb, so + q * 5 + 4, none⟩ = some (.slice aB t9 cz) ∧ Below wr.heap.size wr W) (by kernel_rfl) (HSR.out _ (Below.refl wr.heap.size wr).drew) (fun hS => ?_)
      obtain ⟨wd, hwd⟩ : ∃ v, wr.drew = v := ⟨_, rfl⟩
      have d0 : Below wr.heap.size wr wd := by rw [← hwd]; exact (Below.refl wr.heap.size wr).drew
      have RTx := Lib.hid (RT.out.stay d0)
      rw [hwd] at hS ⊢
      clear hwd
      refine wpAnyH_take (i := 0) (oi := ⟨some 20, _, _, _, _, _⟩) (v := .pointer (some ⟨gE, 4, none⟩)) rfl (by kernel_rfl) (by kernel_rfl) (by kernel_rfl) (fun _ _ _ h => h) (Or.inl ⟨by rfl, fun w _ => by go_simp⟩) hS ?_
      (try simp only [Act.put, List.setIfInBounds_toArray, List.set_cons_zero, List.set_cons_succ])
      refine wpAnyH_take (i := 2) (oi := ⟨some 22, _, _, _, _, _⟩) (v := .int .i64 (q : Int)) rfl (by kernel_rfl) (by kernel_rfl) (by kernel_rfl) (fun _ _ _ h => h) (Or.inl ⟨by rfl, fun w _ => by go_simp⟩) hS ?_
      (try simp only [Act.put, List.setIfInBounds_toArray, List.set_cons_zero, List.set_cons_succ])
      refine wpAnyH_take (i := 6) (oi := ⟨some 26, _, _, _, _, _⟩) (v := .pointer (some ⟨gE, 4, none⟩)) rfl (by kernel_rfl) (by kernel_rfl) (by kernel_rfl) (fun _ _ _ h => h) (Or.inl ⟨by rfl, fun w _ => by go_simp⟩) hS ?_
      (try simp only [Act.put, List.setIfInBounds_toArray, List.set_cons_zero, List.set_cons_succ])
      refine wpAnyH_take (i := 8) (oi := ⟨some 28, _, _, _, _, _⟩) (v := .int .i64 (q : Int)) rfl (by kernel_rfl) (by kernel_rfl) (by kernel_rfl) (fun _ _ _ h => h) (Or.inl ⟨by rfl, fun w _ => by go_simp⟩) hS ?_
      (try simp only [Act.put, List.setIfInBounds_toArray, List.set_cons_zero, List.set_cons_succ])
      refine wpAnyH_take (i := 1) (oi := ⟨some 21, _, _, _, _, _⟩) (v := .slice (some ⟨sb, so, none⟩) m cb) rfl (by kernel_rfl) (by kernel_rfl) (by kernel_rfl) (fun _ _ _ h => h) (Or.inl ⟨by rfl, fun w hSw => by (try obtain ⟨s1, s2, s3, s4, s5, s6, s7⟩ := hSw); go_simp⟩) hS ?_
      (try simp only [Act.put, List.setIfInBounds_toArray, List.set_cons_zero, List.set_cons_succ])
      refine wpAnyH_take (i := 7) (oi := ⟨some 27, _, _, _, _, _⟩) (v := .slice (some ⟨sb, so, none⟩) m cb) rfl (by kernel_rfl) (by kernel_rfl) (by kernel_rfl) (fun _ _ _ h => h) (Or.inl ⟨by rfl, fun w hSw => by (try obtain ⟨s1, s2, s3, s4, s5, s6, s7⟩ := hSw); go_simp⟩) hS ?_
      (try simp only [Act.put, List.setIfInBounds_toArray, List.set_cons_zero, List.set_cons_succ])
      refine wpAnyH_take (i := 3) (oi := ⟨some 23, _, _, _, _, _⟩) (v := .pointer (some ⟨sb, so + q * 5, none⟩)) rfl (by kernel_rfl) (by kernel_rfl) (by kernel_rfl) (fun _ _ _ h => h) (Or.inl ⟨by rfl, fun w _ => by go_simp⟩) hS ?_
      (try simp only [Act.put, List.setIfInBounds_toArray, List.set_cons_zero, List.set_cons_succ])
      refine wpAnyH_take (i := 9) (oi := ⟨some 29, _, _, _, _, _⟩) (v := .pointer (some ⟨sb, so + q * 5, none⟩)) rfl (by kernel_rfl) (by kernel_rfl) (by kernel_rfl) (fun _ _ _ h => h) (Or.inl ⟨by rfl, fun w _ => by go_simp⟩) hS ?_
      (try simp only [Act.put, List.setIfInBounds_toArray, List.set_cons_zero, List.set_cons_succ])
      refine wpAnyH_take (i := 4) (oi := ⟨some 24, _, _, _, _, _⟩) (v := .agg #[.int .u8 (ec : Int), .bool ek, .int .u32 (en : Int), .slice aA b9 ca, .slice aB t9 cz]) rfl (by kernel_rfl) (by kernel_rfl) (by kernel_rfl) (fun _ _ _ h => h) (Or.inl ⟨by rfl, fun w hSw => by (try obtain ⟨s1, s2, s3, s4, s5, s6, s7⟩ := hSw); go_simp⟩) hS ?_
      (try simp only [Act.put, List.setIfInBounds_toArray, List.set_cons_zero, List.set_cons_succ])
      refine wpAnyH_take (i := 10) (oi := ⟨some 30, _, _, _, _, _⟩) (v := .agg #[.int .u8 (ec : Int), .bool ek, .int .u32 (en : Int), .slice aA b9 ca, .slice aB t9 cz]) rfl (by kernel_rfl) (by kernel_rfl) (by kernel_rfl) (fun _ _ _ h => h) (Or.inl ⟨by rfl, fun w hSw => by (try obtain ⟨s1, s2, s3, s4, s5, s6, s7⟩ := hSw); go_simp⟩) hS ?_
      (try simp only [Act.put, List.setIfInBounds_toArray, List.set_cons_zero, List.set_cons_succ])
      refine wpAnyH_ready (rs := [5]) (by kernel_rfl) (by simp) ?_
      refine AllReadyH.cons (o := _) rfl (fun K hK => ?_) (AllReadyH.nil)
      go_simp
      refine (ord_any ec en ek (.slice aA b9 ca) ts aB t9 cz _ HT9.out HTM.out RTx.out (fun e he => ⟨by have := (HSUB2.out e he).2.1; omega, (HSUB2.out e he).con⟩) P1 f1 HRX.out).mono ?_
      rintro e wC5 ⟨A1, m1, n1, rfl, hl5, _, hm5, hx5, hr5, hv⟩
      obtain rfl := hx5 rfl
      have HL1 := Lib.hid (And.intro hl5 hm5)
      have R1 := Lib.hid hr5.rd
      have d1 : Below wr.heap.size wr wC5 := d0.trans (hv.mono d0.size)
      replace RTx := Lib.hid (RTx.out.stay hv)
      clear hv hr5 hl5 hm5 hx5
      refine hK.out _ _ (HSR.out _ d1) (fun hS9 => ?_)
      clear hK K hS
      have hS := hS9
      clear hS9
      (try simp only [Act.put, List.setIfInBounds_toArray, List.set_cons_zero, List.set_cons_succ])
      refine wpAnyH_ready (rs := [11]) (by kernel_rfl) (by simp) ?_
      refine AllReadyH.cons (o := _) rfl (fun K hK => ?_) (AllReadyH.nil)
      go_simp
      refine (rord_any ec en ek (.slice aA b9 ca) ts aB t9 cz _ HT9.out HTM.out RTx.out HSUB2.out P1 f1 HRX.out).mono ?_
      rintro e wC11 ⟨X1, k1, y1, rfl, hl5, _, _, _, hr5, hv⟩
      obtain rfl : n1 = k1 := HL1.out.1.symm.trans hl5
      have Q1 := Lib.hid hr5.rd
      have d2 : Below wr.heap.size wr wC11 := d1.trans (hv.mono d1.size)
      replace RTx := Lib.hid (RTx.out.stay hv)
      replace R1 := Lib.hid (R1.out.below hv)
      clear hv hr5 hl5
      refine hK.out _ _ (HSR.out _ d2) (fun hS9 => ?_)
      clear hK K hS
      have hS := hS9
      clear hS9
      (try simp only [Act.put, List.setIfInBounds_toArray, List.set_cons_zero, List.set_cons_succ])
      refine wpAnyH_ready (rs := [12]) (by kernel_rfl) (by simp) ?_
      refine AllReadyH.cons (o := _) rfl (fun K hK => ?_) (AllReadyH.nil)
      go_simp
      refine (lfault_eq P1 f1 A1 X1 n1 y1 _ R1.out Q1.out HL1.out.1 HL1.out.2).mono ?_
      rintro e wC12 ⟨rfl, hv⟩
      have d3 : Below wr.heap.size wr wC12 := d2.trans (hv.mono d2.size)
      replace RTx := Lib.hid (RTx.out.stay hv)
      replace R1 := Lib.hid (R1.out.below hv)
      replace Q1 := Lib.hid (Q1.out.below hv)
      clear hv
      refine hK.out _ _ (HSR.out _ d3) (fun hS9 => ?_)
      clear hK K hS
      have hS := hS9
      clear hS9
      (try simp only [Act.put, List.setIfInBounds_toArray, List.set_cons_zero, List.set_cons_succ])
      refine wpAnyH_take (i := 13) (oi := ⟨some 33, _, _, _, _, _⟩) (v := .bool false) rfl (by kernel_rfl) (by kernel_rfl) (by kernel_rfl) (fun _ _ _ h => h) (Or.inl ⟨by rfl, fun w _ => by go_simp⟩) hS ?_
      (try simp only [Act.put, List.setIfInBounds_toArray, List.set_cons_zero, List.set_cons_succ])
      refine wpAnyH_done (by kernel_rfl) ?_ _
      clear hS
      have DX := Lib.hid d3
      clear HSR d0 d1 d2 d3
      generalize wC12 = W9 at *
      have DY := bt hbhk DX
      go_wp2_with fail
      exact ⟨⟨q + 1, by go_num, hlt, DY.out⟩, by simp [intOf]; omega⟩
    · obtain rfl : q = m := by have := HQ.out; omega
      go_upto_region 9 with fail
      clear e0 e1 e2 e3 e4 ez
      have HSR := Lib.hid (show ∀ W, Below wr.heap.size wr W → W.cell? ⟨gE, 0, none⟩ = some (.int .u8 0) ∧ W.cell? ⟨gE, 1, none⟩ = some (.bool true) ∧ W.cell? ⟨gE, 2, none⟩ = some (.int .u32 16) ∧ W.cell? ⟨gE, 3, none⟩ = some (.slice none 0 0) ∧ W.cell? ⟨gE, 4, none⟩ = some (.slice B1 q cb) ∧ W.cell? ⟨g3, 0, none⟩ = some (.slice A n c) ∧ Below wr.heap.size wr W from fun W hW => ⟨(hW.cell (p := ⟨gE, 0, none⟩) KE.out.lt).trans (KE.out.cell 0), (hW.cell (p := ⟨gE, 1, none⟩) KE.out.lt).trans (KE.out.cell 1), (hW.cell (p := ⟨gE, 2, none⟩) KE.out.lt).trans (KE.out.cell 2), (hW.cell (p := ⟨gE, 3, none⟩) KE.out.lt).trans (KE.out.cell 3), (hW.cell (p := ⟨gE, 4, none⟩) KE.out.lt).trans (KE.out.cell 4), (hW.cell (p := ⟨g3, 0, none⟩) K3.out.lt).trans (K3.out.cell 0), hW⟩)
      have d0 : Below wr.heap.size wr wr.drew := (Below.refl wr.heap.size wr).drew
      go_region_held3 (fun W => W.cell? ⟨gE, 0, none⟩ = some (.int .u8 0) ∧ W.cell? ⟨gE, 1, none⟩ = some (.bool true) ∧ W.cell? ⟨gE, 2, none⟩ = some (.int .u32 16) ∧ W.cell? ⟨gE, 3, none⟩ = some (.slice none 0 0) ∧ W.cell? ⟨gE, 4, none⟩ = some (.slice B1 q cb) ∧ W.cell? ⟨g3, 0, none⟩ = some (.slice A n c) ∧ Below wr.heap.size wr W)
        (first | exact HSR.out _ d3 | exact HSR.out _ d2 | exact HSR.out _ d1 | exact HSR.out _ d0)
        (first | (have dz := d2; go_at_call 19; refine (lives_any _).mono ?_; rintro e v3 ⟨rfl, hv3⟩; have d3 : Below wr.heap.size wr v3 := d2.trans (hv3.mono d2.size); clear dz) | (have dz := d1; go_at_call 18; refine (same_eq (tofE code) _ _ _ (rdE_parts (x := false) (by decide) (by decide) HM.out.1 HM.out.2.1 HM.out.2.2 (fun h => by cases h) (RS.out.stay d1)) (rdE_parts (x := false) (by decide) (by decide) hm3 hmc3 hcm3 (fun h => by cases h) hrs3)).mono ?_; rintro e v2 ⟨rfl, hv2⟩; have d2 : Below wr.heap.size wr v2 := d1.trans (hv2.mono d1.size); clear dz) | (go_at_call 11; refine (tof_any code A n c HN.out.1 HN.out.2 _ (RA.out.below d0)).mono ?_; rintro e v1 ⟨B3, m3, cb3, rfl, hm3, hmc3, hcm3, hrs3, hv1⟩; have d1 : Below wr.heap.size wr v1 := d0.trans (hv1.mono d0.size)))
      have BZ := bt B (Lib.hid d3)
      clear HSR
      go_wp2_with fail
      go_ret
      exact ⟨rfl, BZ.out⟩
open Go.WideMaps Go.WideElems

open Go.ChangeShapes Go.WideShapes Go.ChangeAt
set_option maxRecDepth 100000 in
theorem fieldsOrdered_lifted (os : Os) (started : os.Started) (H : Type) (enc : TypeId × Value → H) :
    ReturnsInHanded {} Try.checked os 6 .any (Rows.fieldsOrderedSpec.pre6 enc Try.prog Try.f6 Rows.fieldsOrderedRow.domain false) (Rows.fieldsOrderedSpec.post enc Try.prog Try.f6 false true false false) := by
  refine returnsInHanded_of_change (C := Try.checked) x_own started (by kernel_rfl) Try.func6
    (ChangeSpec.witness6 (enc := enc) (C := Try.checked) false ⟨#[], #[.agg #[.slice none 0 0]], []⟩ 8 (by kernel_rfl) (by kernel_rfl) (by kernel_rfl) (by kernel_rfl)) ?_
  intro W base args ds gs before hval0 hW hcnd _
  have hval : ∀ (j : Nat) t v, Try.f6.params[j]? = some t → args[j]? = some v → Value.okWide Try.prog W .any base t v := hval0
  have hW' := hW
  obtain ⟨p, q, hA0, hV, rfl, hfz, hnd⟩ := hW
  have hA : DataW.TrodAll enc Try.prog W 0 (fun _ => true) true Try.f6.params.toList args.toList ds p := hA0
  rw [Try.params6] at hA hval
  obtain ⟨v0, d0, rfl, rfl, h0⟩ := trodAll_one hA
  obtain ⟨rfl, rfl⟩ := trodVars_none hV
  obtain ⟨A, l, c, rfl, hA1, hl1, hm1⟩ := open_T (hval 0 _ _ rfl rfl) h0
  clear hA0 hval0
  refine (order_law l A l.length c W hA1 rfl (Nat.le_trans hl1 hm1)).mono fun e W' ⟨he, hb⟩ => ?_
  subst he
  exact ⟨_, rfl, law_post (tb := 4) x_laid (by decide +kernel) rfl rfl (by kernel_rfl) Try.underlying4 hW' hb⟩

/-- The statement. -/
theorem fieldsOrdered_holds : Rows.FieldsOrderedSaid :=
  OpenClaim.holds_of_wide 6 Try.f6 rfl rfl rfl rfl rfl rfl rfl ⟨rfl, rfl, rfl, rfl, rfl⟩ rfl rfl rfl rfl rfl (by kernel_rfl) Try.func6 (by kernel_rfl)
    (of_decide_eq_true (by kernel_rfl)) (by unfold Func.isWrapper; first | (rw [if_pos (by decide +kernel)]; kernel_rfl) | (rw [if_neg (by decide +kernel)]; exact ⟨rfl, rfl⟩))
    (fun os started H enc _ => fieldsOrdered_lifted os started H enc)
end Go.Proofs.Ytklljbcnfamikaa.Fl
