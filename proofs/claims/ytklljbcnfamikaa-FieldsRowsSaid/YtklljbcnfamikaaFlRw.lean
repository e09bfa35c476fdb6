/-
  Layer 12: FieldsRows: without a fault each field that is not optional is an element, all others are elements or absent, and the elements are all of them, in order; with a fault there are no indices.
  Conditions: none beyond that the codes are bytes.
-/
import Derived.Test.YtklljbcnfamikaaFlSq
namespace Go.Proofs.Ytklljbcnfamikaa.Fl
open Go.RowKit

theorem store2 {w0 W : World} {g : Nat} {t : TypeId} {a b a0 b0 : Value} (K : Bk W g t [a0, b0]) (hb : Below w0.heap.size w0 W) (hg : w0.heap.size ≤ g) :
    Bk ((W.setCell ⟨g, 0, none⟩ a).setCell ⟨g, 1, none⟩ b) g t [a, b] ∧ Below w0.heap.size w0 ((W.setCell ⟨g, 0, none⟩ a).setCell ⟨g, 1, none⟩ b) :=
  ⟨(K.store 0 _).store 1 _, (hb.setCell (p := ⟨g, 0, none⟩) hg _).setCell (p := ⟨g, 1, none⟩) hg _⟩
theorem rx_set {W : World} {g : Nat} {a b : Value} {A : Option Addr} {xs : List Value} (h : RdX (fun i => i ≠ g) W A xs) : Rd ((W.setCell ⟨g, 0, none⟩ a).setCell ⟨g, 1, none⟩ b) A xs := fun hn => by
  obtain ⟨i, off, e, hi, hne, hc⟩ := h hn
  refine ⟨i, off, e, by rw [World.size_setCell, World.size_setCell]; exact hi, fun j u hu => ?_⟩
  rw [← hc j u hu]
  exact World.cell?_of_block (by rw [Below.heap_setCell _ _ _ _ (by exact hne), Below.heap_setCell _ _ _ _ (by exact hne)])
theorem sqR_bad {c n : Nat} {k : Bool} {e : El} {l : List Fd} {I P : List Int} {f : Nat} (h : sqR c n k e l = (I, P, f)) (hf : f ≠ 0) : I = [] ∧ P.length ≤ 1 := by
  obtain ⟨c', n', k', bs, ss⟩ := e
  unfold sqR at h
  dsimp only at h
  split at h
  · injection h with h1 h2; injection h2 with h2 h3; subst h1 h2; exact ⟨rfl, Nat.zero_le _⟩
  · split at h
    · injection h with h1 h2; injection h2 with h2 h3; subst h1 h2; exact ⟨rfl, Nat.zero_le _⟩
    · have h1 := sqL_bad ss l 0; have h2 := sqL_path ss l 0
      rw [h] at h1 h2
      exact ⟨h1 hf, h2.1⟩
theorem sqR_ok {c n : Nat} {k : Bool} {c' n' : Nat} {k' : Bool} {bs : List Nat} {ss : List El} {l : List Fd} {I P : List Int} (h : sqR c n k (.mk c' n' k' bs ss) l = (I, P, 0)) : sqL ss l 0 = (I, P, 0) := by
  unfold sqR at h
  dsimp only at h
  split at h
  · injection h with h1 h2; injection h2 with h2 h3; cases h3
  · split at h
    · injection h with h1 h2; injection h2 with h2 h3; cases h3
    · exact h
/-- One field's step, where there is no fault. -/
theorem sq_step {ss : List El} {fd : Fd} {l : List Fd} {p : Nat} {I P : List Int} (h : sqL ss (fd :: l) p = (I, P, 0)) :
    (hit fd ss p = true ∧ ∃ I', I = (p : Int) :: I' ∧ sqL ss l (p + 1) = (I', P, 0)) ∨ (fd.opt = true ∧ ∃ I', I = -1 :: I' ∧ sqL ss l p = (I', P, 0)) := by
  unfold sqL at h
  have hc : ∀ (x : Int) (r : List Int × List Int × Nat), consR x r = (I, P, 0) → ∃ I', I = x :: I' ∧ r = (I', P, 0) := by
    intro x r hr
    obtain ⟨a, b, c⟩ := r
    unfold consR at hr
    dsimp only at hr
    split at hr
    · injection hr with h1 h2; injection h2 with h2 h3; subst h1 h2 h3; exact ⟨a, rfl, rfl⟩
    · injection hr with h1 h2; injection h2 with h2 h3; omega
  split at h
  · rename_i hh; exact .inl ⟨hh, hc _ _ h⟩
  · split at h
    · rename_i ho; exact .inr ⟨ho, hc _ _ h⟩
    · split at h <;> (injection h with h1 h2; injection h2 with h2 h3; cases h3)
theorem sq_end {ss : List El} {p : Nat} {I P : List Int} (h : sqL ss [] p = (I, P, 0)) : ss.length ≤ p := by
  unfold sqL at h
  split at h
  · injection h with h1 h2; injection h2 with h2 h3; cases h3
  · omega
/-- An element's tag where the elements lie. -/
theorem tag_at {x : Bool} {S : Nat → Prop} {w : World} {A : Option Addr} {ss : List El} (h : RdS x S w A ss) {i : Nat} (hi : i < ss.length) :
    ∃ b off c n k, A = some ⟨b, off, none⟩ ∧ b < w.heap.size ∧ w.cell? ⟨b, off + i * 5, none⟩ = some (.int .u8 ((c : Nat) : Int)) ∧ w.cell? ⟨b, off + i * 5 + 1, none⟩ = some (.bool k) ∧ w.cell? ⟨b, off + i * 5 + 2, none⟩ = some (.int .u32 ((n : Nat) : Int)) ∧ ∀ f : Fd, fit f ss[i] = (f.any || (decide (f.c = c) && (f.k == k) && decide (f.n = n))) := by
  obtain ⟨b, off, y, h1, h2, h3, h4, h5⟩ := h.at_ hi
  generalize ss[i] = e at h5
  obtain ⟨c, n, k, bs, ts⟩ := e
  obtain ⟨g1, g2, g3, A', ca, B', cb, rfl, g5⟩ := h5
  exact ⟨b, off, c, n, k, h1, h2, h4 0 _ rfl, h4 1 _ rfl, h4 2 _ rfl, fun f => rfl⟩
set_option linter.unusedSimpArgs false in
set_option maxHeartbeats 4000000 in
set_option maxRecDepth 100000 in
theorem rows_law (code : List Nat) (A : Option Addr) (n c : Nat) (l : List (Nat × Nat)) (A2 : Option Addr) (n2 c2 : Nat) (w : World) (hA : Rb w A code) (hn : code.length = n) (hnm : n ≤ maxLen) (hA2 : Rd w A2 (csP l)) (hf : fitP l) (hn2 : l.length = n2) (hm2 : n2 ≤ maxLen) :
    Calls Try.prog 4 #[.agg #[.slice A n c], .slice A2 n2 c2] w fun e w' => e = .returned (.bool true) ∧ Below w.heap.size w w' := by
  have RA := Lib.hid hA
  have RL := Lib.hid hA2
  have HF := Lib.hid hf
  have HN := Lib.hid (And.intro hn hnm)
  have HN2 := Lib.hid (And.intro hn2 hm2)
  have B := Lib.hid (Below.refl w.heap.size w)
  clear hA hA2 hf hn hnm hn2 hm2
  go_enter Try.func4, Try.ntmps4
  go_upto_region 1 with fail
  obtain ⟨g3, hg3⟩ : ∃ g, w.heap.size = g := ⟨_, rfl⟩
  obtain ⟨w1, hw⟩ : ∃ v, w.alloc (.cells #[.slice A n c] 24) = v := ⟨_, rfl⟩
  have hbh := Lib.hid (show Below w.heap.size w w1 by rw [← hw]; exact bel1 _ _)
  have K3n := Lib.hid (show Bk w1 g3 24 [.slice A n c] by rw [← hw, ← hg3]; exact Bk.new w _ [_])
  rw [hw, hg3]
  replace RA := Lib.hid (RA.out.below hbh.out)
  replace RL := rt RL hbh
  replace B := bt B hbh
  have K3 := K3n
  clear hbh hw K3n
  have c0 : w1.cell? ⟨g3, 0, none⟩ = some (.slice A n c) := K3.out.cell 0
  go_wp2_with fail
  refine (tof_any code A n c HN.out.1 HN.out.2 _ RA.out).mono ?_
  rintro e w2 ⟨B1, m, cb, rfl, hm1, hmc, hcm, hrs, hb⟩
  have HM := Lib.hid (And.intro hm1 (And.intro hmc hcm))
  have hbh := Lib.hid hb
  replace RA := Lib.hid (RA.out.below hbh.out)
  replace RL := rt RL hbh
  replace B := bt B hbh
  replace K3 := kt K3 hbh
  have RS := Lib.hid hrs
  clear hbh hb hm1 hmc hcm hrs c0
  clear RA K3
  go_upto_region 2 with fail
  obtain ⟨gE, hgE⟩ : ∃ g, w2.heap.size = g := ⟨_, rfl⟩
  obtain ⟨w3, hw⟩ : ∃ v, w2.alloc (.cells #[.int .u8 0, .bool true, .int .u32 16, .slice none 0 0, .slice B1 m cb] 32) = v := ⟨_, rfl⟩
  have hbh := Lib.hid (show Below w2.heap.size w2 w3 by rw [← hw]; exact bel1 _ _)
  have KEn := Lib.hid (show Bk w3 gE 32 [.int .u8 0, .bool true, .int .u32 16, .slice none 0 0, .slice B1 m cb] by rw [← hw, ← hgE]; exact Bk.new w2 _ [_, _, _, _, _])
  rw [hw, hgE]
  replace RL := rt RL hbh
  replace B := bt B hbh
  replace RS := Lib.hid (RS.out.stay hbh.out)
  have KE := KEn
  clear hbh hw KEn
  go_wp2_with fail
  refine (fields_any l A2 n2 c2 HN2.out.1 HN2.out.2 _ RL.out HF.out).mono ?_
  rintro e w4 ⟨v, rfl, hown, hb⟩
  obtain ⟨AF, nF, cF, rfl, hLn, hFc, hFm, hrF⟩ := own_fd hown
  have HLF := Lib.hid (And.intro hLn (And.intro hFc hFm))
  have hbh := Lib.hid hb
  replace RL := rt RL hbh
  replace B := bt B hbh
  replace RS := Lib.hid (RS.out.stay hbh.out)
  replace KE := kt KE hbh
  have RF := Lib.hid hrF
  clear hbh hb hown hLn hFc hFm hrF
  clear RL
  go_upto_region 3 with fail
  obtain ⟨R, hR⟩ : ∃ R, sqR 0 16 true (.mk 0 16 true [] (tofS code)) (fldL l) = R := ⟨_, rfl⟩
  obtain ⟨I, P, f⟩ := R
  have HR := Lib.hid hR
  clear hR
  have HS1 := Lib.hid fun W hS hA => seq_any (x := false) (S := fun j => w1.heap.size ≤ j ∧ j < w2.heap.size) 0 16 true (.slice none 0 0) [] (tofS code) B1 m cb 0 16 true (fldL l) AF nF cF W HM.out.1 HM.out.2.1 HM.out.2.2 hS HLF.out.1 hA (maxN (Nat.le_trans HLF.out.2.1 HLF.out.2.2)) I P f HR.out
  have HSR := Lib.hid (show ∀ W, Below w4.heap.size w4 W → W.cell? ⟨gE, 0, none⟩ = some (.int .u8 0) ∧ W.cell? ⟨gE, 1, none⟩ = some (.bool true) ∧ W.cell? ⟨gE, 2, none⟩ = some (.int .u32 16) ∧ W.cell? ⟨gE, 3, none⟩ = some (.slice none 0 0) ∧ W.cell? ⟨gE, 4, none⟩ = some (.slice B1 m cb) ∧ Below w4.heap.size w4 W from fun W hW => ⟨(hW.cell (p := ⟨gE, 0, none⟩) KE.out.lt).trans (KE.out.cell 0), (hW.cell (p := ⟨gE, 1, none⟩) KE.out.lt).trans (KE.out.cell 1), (hW.cell (p := ⟨gE, 2, none⟩) KE.out.lt).trans (KE.out.cell 2), (hW.cell (p := ⟨gE, 3, none⟩) KE.out.lt).trans (KE.out.cell 3), (hW.cell (p := ⟨gE, 4, none⟩) KE.out.lt).trans (KE.out.cell 4), hW⟩)
  go_cut [7, 8] (fun z7 z8 wx => ∃ A5 c5 A6 q5 g, z7 = .slice A5 c5 c5 ∧ z8 = .pointer (some ⟨g, 0, none⟩) ∧ I.length = c5 ∧ P.length = q5 ∧ c5 ≤ maxLen ∧ Bk wx g 40 [.slice A6 q5 q5, .int .i64 (f : Int)] ∧ Rd wx A5 (csZ I) ∧ Rd wx A6 (csZ P) ∧ Below w4.heap.size w4 wx)
  case first =>
    refine wp_region_held_drew (S := fun W => W.cell? ⟨gE, 0, none⟩ = some (.int .u8 0) ∧ W.cell? ⟨gE, 1, none⟩ = some (.bool true) ∧ W.cell? ⟨gE, 2, none⟩ = some (.int .u32 16) ∧ W.cell? ⟨gE, 3, none⟩ = some (.slice none 0 0) ∧ W.cell? ⟨gE, 4, none⟩ = some (.slice B1 m cb) ∧ Below w4.heap.size w4 W) (by kernel_rfl) (HSR.out _ (Below.refl w4.heap.size w4).drew) (fun hS => ?_)
    obtain ⟨wd, hwd⟩ : ∃ v, w4.drew = v := ⟨_, rfl⟩
    have d0 : Below w4.heap.size w4 wd := by rw [← hwd]; exact (Below.refl w4.heap.size w4).drew
    have RSx := Lib.hid (RS.out.stay d0)
    have RFx := Lib.hid (RF.out.below d0)
    rw [hwd] at hS ⊢
    clear hwd
    refine wpAnyH_take (i := 0) (oi := ⟨some 16, _, _, _, _, _⟩) (v := .agg #[.int .u8 0, .bool true, .int .u32 16, .slice none 0 0, .slice B1 m cb]) rfl (by kernel_rfl) (by kernel_rfl) (by kernel_rfl) (fun _ _ _ h => h) (Or.inl ⟨by rfl, fun w hSw => by (try obtain ⟨s1, s2, s3, s4, s5, s6⟩ := hSw); go_simp⟩) hS ?_
    (try simp only [Act.put, List.setIfInBounds_toArray, List.set_cons_zero, List.set_cons_succ])
    refine wpAnyH_take (i := 2) (oi := ⟨some 18, _, _, _, _, _⟩) (v := .slice AF nF cF) rfl (by kernel_rfl) (by kernel_rfl) (by kernel_rfl) (fun _ _ _ h => h) (Or.inl ⟨by rfl, fun w _ => by go_simp⟩) hS ?_
    (try simp only [Act.put, List.setIfInBounds_toArray, List.set_cons_zero, List.set_cons_succ])
    refine wpAnyH_ready (rs := [1, 7]) (by kernel_rfl) (by simp) ?_
    refine AllReadyH.cons (o := _) rfl (fun K hK => ?_) (AllReadyH.cons (o := _) rfl (fun K hK => ?_) (AllReadyH.nil))
    · go_simp
      refine (tag_any 0 0 16 true _ (by decide) rfl).mono ?_
      rintro e wC1 ⟨rfl, hv⟩
      have d1 : Below w4.heap.size w4 wC1 := d0.trans (hv.mono d0.size)
      replace RSx := Lib.hid (RSx.out.stay hv)
      replace RFx := Lib.hid (RFx.out.below hv)
      clear hv
      refine hK.out _ _ (HSR.out _ d1) (fun hS9 => ?_)
      clear hK K hS
      have hS := hS9
      clear hS9
      (try simp only [Act.put, List.setIfInBounds_toArray, List.set_cons_zero, List.set_cons_succ])
      refine wpAnyH_ready (rs := [3, 7]) (by kernel_rfl) (by simp) ?_
      refine AllReadyH.cons (o := _) rfl (fun K hK => ?_) (AllReadyH.cons (o := _) rfl (fun K hK => ?_) (AllReadyH.nil))
      · go_simp
        refine (HS1.out _ RSx.out RFx.out).mono ?_
        rintro e wC3 ⟨A5, n5, c5, A6, m5, q5, rfl, hI, _, hcm5, hrI, hP, _, hdm, hrP, hx, hv⟩
        obtain ⟨hx1, hx2⟩ := hx rfl
        subst hx1 hx2
        have HI := Lib.hid (And.intro hI hcm5)
        have HP := Lib.hid (And.intro hP hdm)
        have RI := Lib.hid hrI
        have RP := Lib.hid hrP
        have d2 : Below w4.heap.size w4 wC3 := d1.trans (hv.mono d1.size)
        replace RSx := Lib.hid (RSx.out.stay hv)
        replace RFx := Lib.hid (RFx.out.below hv)
        clear hv hrI hrP hI hcm5 hP hdm hx
        refine hK.out _ _ (HSR.out _ d2) (fun hS9 => ?_)
        clear hK K hS
        have hS := hS9
        clear hS9
        (try simp only [Act.put, List.setIfInBounds_toArray, List.set_cons_zero, List.set_cons_succ])
        refine wpAnyH_take (i := 4) (oi := ⟨some 15, _, _, _, _, _⟩) (v := .tuple #[.slice A5 c5 c5, fvV A6 q5 q5 f]) rfl (by kernel_rfl) (by kernel_rfl) (by kernel_rfl) (fun _ _ _ h => h) (Or.inl ⟨by rfl, fun w _ => by go_simp⟩) hS ?_
        (try simp only [Act.put, List.setIfInBounds_toArray, List.set_cons_zero, List.set_cons_succ])
        refine wpAnyH_take (i := 5) (oi := ⟨some 20, _, _, _, _, _⟩) (v := .slice A5 c5 c5) rfl (by kernel_rfl) (by kernel_rfl) (by kernel_rfl) (fun _ _ _ h => h) (Or.inl ⟨by rfl, fun w _ => by go_simp⟩) hS ?_
        (try simp only [Act.put, List.setIfInBounds_toArray, List.set_cons_zero, List.set_cons_succ])
        refine wpAnyH_take (i := 6) (oi := ⟨some 21, _, _, _, _, _⟩) (v := .agg #[.slice A6 q5 q5, .int .i64 (f : Int)]) rfl (by kernel_rfl) (by kernel_rfl) (by kernel_rfl) (fun _ _ _ h => h) (Or.inl ⟨by rfl, fun w _ => by go_simp⟩) hS ?_
        (try simp only [Act.put, List.setIfInBounds_toArray, List.set_cons_zero, List.set_cons_succ])
        refine wpAnyH_ready (rs := [7]) (by kernel_rfl) (by simp) ?_
        refine AllReadyH.cons (o := _) rfl (fun K hK => ?_) (AllReadyH.nil)
        go_simp
        obtain ⟨wA7, hwwA7⟩ : ∃ v, wC3.alloc (.cells #[.slice none 0 0, .int .i64 0] 40) = v := ⟨_, rfl⟩
        have hA7 : Below wC3.heap.size wC3 wA7 := by rw [← hwwA7]; exact bel1 _ _
        obtain ⟨gF, hgF⟩ : ∃ g, wC3.heap.size = g := ⟨_, rfl⟩
        have KgF := Lib.hid (show Bk wA7 gF 40 [.slice none 0 0, .int .i64 0] by rw [← hwwA7, ← hgF]; exact Bk.new wC3 _ [_, _])
        have GgF := Lib.hid (show w4.heap.size ≤ gF by rw [← hgF]; exact d2.size)
        rw [hwwA7, hgF]
        have LRIgF := Lib.hid (show RdX (fun i => i ≠ gF) wC3 _ _ from fun hn => by obtain ⟨b, off, e, hb, _, hc⟩ := RI.out hn; exact ⟨b, off, e, hb, by rw [← hgF]; omega, hc⟩)
        have LRPgF := Lib.hid (show RdX (fun i => i ≠ gF) wC3 _ _ from fun hn => by obtain ⟨b, off, e, hb, _, hc⟩ := RP.out hn; exact ⟨b, off, e, hb, by rw [← hgF]; omega, hc⟩)
        have d3 : Below w4.heap.size w4 wA7 := d2.trans (hA7.mono d2.size)
        replace RSx := Lib.hid (RSx.out.stay hA7)
        replace RFx := Lib.hid (RFx.out.below hA7)
        replace RI := Lib.hid (RdX.belowX RI.out hA7)
        replace RP := Lib.hid (RdX.belowX RP.out hA7)
        replace LRIgF := Lib.hid (RdX.belowX LRIgF.out hA7)
        replace LRPgF := Lib.hid (RdX.belowX LRPgF.out hA7)
        clear hwwA7 hgF hA7
        refine hK.out _ _ (HSR.out _ d3) (fun hS9 => ?_)
        clear hK K hS
        have hS := hS9
        clear hS9
        (try simp only [Act.put, List.setIfInBounds_toArray, List.set_cons_zero, List.set_cons_succ])
        refine wpAnyH_take (i := 8) (oi := ⟨some 7, _, _, _, _, _⟩) (v := .slice A5 c5 c5) rfl (by kernel_rfl) (by kernel_rfl) (by kernel_rfl) (fun _ _ _ h => h) (Or.inl ⟨by rfl, fun w _ => by go_simp⟩) hS ?_
        (try simp only [Act.put, List.setIfInBounds_toArray, List.set_cons_zero, List.set_cons_succ])
        refine wpAnyH_ready (rs := [9]) (by kernel_rfl) (by simp) ?_
        refine AllReadyH.cons (o := _) rfl (fun K hK => ?_) (AllReadyH.nil)
        have k0 := KgF.out.cell 0
        have k1 := KgF.out.cell 1
        have k2 := KgF.out.free 0
        have k3 := KgF.out.free 1
        simp only [List.getElem?_cons_zero, List.getElem?_cons_succ] at k0 k1
        go_simp
        have hst := store2 (a := .slice A6 q5 q5) (b := .int .i64 (f : Int)) KgF.out d3 GgF.out
        refine hK.out _ _ (HSR.out _ hst.2) (fun hS9 => ?_)
        clear hK K hS
        have hS := hS9
        clear hS9
        (try simp only [Act.put, List.setIfInBounds_toArray, List.set_cons_zero, List.set_cons_succ])
        refine wpAnyH_done (by kernel_rfl) ?_ _
        clear hS
        clear k0 k1 k2 k3
        have HST := Lib.hid hst
        clear hst
        go_wp2_with fail
        go_meet
        exact ⟨A5, c5, A6, q5, gF, rfl, rfl, HI.out.1, HP.out.1, HI.out.2, HST.out.1, rx_set LRIgF.out, rx_set LRPgF.out, HST.out.2⟩
      · go_simp
        obtain ⟨wA7, hwwA7⟩ : ∃ v, wC1.alloc (.cells #[.slice none 0 0, .int .i64 0] 40) = v := ⟨_, rfl⟩
        have hA7 : Below wC1.heap.size wC1 wA7 := by rw [← hwwA7]; exact bel1 _ _
        obtain ⟨gF, hgF⟩ : ∃ g, wC1.heap.size = g := ⟨_, rfl⟩
        have KgF := Lib.hid (show Bk wA7 gF 40 [.slice none 0 0, .int .i64 0] by rw [← hwwA7, ← hgF]; exact Bk.new wC1 _ [_, _])
        have GgF := Lib.hid (show w4.heap.size ≤ gF by rw [← hgF]; exact d1.size)
        rw [hwwA7, hgF]
        have d2 : Below w4.heap.size w4 wA7 := d1.trans (hA7.mono d1.size)
        replace RSx := Lib.hid (RSx.out.stay hA7)
        replace RFx := Lib.hid (RFx.out.below hA7)
        clear hwwA7 hgF hA7
        refine hK.out _ _ (HSR.out _ d2) (fun hS9 => ?_)
        clear hK K hS
        have hS := hS9
        clear hS9
        (try simp only [Act.put, List.setIfInBounds_toArray, List.set_cons_zero, List.set_cons_succ])
        refine wpAnyH_ready (rs := [3]) (by kernel_rfl) (by simp) ?_
        refine AllReadyH.cons (o := _) rfl (fun K hK => ?_) (AllReadyH.nil)
        go_simp
        refine (HS1.out _ RSx.out RFx.out).mono ?_
        rintro e wC3 ⟨A5, n5, c5, A6, m5, q5, rfl, hI, _, hcm5, hrI, hP, _, hdm, hrP, hx, hv⟩
        obtain ⟨hx1, hx2⟩ := hx rfl
        subst hx1 hx2
        have HI := Lib.hid (And.intro hI hcm5)
        have HP := Lib.hid (And.intro hP hdm)
        have RI := Lib.hid hrI
        have RP := Lib.hid hrP
        have LRIgF := Lib.hid (show RdX (fun i => i ≠ gF) wC3 _ _ from fun hn => by obtain ⟨b, off, e, hb, hs, hc⟩ := hrI hn; exact ⟨b, off, e, hb, by have := KgF.out.lt; omega, hc⟩)
        have LRPgF := Lib.hid (show RdX (fun i => i ≠ gF) wC3 _ _ from fun hn => by obtain ⟨b, off, e, hb, hs, hc⟩ := hrP hn; exact ⟨b, off, e, hb, by have := KgF.out.lt; omega, hc⟩)
        have d3 : Below w4.heap.size w4 wC3 := d2.trans (hv.mono d2.size)
        replace RSx := Lib.hid (RSx.out.stay hv)
        replace RFx := Lib.hid (RFx.out.below hv)
        replace KgF := Lib.hid (KgF.out.below hv KgF.out.lt)
        clear hv hrI hrP hI hcm5 hP hdm hx
        refine hK.out _ _ (HSR.out _ d3) (fun hS9 => ?_)
        clear hK K hS
        have hS := hS9
        clear hS9
        (try simp only [Act.put, List.setIfInBounds_toArray, List.set_cons_zero, List.set_cons_succ])
        refine wpAnyH_take (i := 4) (oi := ⟨some 15, _, _, _, _, _⟩) (v := .tuple #[.slice A5 c5 c5, fvV A6 q5 q5 f]) rfl (by kernel_rfl) (by kernel_rfl) (by kernel_rfl) (fun _ _ _ h => h) (Or.inl ⟨by rfl, fun w _ => by go_simp⟩) hS ?_
        (try simp only [Act.put, List.setIfInBounds_toArray, List.set_cons_zero, List.set_cons_succ])
        refine wpAnyH_take (i := 5) (oi := ⟨some 20, _, _, _, _, _⟩) (v := .slice A5 c5 c5) rfl (by kernel_rfl) (by kernel_rfl) (by kernel_rfl) (fun _ _ _ h => h) (Or.inl ⟨by rfl, fun w _ => by go_simp⟩) hS ?_
        (try simp only [Act.put, List.setIfInBounds_toArray, List.set_cons_zero, List.set_cons_succ])
        refine wpAnyH_take (i := 6) (oi := ⟨some 21, _, _, _, _, _⟩) (v := .agg #[.slice A6 q5 q5, .int .i64 (f : Int)]) rfl (by kernel_rfl) (by kernel_rfl) (by kernel_rfl) (fun _ _ _ h => h) (Or.inl ⟨by rfl, fun w _ => by go_simp⟩) hS ?_
        (try simp only [Act.put, List.setIfInBounds_toArray, List.set_cons_zero, List.set_cons_succ])
        refine wpAnyH_take (i := 8) (oi := ⟨some 7, _, _, _, _, _⟩) (v := .slice A5 c5 c5) rfl (by kernel_rfl) (by kernel_rfl) (by kernel_rfl) (fun _ _ _ h => h) (Or.inl ⟨by rfl, fun w _ => by go_simp⟩) hS ?_
        (try simp only [Act.put, List.setIfInBounds_toArray, List.set_cons_zero, List.set_cons_succ])
        refine wpAnyH_ready (rs := [9]) (by kernel_rfl) (by simp) ?_
        refine AllReadyH.cons (o := _) rfl (fun K hK => ?_) (AllReadyH.nil)
        have k0 := KgF.out.cell 0
        have k1 := KgF.out.cell 1
        have k2 := KgF.out.free 0
        have k3 := KgF.out.free 1
        simp only [List.getElem?_cons_zero, List.getElem?_cons_succ] at k0 k1
        go_simp
        have hst := store2 (a := .slice A6 q5 q5) (b := .int .i64 (f : Int)) KgF.out d3 GgF.out
        refine hK.out _ _ (HSR.out _ hst.2) (fun hS9 => ?_)
        clear hK K hS
        have hS := hS9
        clear hS9
        (try simp only [Act.put, List.setIfInBounds_toArray, List.set_cons_zero, List.set_cons_succ])
        refine wpAnyH_done (by kernel_rfl) ?_ _
        clear hS
        clear k0 k1 k2 k3
        have HST := Lib.hid hst
        clear hst
        go_wp2_with fail
        go_meet
        exact ⟨A5, c5, A6, q5, gF, rfl, rfl, HI.out.1, HP.out.1, HI.out.2, HST.out.1, rx_set LRIgF.out, rx_set LRPgF.out, HST.out.2⟩
    · go_simp
      obtain ⟨wA7, hwwA7⟩ : ∃ v, wd.alloc (.cells #[.slice none 0 0, .int .i64 0] 40) = v := ⟨_, rfl⟩
      have hA7 : Below wd.heap.size wd wA7 := by rw [← hwwA7]; exact bel1 _ _
      obtain ⟨gF, hgF⟩ : ∃ g, wd.heap.size = g := ⟨_, rfl⟩
      have KgF := Lib.hid (show Bk wA7 gF 40 [.slice none 0 0, .int .i64 0] by rw [← hwwA7, ← hgF]; exact Bk.new wd _ [_, _])
      have GgF := Lib.hid (show w4.heap.size ≤ gF by rw [← hgF]; exact d0.size)
      rw [hwwA7, hgF]
      have d1 : Below w4.heap.size w4 wA7 := d0.trans (hA7.mono d0.size)
      replace RSx := Lib.hid (RSx.out.stay hA7)
      replace RFx := Lib.hid (RFx.out.below hA7)
      clear hwwA7 hgF hA7
      refine hK.out _ _ (HSR.out _ d1) (fun hS9 => ?_)
      clear hK K hS
      have hS := hS9
      clear hS9
      (try simp only [Act.put, List.setIfInBounds_toArray, List.set_cons_zero, List.set_cons_succ])
      refine wpAnyH_ready (rs := [1]) (by kernel_rfl) (by simp) ?_
      refine AllReadyH.cons (o := _) rfl (fun K hK => ?_) (AllReadyH.nil)
      go_simp
      refine (tag_any 0 0 16 true _ (by decide) rfl).mono ?_
      rintro e wC1 ⟨rfl, hv⟩
      have d2 : Below w4.heap.size w4 wC1 := d1.trans (hv.mono d1.size)
      replace RSx := Lib.hid (RSx.out.stay hv)
      replace RFx := Lib.hid (RFx.out.below hv)
      replace KgF := Lib.hid (KgF.out.below hv KgF.out.lt)
      clear hv
      refine hK.out _ _ (HSR.out _ d2) (fun hS9 => ?_)
      clear hK K hS
      have hS := hS9
      clear hS9
      (try simp only [Act.put, List.setIfInBounds_toArray, List.set_cons_zero, List.set_cons_succ])
      refine wpAnyH_ready (rs := [3]) (by kernel_rfl) (by simp) ?_
      refine AllReadyH.cons (o := _) rfl (fun K hK => ?_) (AllReadyH.nil)
      go_simp
      refine (HS1.out _ RSx.out RFx.out).mono ?_
      rintro e wC3 ⟨A5, n5, c5, A6, m5, q5, rfl, hI, _, hcm5, hrI, hP, _, hdm, hrP, hx, hv⟩
      obtain ⟨hx1, hx2⟩ := hx rfl
      subst hx1 hx2
      have HI := Lib.hid (And.intro hI hcm5)
      have HP := Lib.hid (And.intro hP hdm)
      have RI := Lib.hid hrI
      have RP := Lib.hid hrP
      have LRIgF := Lib.hid (show RdX (fun i => i ≠ gF) wC3 _ _ from fun hn => by obtain ⟨b, off, e, hb, hs, hc⟩ := hrI hn; exact ⟨b, off, e, hb, by have := KgF.out.lt; omega, hc⟩)
      have LRPgF := Lib.hid (show RdX (fun i => i ≠ gF) wC3 _ _ from fun hn => by obtain ⟨b, off, e, hb, hs, hc⟩ := hrP hn; exact ⟨b, off, e, hb, by have := KgF.out.lt; omega, hc⟩)
      have d3 : Below w4.heap.size w4 wC3 := d2.trans (hv.mono d2.size)
      replace RSx := Lib.hid (RSx.out.stay hv)
      replace RFx := Lib.hid (RFx.out.below hv)
      replace KgF := Lib.hid (KgF.out.below hv KgF.out.lt)
      clear hv hrI hrP hI hcm5 hP hdm hx
      refine hK.out _ _ (HSR.out _ d3) (fun hS9 => ?_)
      clear hK K hS
      have hS := hS9
      clear hS9
      (try simp only [Act.put, List.setIfInBounds_toArray, List.set_cons_zero, List.set_cons_succ])
      refine wpAnyH_take (i := 4) (oi := ⟨some 15, _, _, _, _, _⟩) (v := .tuple #[.slice A5 c5 c5, fvV A6 q5 q5 f]) rfl (by kernel_rfl) (by kernel_rfl) (by kernel_rfl) (fun _ _ _ h => h) (Or.inl ⟨by rfl, fun w _ => by go_simp⟩) hS ?_
      (try simp only [Act.put, List.setIfInBounds_toArray, List.set_cons_zero, List.set_cons_succ])
      refine wpAnyH_take (i := 5) (oi := ⟨some 20, _, _, _, _, _⟩) (v := .slice A5 c5 c5) rfl (by kernel_rfl) (by kernel_rfl) (by kernel_rfl) (fun _ _ _ h => h) (Or.inl ⟨by rfl, fun w _ => by go_simp⟩) hS ?_
      (try simp only [Act.put, List.setIfInBounds_toArray, List.set_cons_zero, List.set_cons_succ])
      refine wpAnyH_take (i := 6) (oi := ⟨some 21, _, _, _, _, _⟩) (v := .agg #[.slice A6 q5 q5, .int .i64 (f : Int)]) rfl (by kernel_rfl) (by kernel_rfl) (by kernel_rfl) (fun _ _ _ h => h) (Or.inl ⟨by rfl, fun w _ => by go_simp⟩) hS ?_
      (try simp only [Act.put, List.setIfInBounds_toArray, List.set_cons_zero, List.set_cons_succ])
      refine wpAnyH_take (i := 8) (oi := ⟨some 7, _, _, _, _, _⟩) (v := .slice A5 c5 c5) rfl (by kernel_rfl) (by kernel_rfl) (by kernel_rfl) (fun _ _ _ h => h) (Or.inl ⟨by rfl, fun w _ => by go_simp⟩) hS ?_
      (try simp only [Act.put, List.setIfInBounds_toArray, List.set_cons_zero, List.set_cons_succ])
      refine wpAnyH_ready (rs := [9]) (by kernel_rfl) (by simp) ?_
      refine AllReadyH.cons (o := _) rfl (fun K hK => ?_) (AllReadyH.nil)
      have k0 := KgF.out.cell 0
      have k1 := KgF.out.cell 1
      have k2 := KgF.out.free 0
      have k3 := KgF.out.free 1
      simp only [List.getElem?_cons_zero, List.getElem?_cons_succ] at k0 k1
      go_simp
      have hst := store2 (a := .slice A6 q5 q5) (b := .int .i64 (f : Int)) KgF.out d3 GgF.out
      refine hK.out _ _ (HSR.out _ hst.2) (fun hS9 => ?_)
      clear hK K hS
      have hS := hS9
      clear hS9
      (try simp only [Act.put, List.setIfInBounds_toArray, List.set_cons_zero, List.set_cons_succ])
      refine wpAnyH_done (by kernel_rfl) ?_ _
      clear hS
      clear k0 k1 k2 k3
      have HST := Lib.hid hst
      clear hst
      go_wp2_with fail
      go_meet
      exact ⟨A5, c5, A6, q5, gF, rfl, rfl, HI.out.1, HP.out.1, HI.out.2, HST.out.1, rx_set LRIgF.out, rx_set LRPgF.out, HST.out.2⟩
  case rest =>
    obtain ⟨A5, c5, A6, q5, gF, rfl, rfl, hI, hP, hcm, hkf, hrI, hrP, hbx⟩ := hcut
    generalize wc = wc' at *
    have hbh := Lib.hid hbx
    clear hbx HSR HS1
    replace B := bt B hbh
    replace RS := Lib.hid (RS.out.stay hbh.out)
    replace KE := kt KE hbh
    replace RF := rt RF hbh
    have KF := Lib.hid hkf
    have RI := Lib.hid hrI
    have HI := Lib.hid (And.intro hI hcm)
    have HP := Lib.hid hP
    clear hbh hkf hrI hrP hI hP hcm
    have x0 := KF.out.cell 0
    have x1 := KF.out.cell 1
    simp only [List.getElem?_cons_zero, List.getElem?_cons_succ] at x0 x1
    by_cases h0 : f = 0
    · subst h0
      have hLL := sqL_len (tofS code) (fldL l) 0
      rw [sqR_ok HR.out] at hLL
      have hcn : c5 = nF := by rw [← HI.out.1, ← HLF.out.1]; exact hLL rfl
      have HSL := Lib.hid (sqR_ok HR.out)
      have HIF : Hid (I.length = nF) := Lib.hid (by rw [← hcn]; exact HI.out.1)
      subst hcn
      clear hLL HR KF HI HP
      go_wp2_with fail
      clear x0 x1
      go_loopw [9, 10] (fun z9 z10 wr => ∃ p q : Nat, z9 = .int .i64 (p : Int) ∧ z10 = .int .i64 (q : Int) ∧ q ≤ c5 ∧ p ≤ m ∧ sqL (tofS code) ((fldL l).drop q) p = (I.drop q, P, 0) ∧ Below wc'.heap.size wc' wr) (fun _ z10 _ => c5 - (intOf z10).toNat)
      case atStart => exact ⟨0, 0, rfl, rfl, Nat.zero_le _, Nat.zero_le _, HSL.out, Below.refl _ _⟩
      case round =>
        obtain ⟨p, q, rfl, rfl, hq, hp, hsl, hbl⟩ := hrel
        have BB := Lib.hid hbl
        have HSQ := Lib.hid hsl
        have HPQ := Lib.hid (And.intro hp hq)
        have KE1 := kt KE BB
        have RS1 := Lib.hid (RS.out.stay BB.out)
        have hcc : c5 ≤ 9223372036854775807 := maxN (Nat.le_trans HLF.out.2.1 HLF.out.2.2)
        have hmm : m ≤ 9223372036854775807 := maxN (Nat.le_trans HM.out.2.1 HM.out.2.2)
        clear hsl hbl hp hq HSL
        obtain ⟨e0, e1, e2, e3, e4, ez⟩ := KE1.out.five
        by_cases hlt : q < c5
        · have hdr : (fldL l).drop q = (fldL l)[q]'(by rw [HLF.out.1]; exact hlt) :: (fldL l).drop (q + 1) := List.drop_eq_getElem_cons (by rw [HLF.out.1]; exact hlt)
          have hdi : I.drop q = I[q]'(by rw [HIF.out]; exact hlt) :: I.drop (q + 1) := List.drop_eq_getElem_cons (by rw [HIF.out]; exact hlt)
          obtain ⟨fb, foff, rfl, hfb, hfc⟩ := (RF.out.below BB.out).all_ (by rw [csF_len, HLF.out.1]; omega)
          have hfj : ∀ j, j < 5 → wr.cell? ⟨fb, foff + q * 5 + j, none⟩ = ((fldL l)[q]'(by rw [HLF.out.1]; exact hlt)).cells[j]? := fun j hj => by
            have h1 := csF_get (l := fldL l) (i := q) (by rw [HLF.out.1]; exact hlt) hj
            have h2 := hfc (q * 5 + j) (by rw [csF_len, HLF.out.1]; omega)
            rw [Nat.add_assoc, h2, ← h1, List.getElem?_eq_getElem]
          obtain ⟨ib, ioff, rfl, hib, hic⟩ := (RI.out.below BB.out).at_ (k := q) (by rw [csZ_len, HIF.out]; exact hlt)
          have hiz : (csZ I)[q]'(by rw [csZ_len, HIF.out]; exact hlt) = .int .i64 (I[q]'(by rw [HIF.out]; exact hlt)) := by unfold csZ; rw [List.getElem_map]
          rw [hiz] at hic
          obtain ⟨F, hF⟩ : ∃ F, (fldL l)[q]'(by rw [HLF.out.1]; exact hlt) = F := ⟨_, rfl⟩
          obtain ⟨y, hy⟩ : ∃ y, I[q]'(by rw [HIF.out]; exact hlt) = y := ⟨_, rfl⟩
          rw [hF] at hdr hfj
          rw [hy] at hdi hic
          have HST := HSQ.out
          rw [hdr, hdi] at HST
          obtain ⟨fc, fn, fk, fany, fopt⟩ := F
          have f0 : wr.cell? ⟨fb, foff + q * 5, none⟩ = some (.int .u8 (fc : Int)) := hfj 0 (by decide)
          have f1 : wr.cell? ⟨fb, foff + q * 5 + 1, none⟩ = some (.bool fk) := hfj 1 (by decide)
          have f2 : wr.cell? ⟨fb, foff + q * 5 + 2, none⟩ = some (.int .u32 (fn : Int)) := hfj 2 (by decide)
          have f3 : wr.cell? ⟨fb, foff + q * 5 + 3, none⟩ = some (.bool fany) := hfj 3 (by decide)
          have f4 : wr.cell? ⟨fb, foff + q * 5 + 4, none⟩ = some (.bool fopt) := hfj 4 (by decide)
          clear hfj hdr hdi hF hy hiz hfc HSQ
          rcases sq_step HST with ⟨hh, I', hI', hs⟩ | ⟨ho, I', hI', hs⟩
          · injection hI' with hI1 hI2
            subst hI1 hI2
            have HNX := Lib.hid hs
            have hpl := hit_lt hh
            unfold hit at hh
            rw [dif_pos hpl] at hh
            obtain ⟨sb, soff, ec, en, ek, rfl, hsb, s0, s1, s2, hfit⟩ := tag_at RS1.out hpl
            rw [hfit] at hh
            have hpm : p < m := by rw [← HM.out.1]; exact hpl
            have y1 : ((p : Int) == -1) = false := by simp <;> omega
            have y2 : decide ((p : Int) ≥ (m : Int)) = false := by simp; omega
            clear HST hs hpl hfit
            cases fany
            · have hzz : (decide (ec = fc) && (ek == fk) && decide (en = fn)) = true := by
                simp at hh ⊢
                obtain ⟨⟨h1, h2⟩, h3⟩ := hh
                exact ⟨⟨h1.symm, h2.symm⟩, h3.symm⟩
              have HQ := fun W => neqT ec ek en fc fk fn W
              rw [hzz] at HQ
              clear hzz hh
              go_upto_region 13 with fail
              have HSR := Lib.hid (show ∀ W, Below wr.heap.size wr W → W.cell? ⟨ib, ioff + q, none⟩ = some (.int .i64 (p : Int)) ∧ W.cell? ⟨gE, 4, none⟩ = some (.slice (some ⟨sb, soff, none⟩) m cb) ∧ W.cell? ⟨fb, foff + q * 5 + 3, none⟩ = some (.bool false) ∧ W.cell? ⟨sb, soff + p * 5, none⟩ = some (.int .u8 (ec : Int)) ∧ W.cell? ⟨sb, soff + p * 5 + 1, none⟩ = some (.bool ek) ∧ W.cell? ⟨sb, soff + p * 5 + 2, none⟩ = some (.int .u32 (en : Int)) ∧ W.cell? ⟨fb, foff + q * 5, none⟩ = some (.int .u8 (fc : Int)) ∧ W.cell? ⟨fb, foff + q * 5 + 1, none⟩ = some (.bool fk) ∧ W.cell? ⟨fb, foff + q * 5 + 2, none⟩ = some (.int .u32 (fn : Int)) ∧ Below wr.heap.size wr W from fun W hW => ⟨(hW.cell (p := ⟨ib, ioff + q, none⟩) hib).trans hic, (hW.cell (p := ⟨gE, 4, none⟩) KE1.out.lt).trans e4, (hW.cell (p := ⟨fb, foff + q * 5 + 3, none⟩) hfb).trans f3, (hW.cell (p := ⟨sb, soff + p * 5, none⟩) hsb).trans s0, (hW.cell (p := ⟨sb, soff + p * 5 + 1, none⟩) hsb).trans s1, (hW.cell (p := ⟨sb, soff + p * 5 + 2, none⟩) hsb).trans s2, (hW.cell (p := ⟨fb, foff + q * 5, none⟩) hfb).trans f0, (hW.cell (p := ⟨fb, foff + q * 5 + 1, none⟩) hfb).trans f1, (hW.cell (p := ⟨fb, foff + q * 5 + 2, none⟩) hfb).trans f2, hW⟩)
              clear hic e0 e1 e2 e3 e4 ez f0 f1 f2 f3 f4 s0 s1 s2 hib hfb hsb
              refine wp_region_held_drew (S := fun W => W.cell? ⟨ib, ioff + q, none⟩ = some (.int .i64 (p : Int)) ∧ W.cell? ⟨gE, 4, none⟩ = some (.slice (some ⟨sb, soff, none⟩) m cb) ∧ W.cell? ⟨fb, foff + q * 5 + 3, none⟩ = some (.bool false) ∧ W.cell? ⟨sb, soff + p * 5, none⟩ = some (.int .u8 (ec : Int)) ∧ W.cell? ⟨sb, soff + p * 5 + 1, none⟩ = some (.bool ek) ∧ W.cell? ⟨sb, soff + p * 5 + 2, none⟩ = some (.int .u32 (en : Int)) ∧ W.cell? ⟨fb, foff + q * 5, none⟩ = some (.int .u8 (fc : Int)) ∧ W.cell? ⟨fb, foff + q * 5 + 1, none⟩ = some (.bool fk) ∧ W.cell? ⟨fb, foff + q * 5 + 2, none⟩ = some (.int .u32 (fn : Int)) ∧ Below wr.heap.size wr W) (by kernel_rfl) (HSR.out _ (Below.refl wr.heap.size wr).drew) (fun hS => ?_)
              obtain ⟨wd, hwd⟩ : ∃ v, wr.drew = v := ⟨_, rfl⟩
              have d0 : Below wr.heap.size wr wd := by rw [← hwd]; exact (Below.refl wr.heap.size wr).drew
              rw [hwd] at hS ⊢
              clear hwd
              refine wpAnyH_take (i := 0) (oi := ⟨some 60, _, _, _, _, _⟩) (v := .slice (some ⟨ib, ioff, none⟩) c5 c5) rfl (by kernel_rfl) (by kernel_rfl) (by kernel_rfl) (fun _ _ _ h => h) (Or.inl ⟨by rfl, fun w _ => by go_simp⟩) hS ?_
              (try simp only [Act.put, List.setIfInBounds_toArray, List.set_cons_zero, List.set_cons_succ])
              refine wpAnyH_take (i := 1) (oi := ⟨some 61, _, _, _, _, _⟩) (v := .int .i64 (q : Int)) rfl (by kernel_rfl) (by kernel_rfl) (by kernel_rfl) (fun _ _ _ h => h) (Or.inl ⟨by rfl, fun w _ => by go_simp⟩) hS ?_
              (try simp only [Act.put, List.setIfInBounds_toArray, List.set_cons_zero, List.set_cons_succ])
              refine wpAnyH_take (i := 2) (oi := ⟨some 62, _, _, _, _, _⟩) (v := .pointer (some ⟨ib, ioff + q, none⟩)) rfl (by kernel_rfl) (by kernel_rfl) (by kernel_rfl) (fun _ _ _ h => h) (Or.inl ⟨by rfl, fun w _ => by go_simp⟩) hS ?_
              (try simp only [Act.put, List.setIfInBounds_toArray, List.set_cons_zero, List.set_cons_succ])
              refine wpAnyH_take (i := 3) (oi := ⟨some 63, _, _, _, _, _⟩) (v := .int .i64 (p : Int)) rfl (by kernel_rfl) (by kernel_rfl) (by kernel_rfl) (fun _ _ _ h => h) (Or.inl ⟨by rfl, fun w hSw => by (try obtain ⟨s1, s2, s3, s4, s5, s6, s7, s8, s9, s10⟩ := hSw); go_simp⟩) hS ?_
              (try simp only [Act.put, List.setIfInBounds_toArray, List.set_cons_zero, List.set_cons_succ])
              refine wpAnyH_take (i := 4) (oi := ⟨some 64, _, _, _, _, _⟩) (v := .int .i64 (p : Int)) rfl (by kernel_rfl) (by kernel_rfl) (by kernel_rfl) (fun _ _ _ h => h) (Or.inl ⟨by rfl, fun w _ => by go_simp⟩) hS ?_
              (try simp only [Act.put, List.setIfInBounds_toArray, List.set_cons_zero, List.set_cons_succ])
              refine wpAnyH_take (i := 5) (oi := ⟨some 65, _, _, _, _, _⟩) (v := .bool false) rfl (by kernel_rfl) (by kernel_rfl) (by kernel_rfl) (fun _ _ _ h => h) (Or.inl ⟨by rfl, fun w _ => by go_simp⟩) hS ?_
              (try simp only [Act.put, List.setIfInBounds_toArray, List.set_cons_zero, List.set_cons_succ])
              refine wpAnyH_take (i := 6) (oi := ⟨some 66, _, _, _, _, _⟩) (v := .bool false) rfl (by kernel_rfl) (by kernel_rfl) (by kernel_rfl) (fun _ _ _ h => h) (Or.inl ⟨by rfl, fun w _ => by go_simp⟩) hS ?_
              (try simp only [Act.put, List.setIfInBounds_toArray, List.set_cons_zero, List.set_cons_succ])
              refine wpAnyH_take (i := 7) (oi := ⟨some 67, _, _, _, _, _⟩) (v := .int .i64 (p : Int)) rfl (by kernel_rfl) (by kernel_rfl) (by kernel_rfl) (fun _ _ _ h => h) (Or.inl ⟨by rfl, fun w _ => by go_simp⟩) hS ?_
              (try simp only [Act.put, List.setIfInBounds_toArray, List.set_cons_zero, List.set_cons_succ])
              refine wpAnyH_take (i := 8) (oi := ⟨some 68, _, _, _, _, _⟩) (v := .pointer (some ⟨gE, 4, none⟩)) rfl (by kernel_rfl) (by kernel_rfl) (by kernel_rfl) (fun _ _ _ h => h) (Or.inl ⟨by rfl, fun w _ => by go_simp⟩) hS ?_
              (try simp only [Act.put, List.setIfInBounds_toArray, List.set_cons_zero, List.set_cons_succ])
              refine wpAnyH_take (i := 9) (oi := ⟨some 69, _, _, _, _, _⟩) (v := .slice (some ⟨sb, soff, none⟩) m cb) rfl (by kernel_rfl) (by kernel_rfl) (by kernel_rfl) (fun _ _ _ h => h) (Or.inl ⟨by rfl, fun w hSw => by (try obtain ⟨s1, s2, s3, s4, s5, s6, s7, s8, s9, s10⟩ := hSw); go_simp⟩) hS ?_
              (try simp only [Act.put, List.setIfInBounds_toArray, List.set_cons_zero, List.set_cons_succ])
              refine wpAnyH_take (i := 10) (oi := ⟨some 70, _, _, _, _, _⟩) (v := .int .i64 (m : Int)) rfl (by kernel_rfl) (by kernel_rfl) (by kernel_rfl) (fun _ _ _ h => h) (Or.inl ⟨by rfl, fun w _ => by go_simp⟩) hS ?_
              (try simp only [Act.put, List.setIfInBounds_toArray, List.set_cons_zero, List.set_cons_succ])
              refine wpAnyH_take (i := 11) (oi := ⟨some 71, _, _, _, _, _⟩) (v := .bool false) rfl (by kernel_rfl) (by kernel_rfl) (by kernel_rfl) (fun _ _ _ h => h) (Or.inl ⟨by rfl, fun w _ => by go_simp⟩) hS ?_
              (try simp only [Act.put, List.setIfInBounds_toArray, List.set_cons_zero, List.set_cons_succ])
              refine wpAnyH_take (i := 12) (oi := ⟨some 72, _, _, _, _, _⟩) (v := .bool false) rfl (by kernel_rfl) (by kernel_rfl) (by kernel_rfl) (fun _ _ _ h => h) (Or.inl ⟨by rfl, fun w _ => by go_simp⟩) hS ?_
              (try simp only [Act.put, List.setIfInBounds_toArray, List.set_cons_zero, List.set_cons_succ])
              refine wpAnyH_take (i := 13) (oi := ⟨some 73, _, _, _, _, _⟩) (v := .bool false) rfl (by kernel_rfl) (by kernel_rfl) (by kernel_rfl) (fun _ _ _ h => h) (Or.inl ⟨by rfl, fun w _ => by go_simp⟩) hS ?_
              (try simp only [Act.put, List.setIfInBounds_toArray, List.set_cons_zero, List.set_cons_succ])
              refine wpAnyH_take (i := 14) (oi := ⟨some 74, _, _, _, _, _⟩) (v := .slice (some ⟨fb, foff, none⟩) c5 cF) rfl (by kernel_rfl) (by kernel_rfl) (by kernel_rfl) (fun _ _ _ h => h) (Or.inl ⟨by rfl, fun w _ => by go_simp⟩) hS ?_
              (try simp only [Act.put, List.setIfInBounds_toArray, List.set_cons_zero, List.set_cons_succ])
              refine wpAnyH_take (i := 15) (oi := ⟨some 75, _, _, _, _, _⟩) (v := .int .i64 (q : Int)) rfl (by kernel_rfl) (by kernel_rfl) (by kernel_rfl) (fun _ _ _ h => h) (Or.inl ⟨by rfl, fun w _ => by go_simp⟩) hS ?_
              (try simp only [Act.put, List.setIfInBounds_toArray, List.set_cons_zero, List.set_cons_succ])
              refine wpAnyH_take (i := 16) (oi := ⟨some 76, _, _, _, _, _⟩) (v := .pointer (some ⟨fb, foff + q * 5, none⟩)) rfl (by kernel_rfl) (by kernel_rfl) (by kernel_rfl) (fun _ _ _ h => h) (Or.inl ⟨by rfl, fun w _ => by go_simp⟩) hS ?_
              (try simp only [Act.put, List.setIfInBounds_toArray, List.set_cons_zero, List.set_cons_succ])
              refine wpAnyH_take (i := 17) (oi := ⟨some 77, _, _, _, _, _⟩) (v := .pointer (some ⟨fb, foff + q * 5 + 3, none⟩)) rfl (by kernel_rfl) (by kernel_rfl) (by kernel_rfl) (fun _ _ _ h => h) (Or.inl ⟨by rfl, fun w _ => by go_simp⟩) hS ?_
              (try simp only [Act.put, List.setIfInBounds_toArray, List.set_cons_zero, List.set_cons_succ])
              refine wpAnyH_take (i := 18) (oi := ⟨some 78, _, _, _, _, _⟩) (v := .bool false) rfl (by kernel_rfl) (by kernel_rfl) (by kernel_rfl) (fun _ _ _ h => h) (Or.inl ⟨by rfl, fun w hSw => by (try obtain ⟨s1, s2, s3, s4, s5, s6, s7, s8, s9, s10⟩ := hSw); go_simp⟩) hS ?_
              (try simp only [Act.put, List.setIfInBounds_toArray, List.set_cons_zero, List.set_cons_succ])
              refine wpAnyH_take (i := 19) (oi := ⟨some 79, _, _, _, _, _⟩) (v := .bool true) rfl (by kernel_rfl) (by kernel_rfl) (by kernel_rfl) (fun _ _ _ h => h) (Or.inl ⟨by rfl, fun w _ => by go_simp⟩) hS ?_
              (try simp only [Act.put, List.setIfInBounds_toArray, List.set_cons_zero, List.set_cons_succ])
              refine wpAnyH_take (i := 20) (oi := ⟨some 80, _, _, _, _, _⟩) (v := .bool true) rfl (by kernel_rfl) (by kernel_rfl) (by kernel_rfl) (fun _ _ _ h => h) (Or.inl ⟨by rfl, fun w _ => by go_simp⟩) hS ?_
              (try simp only [Act.put, List.setIfInBounds_toArray, List.set_cons_zero, List.set_cons_succ])
              refine wpAnyH_take (i := 21) (oi := ⟨some 81, _, _, _, _, _⟩) (v := .pointer (some ⟨gE, 4, none⟩)) rfl (by kernel_rfl) (by kernel_rfl) (by kernel_rfl) (fun _ _ _ h => h) (Or.inl ⟨by rfl, fun w _ => by go_simp⟩) hS ?_
              (try simp only [Act.put, List.setIfInBounds_toArray, List.set_cons_zero, List.set_cons_succ])
              refine wpAnyH_take (i := 22) (oi := ⟨some 82, _, _, _, _, _⟩) (v := .slice (some ⟨sb, soff, none⟩) m cb) rfl (by kernel_rfl) (by kernel_rfl) (by kernel_rfl) (fun _ _ _ h => h) (Or.inl ⟨by rfl, fun w hSw => by (try obtain ⟨s1, s2, s3, s4, s5, s6, s7, s8, s9, s10⟩ := hSw); go_simp⟩) hS ?_
              (try simp only [Act.put, List.setIfInBounds_toArray, List.set_cons_zero, List.set_cons_succ])
              refine wpAnyH_take (i := 23) (oi := ⟨some 83, _, _, _, _, _⟩) (v := .int .i64 (p : Int)) rfl (by kernel_rfl) (by kernel_rfl) (by kernel_rfl) (fun _ _ _ h => h) (Or.inl ⟨by rfl, fun w _ => by go_simp⟩) hS ?_
              (try simp only [Act.put, List.setIfInBounds_toArray, List.set_cons_zero, List.set_cons_succ])
              refine wpAnyH_take (i := 24) (oi := ⟨some 84, _, _, _, _, _⟩) (v := .pointer (some ⟨sb, soff + p * 5, none⟩)) rfl (by kernel_rfl) (by kernel_rfl) (by kernel_rfl) (fun _ _ _ h => h) (Or.inl ⟨by rfl, fun w _ => by go_simp⟩) hS ?_
              (try simp only [Act.put, List.setIfInBounds_toArray, List.set_cons_zero, List.set_cons_succ])
              refine wpAnyH_take (i := 25) (oi := ⟨some 85, _, _, _, _, _⟩) (v := .pointer (some ⟨sb, soff + p * 5, none⟩)) rfl (by kernel_rfl) (by kernel_rfl) (by kernel_rfl) (fun _ _ _ h => h) (Or.inl ⟨by rfl, fun w _ => by go_simp⟩) hS ?_
              (try simp only [Act.put, List.setIfInBounds_toArray, List.set_cons_zero, List.set_cons_succ])
              refine wpAnyH_take (i := 26) (oi := ⟨some 86, _, _, _, _, _⟩) (v := .agg #[.int .u8 (ec : Int), .bool ek, .int .u32 (en : Int)]) rfl (by kernel_rfl) (by kernel_rfl) (by kernel_rfl) (fun _ _ _ h => h) (Or.inl ⟨by rfl, fun w hSw => by (try obtain ⟨s1, s2, s3, s4, s5, s6, s7, s8, s9, s10⟩ := hSw); go_simp⟩) hS ?_
              (try simp only [Act.put, List.setIfInBounds_toArray, List.set_cons_zero, List.set_cons_succ])
              refine wpAnyH_take (i := 27) (oi := ⟨some 87, _, _, _, _, _⟩) (v := .slice (some ⟨fb, foff, none⟩) c5 cF) rfl (by kernel_rfl) (by kernel_rfl) (by kernel_rfl) (fun _ _ _ h => h) (Or.inl ⟨by rfl, fun w _ => by go_simp⟩) hS ?_
              (try simp only [Act.put, List.setIfInBounds_toArray, List.set_cons_zero, List.set_cons_succ])
              refine wpAnyH_take (i := 28) (oi := ⟨some 88, _, _, _, _, _⟩) (v := .int .i64 (q : Int)) rfl (by kernel_rfl) (by kernel_rfl) (by kernel_rfl) (fun _ _ _ h => h) (Or.inl ⟨by rfl, fun w _ => by go_simp⟩) hS ?_
              (try simp only [Act.put, List.setIfInBounds_toArray, List.set_cons_zero, List.set_cons_succ])
              refine wpAnyH_take (i := 29) (oi := ⟨some 89, _, _, _, _, _⟩) (v := .pointer (some ⟨fb, foff + q * 5, none⟩)) rfl (by kernel_rfl) (by kernel_rfl) (by kernel_rfl) (fun _ _ _ h => h) (Or.inl ⟨by rfl, fun w _ => by go_simp⟩) hS ?_
              (try simp only [Act.put, List.setIfInBounds_toArray, List.set_cons_zero, List.set_cons_succ])
              refine wpAnyH_take (i := 30) (oi := ⟨some 90, _, _, _, _, _⟩) (v := .pointer (some ⟨fb, foff + q * 5, none⟩)) rfl (by kernel_rfl) (by kernel_rfl) (by kernel_rfl) (fun _ _ _ h => h) (Or.inl ⟨by rfl, fun w _ => by go_simp⟩) hS ?_
              (try simp only [Act.put, List.setIfInBounds_toArray, List.set_cons_zero, List.set_cons_succ])
              refine wpAnyH_take (i := 31) (oi := ⟨some 91, _, _, _, _, _⟩) (v := .agg #[.int .u8 (fc : Int), .bool fk, .int .u32 (fn : Int)]) rfl (by kernel_rfl) (by kernel_rfl) (by kernel_rfl) (fun _ _ _ h => h) (Or.inl ⟨by rfl, fun w hSw => by (try obtain ⟨s1, s2, s3, s4, s5, s6, s7, s8, s9, s10⟩ := hSw); go_simp⟩) hS ?_
              (try simp only [Act.put, List.setIfInBounds_toArray, List.set_cons_zero, List.set_cons_succ])
              refine wpAnyH_take (i := 32) (oi := ⟨some 92, _, _, _, _, _⟩) (v := .bool false) rfl (by kernel_rfl) (by kernel_rfl) (by kernel_rfl) (fun _ _ _ h => h) (Or.inl ⟨by rfl, fun w _ => by go_simp⟩) hS ?_
              (try simp only [Act.put, List.setIfInBounds_toArray, List.set_cons_zero, List.set_cons_succ])
              refine wpAnyH_take (i := 33) (oi := ⟨some 93, _, _, _, _, _⟩) (v := .bool false) rfl (by kernel_rfl) (by kernel_rfl) (by kernel_rfl) (fun _ _ _ h => h) (Or.inl ⟨by rfl, fun w _ => by go_simp⟩) hS ?_
              (try simp only [Act.put, List.setIfInBounds_toArray, List.set_cons_zero, List.set_cons_succ])
              refine wpAnyH_take (i := 34) (oi := ⟨some 94, _, _, _, _, _⟩) (v := .bool false) rfl (by kernel_rfl) (by kernel_rfl) (by kernel_rfl) (fun _ _ _ h => h) (Or.inl ⟨by rfl, fun w _ => by go_simp⟩) hS ?_
              (try simp only [Act.put, List.setIfInBounds_toArray, List.set_cons_zero, List.set_cons_succ])
              refine wpAnyH_done (by kernel_rfl) ?_ _
              clear hS
              have BD := Lib.hid (BB.out.trans (d0.mono BB.out.size))
              clear d0 HSR
              go_wp2_with fail
              exact ⟨⟨p + 1, q + 1, by go_num, by go_num, hlt, hpm, HNX.out, BD.out⟩, by simp [intOf]; omega⟩
            · go_upto_region 13 with fail
              have HSR := Lib.hid (show ∀ W, Below wr.heap.size wr W → W.cell? ⟨ib, ioff + q, none⟩ = some (.int .i64 (p : Int)) ∧ W.cell? ⟨gE, 4, none⟩ = some (.slice (some ⟨sb, soff, none⟩) m cb) ∧ W.cell? ⟨fb, foff + q * 5 + 3, none⟩ = some (.bool true) ∧ Below wr.heap.size wr W from fun W hW => ⟨(hW.cell (p := ⟨ib, ioff + q, none⟩) hib).trans hic, (hW.cell (p := ⟨gE, 4, none⟩) KE1.out.lt).trans e4, (hW.cell (p := ⟨fb, foff + q * 5 + 3, none⟩) hfb).trans f3, hW⟩)
              clear hic e0 e1 e2 e3 e4 ez f0 f1 f2 f3 f4 s0 s1 s2 hib hfb hsb
              refine wp_region_held_drew (S := fun W => W.cell? ⟨ib, ioff + q, none⟩ = some (.int .i64 (p : Int)) ∧ W.cell? ⟨gE, 4, none⟩ = some (.slice (some ⟨sb, soff, none⟩) m cb) ∧ W.cell? ⟨fb, foff + q * 5 + 3, none⟩ = some (.bool true) ∧ Below wr.heap.size wr W) (by kernel_rfl) (HSR.out _ (Below.refl wr.heap.size wr).drew) (fun hS => ?_)
              obtain ⟨wd, hwd⟩ : ∃ v, wr.drew = v := ⟨_, rfl⟩
              have d0 : Below wr.heap.size wr wd := by rw [← hwd]; exact (Below.refl wr.heap.size wr).drew
              rw [hwd] at hS ⊢
              clear hwd
              refine wpAnyH_take (i := 0) (oi := ⟨some 60, _, _, _, _, _⟩) (v := .slice (some ⟨ib, ioff, none⟩) c5 c5) rfl (by kernel_rfl) (by kernel_rfl) (by kernel_rfl) (fun _ _ _ h => h) (Or.inl ⟨by rfl, fun w _ => by go_simp⟩) hS ?_
              (try simp only [Act.put, List.setIfInBounds_toArray, List.set_cons_zero, List.set_cons_succ])
              refine wpAnyH_take (i := 1) (oi := ⟨some 61, _, _, _, _, _⟩) (v := .int .i64 (q : Int)) rfl (by kernel_rfl) (by kernel_rfl) (by kernel_rfl) (fun _ _ _ h => h) (Or.inl ⟨by rfl, fun w _ => by go_simp⟩) hS ?_
              (try simp only [Act.put, List.setIfInBounds_toArray, List.set_cons_zero, List.set_cons_succ])
              refine wpAnyH_take (i := 2) (oi := ⟨some 62, _, _, _, _, _⟩) (v := .pointer (some ⟨ib, ioff + q, none⟩)) rfl (by kernel_rfl) (by kernel_rfl) (by kernel_rfl) (fun _ _ _ h => h) (Or.inl ⟨by rfl, fun w _ => by go_simp⟩) hS ?_
              (try simp only [Act.put, List.setIfInBounds_toArray, List.set_cons_zero, List.set_cons_succ])
              refine wpAnyH_take (i := 3) (oi := ⟨some 63, _, _, _, _, _⟩) (v := .int .i64 (p : Int)) rfl (by kernel_rfl) (by kernel_rfl) (by kernel_rfl) (fun _ _ _ h => h) (Or.inl ⟨by rfl, fun w hSw => by (try obtain ⟨s1, s2, s3, s4⟩ := hSw); go_simp⟩) hS ?_
              (try simp only [Act.put, List.setIfInBounds_toArray, List.set_cons_zero, List.set_cons_succ])
              refine wpAnyH_take (i := 4) (oi := ⟨some 64, _, _, _, _, _⟩) (v := .int .i64 (p : Int)) rfl (by kernel_rfl) (by kernel_rfl) (by kernel_rfl) (fun _ _ _ h => h) (Or.inl ⟨by rfl, fun w _ => by go_simp⟩) hS ?_
              (try simp only [Act.put, List.setIfInBounds_toArray, List.set_cons_zero, List.set_cons_succ])
              refine wpAnyH_take (i := 5) (oi := ⟨some 65, _, _, _, _, _⟩) (v := .bool false) rfl (by kernel_rfl) (by kernel_rfl) (by kernel_rfl) (fun _ _ _ h => h) (Or.inl ⟨by rfl, fun w _ => by go_simp⟩) hS ?_
              (try simp only [Act.put, List.setIfInBounds_toArray, List.set_cons_zero, List.set_cons_succ])
              refine wpAnyH_take (i := 6) (oi := ⟨some 66, _, _, _, _, _⟩) (v := .bool false) rfl (by kernel_rfl) (by kernel_rfl) (by kernel_rfl) (fun _ _ _ h => h) (Or.inl ⟨by rfl, fun w _ => by go_simp⟩) hS ?_
              (try simp only [Act.put, List.setIfInBounds_toArray, List.set_cons_zero, List.set_cons_succ])
              refine wpAnyH_take (i := 7) (oi := ⟨some 67, _, _, _, _, _⟩) (v := .int .i64 (p : Int)) rfl (by kernel_rfl) (by kernel_rfl) (by kernel_rfl) (fun _ _ _ h => h) (Or.inl ⟨by rfl, fun w _ => by go_simp⟩) hS ?_
              (try simp only [Act.put, List.setIfInBounds_toArray, List.set_cons_zero, List.set_cons_succ])
              refine wpAnyH_take (i := 8) (oi := ⟨some 68, _, _, _, _, _⟩) (v := .pointer (some ⟨gE, 4, none⟩)) rfl (by kernel_rfl) (by kernel_rfl) (by kernel_rfl) (fun _ _ _ h => h) (Or.inl ⟨by rfl, fun w _ => by go_simp⟩) hS ?_
              (try simp only [Act.put, List.setIfInBounds_toArray, List.set_cons_zero, List.set_cons_succ])
              refine wpAnyH_take (i := 9) (oi := ⟨some 69, _, _, _, _, _⟩) (v := .slice (some ⟨sb, soff, none⟩) m cb) rfl (by kernel_rfl) (by kernel_rfl) (by kernel_rfl) (fun _ _ _ h => h) (Or.inl ⟨by rfl, fun w hSw => by (try obtain ⟨s1, s2, s3, s4⟩ := hSw); go_simp⟩) hS ?_
              (try simp only [Act.put, List.setIfInBounds_toArray, List.set_cons_zero, List.set_cons_succ])
              refine wpAnyH_take (i := 10) (oi := ⟨some 70, _, _, _, _, _⟩) (v := .int .i64 (m : Int)) rfl (by kernel_rfl) (by kernel_rfl) (by kernel_rfl) (fun _ _ _ h => h) (Or.inl ⟨by rfl, fun w _ => by go_simp⟩) hS ?_
              (try simp only [Act.put, List.setIfInBounds_toArray, List.set_cons_zero, List.set_cons_succ])
              refine wpAnyH_take (i := 11) (oi := ⟨some 71, _, _, _, _, _⟩) (v := .bool false) rfl (by kernel_rfl) (by kernel_rfl) (by kernel_rfl) (fun _ _ _ h => h) (Or.inl ⟨by rfl, fun w _ => by go_simp⟩) hS ?_
              (try simp only [Act.put, List.setIfInBounds_toArray, List.set_cons_zero, List.set_cons_succ])
              refine wpAnyH_take (i := 12) (oi := ⟨some 72, _, _, _, _, _⟩) (v := .bool false) rfl (by kernel_rfl) (by kernel_rfl) (by kernel_rfl) (fun _ _ _ h => h) (Or.inl ⟨by rfl, fun w _ => by go_simp⟩) hS ?_
              (try simp only [Act.put, List.setIfInBounds_toArray, List.set_cons_zero, List.set_cons_succ])
              refine wpAnyH_take (i := 13) (oi := ⟨some 73, _, _, _, _, _⟩) (v := .bool false) rfl (by kernel_rfl) (by kernel_rfl) (by kernel_rfl) (fun _ _ _ h => h) (Or.inl ⟨by rfl, fun w _ => by go_simp⟩) hS ?_
              (try simp only [Act.put, List.setIfInBounds_toArray, List.set_cons_zero, List.set_cons_succ])
              refine wpAnyH_take (i := 14) (oi := ⟨some 74, _, _, _, _, _⟩) (v := .slice (some ⟨fb, foff, none⟩) c5 cF) rfl (by kernel_rfl) (by kernel_rfl) (by kernel_rfl) (fun _ _ _ h => h) (Or.inl ⟨by rfl, fun w _ => by go_simp⟩) hS ?_
              (try simp only [Act.put, List.setIfInBounds_toArray, List.set_cons_zero, List.set_cons_succ])
              refine wpAnyH_take (i := 15) (oi := ⟨some 75, _, _, _, _, _⟩) (v := .int .i64 (q : Int)) rfl (by kernel_rfl) (by kernel_rfl) (by kernel_rfl) (fun _ _ _ h => h) (Or.inl ⟨by rfl, fun w _ => by go_simp⟩) hS ?_
              (try simp only [Act.put, List.setIfInBounds_toArray, List.set_cons_zero, List.set_cons_succ])
              refine wpAnyH_take (i := 16) (oi := ⟨some 76, _, _, _, _, _⟩) (v := .pointer (some ⟨fb, foff + q * 5, none⟩)) rfl (by kernel_rfl) (by kernel_rfl) (by kernel_rfl) (fun _ _ _ h => h) (Or.inl ⟨by rfl, fun w _ => by go_simp⟩) hS ?_
              (try simp only [Act.put, List.setIfInBounds_toArray, List.set_cons_zero, List.set_cons_succ])
              refine wpAnyH_take (i := 17) (oi := ⟨some 77, _, _, _, _, _⟩) (v := .pointer (some ⟨fb, foff + q * 5 + 3, none⟩)) rfl (by kernel_rfl) (by kernel_rfl) (by kernel_rfl) (fun _ _ _ h => h) (Or.inl ⟨by rfl, fun w _ => by go_simp⟩) hS ?_
              (try simp only [Act.put, List.setIfInBounds_toArray, List.set_cons_zero, List.set_cons_succ])
              refine wpAnyH_take (i := 18) (oi := ⟨some 78, _, _, _, _, _⟩) (v := .bool true) rfl (by kernel_rfl) (by kernel_rfl) (by kernel_rfl) (fun _ _ _ h => h) (Or.inl ⟨by rfl, fun w hSw => by (try obtain ⟨s1, s2, s3, s4⟩ := hSw); go_simp⟩) hS ?_
              (try simp only [Act.put, List.setIfInBounds_toArray, List.set_cons_zero, List.set_cons_succ])
              refine wpAnyH_take (i := 19) (oi := ⟨some 79, _, _, _, _, _⟩) (v := .bool false) rfl (by kernel_rfl) (by kernel_rfl) (by kernel_rfl) (fun _ _ _ h => h) (Or.inl ⟨by rfl, fun w _ => by go_simp⟩) hS ?_
              (try simp only [Act.put, List.setIfInBounds_toArray, List.set_cons_zero, List.set_cons_succ])
              refine wpAnyH_take (i := 20) (oi := ⟨some 80, _, _, _, _, _⟩) (v := .bool false) rfl (by kernel_rfl) (by kernel_rfl) (by kernel_rfl) (fun _ _ _ h => h) (Or.inl ⟨by rfl, fun w _ => by go_simp⟩) hS ?_
              (try simp only [Act.put, List.setIfInBounds_toArray, List.set_cons_zero, List.set_cons_succ])
              refine wpAnyH_take (i := 21) (oi := ⟨some 81, _, _, _, _, _⟩) (v := undef) rfl (by kernel_rfl) (by kernel_rfl) (by kernel_rfl) (fun _ _ _ h => h) (Or.inr ⟨by rfl, rfl⟩) hS ?_
              (try simp only [Act.put, List.setIfInBounds_toArray, List.set_cons_zero, List.set_cons_succ])
              refine wpAnyH_take (i := 22) (oi := ⟨some 82, _, _, _, _, _⟩) (v := undef) rfl (by kernel_rfl) (by kernel_rfl) (by kernel_rfl) (fun _ _ _ h => h) (Or.inr ⟨by rfl, rfl⟩) hS ?_
              (try simp only [Act.put, List.setIfInBounds_toArray, List.set_cons_zero, List.set_cons_succ])
              refine wpAnyH_take (i := 23) (oi := ⟨some 83, _, _, _, _, _⟩) (v := undef) rfl (by kernel_rfl) (by kernel_rfl) (by kernel_rfl) (fun _ _ _ h => h) (Or.inr ⟨by rfl, rfl⟩) hS ?_
              (try simp only [Act.put, List.setIfInBounds_toArray, List.set_cons_zero, List.set_cons_succ])
              refine wpAnyH_take (i := 24) (oi := ⟨some 84, _, _, _, _, _⟩) (v := undef) rfl (by kernel_rfl) (by kernel_rfl) (by kernel_rfl) (fun _ _ _ h => h) (Or.inr ⟨by rfl, rfl⟩) hS ?_
              (try simp only [Act.put, List.setIfInBounds_toArray, List.set_cons_zero, List.set_cons_succ])
              refine wpAnyH_take (i := 25) (oi := ⟨some 85, _, _, _, _, _⟩) (v := undef) rfl (by kernel_rfl) (by kernel_rfl) (by kernel_rfl) (fun _ _ _ h => h) (Or.inr ⟨by rfl, rfl⟩) hS ?_
              (try simp only [Act.put, List.setIfInBounds_toArray, List.set_cons_zero, List.set_cons_succ])
              refine wpAnyH_take (i := 26) (oi := ⟨some 86, _, _, _, _, _⟩) (v := undef) rfl (by kernel_rfl) (by kernel_rfl) (by kernel_rfl) (fun _ _ _ h => h) (Or.inr ⟨by rfl, rfl⟩) hS ?_
              (try simp only [Act.put, List.setIfInBounds_toArray, List.set_cons_zero, List.set_cons_succ])
              refine wpAnyH_take (i := 27) (oi := ⟨some 87, _, _, _, _, _⟩) (v := undef) rfl (by kernel_rfl) (by kernel_rfl) (by kernel_rfl) (fun _ _ _ h => h) (Or.inr ⟨by rfl, rfl⟩) hS ?_
              (try simp only [Act.put, List.setIfInBounds_toArray, List.set_cons_zero, List.set_cons_succ])
              refine wpAnyH_take (i := 28) (oi := ⟨some 88, _, _, _, _, _⟩) (v := undef) rfl (by kernel_rfl) (by kernel_rfl) (by kernel_rfl) (fun _ _ _ h => h) (Or.inr ⟨by rfl, rfl⟩) hS ?_
              (try simp only [Act.put, List.setIfInBounds_toArray, List.set_cons_zero, List.set_cons_succ])
              refine wpAnyH_take (i := 29) (oi := ⟨some 89, _, _, _, _, _⟩) (v := undef) rfl (by kernel_rfl) (by kernel_rfl) (by kernel_rfl) (fun _ _ _ h => h) (Or.inr ⟨by rfl, rfl⟩) hS ?_
              (try simp only [Act.put, List.setIfInBounds_toArray, List.set_cons_zero, List.set_cons_succ])
              refine wpAnyH_take (i := 30) (oi := ⟨some 90, _, _, _, _, _⟩) (v := undef) rfl (by kernel_rfl) (by kernel_rfl) (by kernel_rfl) (fun _ _ _ h => h) (Or.inr ⟨by rfl, rfl⟩) hS ?_
              (try simp only [Act.put, List.setIfInBounds_toArray, List.set_cons_zero, List.set_cons_succ])
              refine wpAnyH_take (i := 31) (oi := ⟨some 91, _, _, _, _, _⟩) (v := undef) rfl (by kernel_rfl) (by kernel_rfl) (by kernel_rfl) (fun _ _ _ h => h) (Or.inr ⟨by rfl, rfl⟩) hS ?_
              (try simp only [Act.put, List.setIfInBounds_toArray, List.set_cons_zero, List.set_cons_succ])
              refine wpAnyH_take (i := 32) (oi := ⟨some 92, _, _, _, _, _⟩) (v := undef) rfl (by kernel_rfl) (by kernel_rfl) (by kernel_rfl) (fun _ _ _ h => h) (Or.inr ⟨by rfl, rfl⟩) hS ?_
              (try simp only [Act.put, List.setIfInBounds_toArray, List.set_cons_zero, List.set_cons_succ])
              refine wpAnyH_take (i := 33) (oi := ⟨some 93, _, _, _, _, _⟩) (v := .bool false) rfl (by kernel_rfl) (by kernel_rfl) (by kernel_rfl) (fun _ _ _ h => h) (Or.inl ⟨by rfl, fun w _ => by go_simp⟩) hS ?_
              (try simp only [Act.put, List.setIfInBounds_toArray, List.set_cons_zero, List.set_cons_succ])
              refine wpAnyH_take (i := 34) (oi := ⟨some 94, _, _, _, _, _⟩) (v := .bool false) rfl (by kernel_rfl) (by kernel_rfl) (by kernel_rfl) (fun _ _ _ h => h) (Or.inl ⟨by rfl, fun w _ => by go_simp⟩) hS ?_
              (try simp only [Act.put, List.setIfInBounds_toArray, List.set_cons_zero, List.set_cons_succ])
              refine wpAnyH_done (by kernel_rfl) ?_ _
              clear hS
              have BD := Lib.hid (BB.out.trans (d0.mono BB.out.size))
              clear d0 HSR
              go_wp2_with fail
              exact ⟨⟨p + 1, q + 1, by go_num, by go_num, hlt, hpm, HNX.out, BD.out⟩, by simp [intOf]; omega⟩
          · injection hI' with hI1 hI2
            subst hI1 hI2
            have HNX := Lib.hid hs
            dsimp only at ho
            subst ho
            have y1 : ((-1 : Int) == -1) = true := rfl
            clear HST hs
            go_wp2_with fail
            exact ⟨⟨p, q + 1, rfl, by go_num, hlt, HPQ.out.1, HNX.out, BB.out⟩, by simp [intOf]; omega⟩
        · have hpe : p = m := by
            have h1 := HSQ.out
            rw [List.drop_eq_nil_of_le (by rw [HLF.out.1]; omega)] at h1
            have := sq_end h1
            have := HM.out.1
            have := HPQ.out.1
            omega
          subst hpe
          go_wp2_with fail
          refine (lives_any _).mono ?_
          rintro e wz ⟨rfl, hbz⟩
          have BZ := bt (bt B BB) (Lib.hid hbz)
          clear hbz
          go_wp2_with fail
          go_ret
          exact ⟨rfl, BZ.out⟩
    · obtain ⟨hI0, hP1⟩ := sqR_bad HR.out h0
      subst hI0
      have hc0 : c5 = 0 := HI.out.1.symm
      have hq1 : q5 ≤ 1 := by rw [← HP.out]; exact hP1
      subst hc0
      have hfb : ((f : Int) == 0) = false := by simp; omega
      have y2 : decide ((q5 : Int) < 2) = true := by simp; omega
      clear HR KF HI HP hP1 h0 RI
      go_wp2_with fail
      refine (lives_any _).mono ?_
      rintro e wz ⟨rfl, hbz⟩
      have BZ := bt B (Lib.hid hbz)
      clear hbz
      go_wp2_with fail
      go_ret
      exact ⟨rfl, BZ.out⟩
open Go.WideMaps Go.WideElems

open Go.ChangeShapes Go.WideShapes Go.ChangeAt
set_option maxRecDepth 100000 in
theorem fieldsRows_lifted (os : Os) (started : os.Started) (H : Type) (enc : TypeId × Value → H) :
    ReturnsInHanded {} Try.checked os 4 .any (Rows.fieldsRowsSpec.pre6 enc Try.prog Try.f4 Rows.fieldsRowsRow.domain false) (Rows.fieldsRowsSpec.post enc Try.prog Try.f4 false true false false) := by
  refine returnsInHanded_of_change (C := Try.checked) x_own started (by kernel_rfl) Try.func4
    (ChangeSpec.witness6 (enc := enc) (C := Try.checked) false ⟨#[], #[.agg #[.slice none 0 0], .slice none 0 0], []⟩ 8 (by kernel_rfl) (by kernel_rfl) (by kernel_rfl) (by kernel_rfl)) ?_
  intro W base args ds gs before hval0 hW hcnd _
  have hval : ∀ (j : Nat) t v, Try.f4.params[j]? = some t → args[j]? = some v → Value.okWide Try.prog W .any base t v := hval0
  have hW' := hW
  obtain ⟨p, q, hA0, hV, rfl, hfz, hnd⟩ := hW
  have hA : DataW.TrodAll enc Try.prog W 0 (fun _ => true) true Try.f4.params.toList args.toList ds p := hA0
  rw [Try.params4] at hA hval
  obtain ⟨v0, v1, d0, d1, p0, p1, rfl, rfl, rfl, h0, h1⟩ := trodAll_two hA
  obtain ⟨rfl, rfl⟩ := trodVars_none hV
  obtain ⟨A, l, c, rfl, hA1, hl1, hm1⟩ := open_T (hval 0 _ _ rfl rfl) h0
  obtain ⟨A2, l2, c2, rfl, hA2, hf2, hl2, hm2⟩ := open_Fs (hval 1 _ _ rfl rfl) h1
  clear hA0 hval0
  refine (rows_law l A l.length c l2 A2 l2.length c2 W hA1 rfl (Nat.le_trans hl1 hm1) hA2 hf2 rfl (Nat.le_trans hl2 hm2)).mono fun e W' ⟨he, hb⟩ => ?_
  subst he
  exact ⟨_, rfl, law_post (tb := 4) x_laid (by decide +kernel) rfl rfl (by kernel_rfl) Try.underlying4 hW' hb⟩

/-- The statement. -/
theorem fieldsRows_holds : Rows.FieldsRowsSaid :=
  OpenClaim.holds_of_wide 4 Try.f4 rfl rfl rfl rfl rfl rfl rfl ⟨rfl, rfl, rfl, rfl, rfl⟩ rfl rfl rfl rfl rfl (by kernel_rfl) Try.func4 (by kernel_rfl)
    (of_decide_eq_true (by kernel_rfl)) (by unfold Func.isWrapper; first | (rw [if_pos (by decide +kernel)]; kernel_rfl) | (rw [if_neg (by decide +kernel)]; exact ⟨rfl, rfl⟩))
    (fun os started H enc _ => fieldsRows_lifted os started H enc)
end Go.Proofs.Ytklljbcnfamikaa.Fl
