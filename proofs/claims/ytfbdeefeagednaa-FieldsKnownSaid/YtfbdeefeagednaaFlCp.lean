/-
  Layer 12: the law's copied: an element in new memory.
  Conditions: none beyond that the element is small.
-/
import Derived.Test.YtfbdeefeagednaaFlCl
namespace Go.Proofs.Ytfbdeefeagednaa.Fl
open Go.RowKit

mutual
/-- Small enough to be laid behind one another. -/
def tinE : El → Prop
  | .mk _ _ _ bs ss => bs.length ≤ 1048576 ∧ ss.length ≤ 1000 ∧ tinS ss
def tinS : List El → Prop
  | [] => True
  | e :: ss => tinE e ∧ tinS ss
end
theorem tin_mem {ss : List El} (h : tinS ss) {e : El} (he : e ∈ ss) : tinE e := by
  induction ss with
  | nil => simp at he
  | cons x ss ih =>
    rcases List.mem_cons.1 he with rfl | he
    · exact h.1
    · exact ih h.2 he
theorem pl_far {B : Nat} {S : Nat → Prop} {es : List El} {cs : List Value} {v : Value} {w w' : World} (h : Pl B S es cs v w) (hf : ∀ i, B ≤ i → w'.heap[i]? = w.heap[i]?) (hz : w'.heap.size = w.heap.size) : Pl B S es cs v w' :=
  ⟨h.sb, fun j hj => by rw [hz]; exact h.sl j hj, h.so, own_kept h.own (fun g hg => hf g (h.own.lt g hg).1), RowE.keep (Nat.le_of_eq hz.symm) (fun i hi _ => hf i (h.sb i hi)) (fun _ hs _ => hs) h.row, by rw [hz]; exact h.bz⟩
theorem Pl_subs {B : Nat} {S : Nat → Prop} {es : List El} {cs : List Value} {v : Value} {w : World} (h : Pl B S es cs v w) : ∃ A c, v = .slice A es.length c ∧ es.length ≤ c ∧ c ≤ maxLen ∧ RdS false (fun j => B ≤ j ∧ j < w.heap.size) w A es := by
  obtain ⟨A, c, hv, h1, h2, h3⟩ := h.form
  refine ⟨A, c, hv, h1, h2, ?_⟩
  rcases h3 with ⟨rfl, _, rfl⟩ | ⟨g, rfl, hg, hB, hlt, hc⟩
  · trivial
  · exact RowE.rds hlt ⟨hB, hlt⟩ (fun i hi => ⟨h.sb i hi, h.sl i hi⟩) h.row (fun j u hu => by rw [Nat.zero_add]; exact hc j u hu)
theorem pl_nil' (w : World) (B : Nat) (hB : B ≤ w.heap.size) : Pl B (fun _ => False) [] [] (.slice none 0 0) w :=
  ⟨fun _ h => h.elim, fun _ h => h.elim, fun _ h => h.elim, World.ownsRow_nil _ _ _ _, rfl, hB⟩
set_option linter.unusedSimpArgs false in
set_option maxHeartbeats 4000000 in
set_option maxRecDepth 100000 in
theorem copied_any {x : Bool} {S : Nat → Prop} (e : El) : ∀ (v : Value) (w : World), RdE x S w e v → tinE e →
    Calls Try.prog 7 #[v] w fun r w' => ∃ u, r = .returned u ∧ RdE false (fun i => w.heap.size ≤ i ∧ i < w'.heap.size) w' e u ∧ Below w.heap.size w w' := by
  refine El.ind (P := fun e => ∀ (v : Value) (w : World), RdE x S w e v → tinE e →
    Calls Try.prog 7 #[v] w fun r w' => ∃ u, r = .returned u ∧ RdE false (fun i => w.heap.size ≤ i ∧ i < w'.heap.size) w' e u ∧ Below w.heap.size w w') ?_ e
  clear e
  intro c n k bs ss ih v w h hsm
  obtain ⟨h1, h2, h3, A, ca, B, cb, rfl, h5, h6, h7, h8, h9, h10, h11⟩ := h
  rw [tinE] at hsm
  obtain ⟨bl, hbl⟩ : ∃ bl, bs.length = bl := ⟨_, rfl⟩
  obtain ⟨m, hmm⟩ : ∃ m, ss.length = m := ⟨_, rfl⟩
  rw [hbl, hmm] at hsm ⊢
  obtain ⟨G, hG⟩ : ∃ G, w.heap.size = G := ⟨_, rfl⟩
  obtain ⟨w1, hw1⟩ : ∃ v, w.alloc (.cells #[.int .u8 (c : Int), .bool k, .int .u32 (n : Int), .slice A bl ca, .slice B m cb] 29) = v := ⟨_, rfl⟩
  obtain ⟨w2, hw2⟩ : ∃ v, w1.alloc (.cells #[.int .u8 0, .bool false, .int .u32 0, .slice none 0 0, .slice none 0 0] 29) = v := ⟨_, rfl⟩
  have b1 : Below w.heap.size w w1 := by rw [← hw1]; exact bel1 _ _
  have b2 : Below w1.heap.size w1 w2 := by rw [← hw2]; exact bel1 _ _
  have z1 : w1.heap.size = G + 1 := by rw [← hw1, World.size_alloc, hG]
  have k1 : Bk w1 G 29 [.int .u8 (c : Int), .bool k, .int .u32 (n : Int), .slice A bl ca, .slice B m cb] := by rw [← hw1, ← hG]; exact Bk.new w _ [_, _, _, _, _]
  have k2 : Bk w2 (G + 1) 29 [.int .u8 0, .bool false, .int .u32 0, .slice none 0 0, .slice none 0 0] := by rw [← hw2, ← z1]; exact Bk.new w1 _ [_, _, _, _, _]
  rw [← hw1] at hw2
  have K1 := kt (Lib.hid k1) (Lib.hid b2)
  have K2 := Lib.hid k2
  have B2 := bt (Lib.hid b1) (Lib.hid b2)
  have RA : Hid (Rb w2 A bs) := Lib.hid (⟨h5.rd.below B2.out, h3⟩)
  have RS := Lib.hid (h11.stay B2.out)
  have HW := Lib.hid (And.intro hw2 hG)
  have K2z : Hid (G + 1 < w2.heap.size) := Lib.hid k2.lt
  have HBL := Lib.hid hbl
  have HMM := Lib.hid hmm
  have HBM := Lib.hid hsm.1
  have HSM := Lib.hid hsm.2
  have HIH := Lib.hid ih
  have HCN := Lib.hid (And.intro h1 (And.intro h2 h3))
  have HM60 := Lib.hid hsm.2.1
  clear ih h1 h2 h3 h5 h6 h7 h8 h9 h10 h11 hsm hbl hmm hG hw1 hw2 b1 b2 z1 k1 k2
  go_enter Try.func7, Try.ntmps7
  go_upto_region 1 with fail
  rw [HW.out.1, HW.out.2]
  have HSR := Lib.hid (show ∀ W, Below w2.heap.size w2 W → W.cell? ⟨G, 0, none⟩ = some (.int .u8 (c : Int)) ∧ W.cell? ⟨G, 1, none⟩ = some (.bool k) ∧ W.cell? ⟨G, 2, none⟩ = some (.int .u32 (n : Int)) ∧ W.cell? ⟨G, 3, none⟩ = some (.slice A bl ca) ∧ Below w2.heap.size w2 W from fun W hW => ⟨(hW.cell (p := ⟨G, 0, none⟩) K1.out.lt).trans (K1.out.cell 0), (hW.cell (p := ⟨G, 1, none⟩) K1.out.lt).trans (K1.out.cell 1), (hW.cell (p := ⟨G, 2, none⟩) K1.out.lt).trans (K1.out.cell 2), (hW.cell (p := ⟨G, 3, none⟩) K1.out.lt).trans (K1.out.cell 3), hW⟩)
  go_cut [3] (fun z wx => ∃ A3 N3 c3 D, z = .pointer (some ⟨D, 0, none⟩) ∧ w2.heap.size ≤ D ∧ bs.length = N3 ∧ N3 ≤ c3 ∧ c3 ≤ maxLen ∧ Bk wx D 29 [.int .u8 (c : Int), .bool k, .int .u32 (n : Int), .slice A3 N3 c3, .slice none 0 0] ∧ RdX (fun i => w2.heap.size ≤ i ∧ i ≠ D) wx A3 (cs8 bs) ∧ Below w2.heap.size w2 wx)
  case first =>
    refine wp_region_held_drew (S := fun W => W.cell? ⟨G, 0, none⟩ = some (.int .u8 (c : Int)) ∧ W.cell? ⟨G, 1, none⟩ = some (.bool k) ∧ W.cell? ⟨G, 2, none⟩ = some (.int .u32 (n : Int)) ∧ W.cell? ⟨G, 3, none⟩ = some (.slice A bl ca) ∧ Below w2.heap.size w2 W) (by kernel_rfl) (HSR.out _ (Below.refl w2.heap.size w2).drew) (fun hS => ?_)
    obtain ⟨wd, hwd⟩ : ∃ v, w2.drew = v := ⟨_, rfl⟩
    have d0 : Below w2.heap.size w2 wd := by rw [← hwd]; exact (Below.refl w2.heap.size w2).drew
    have RAx := Lib.hid (RA.out.below d0)
    rw [hwd] at hS ⊢
    clear hwd
    refine wpAnyH_take (i := 0) (oi := ⟨some 5, _, _, _, _, _⟩) (v := .pointer (some ⟨G, 0, none⟩)) rfl (by kernel_rfl) (by kernel_rfl) (by kernel_rfl) (fun _ _ _ h => h) (Or.inl ⟨by rfl, fun w _ => by go_simp⟩) hS ?_
    (try simp only [Act.put, List.setIfInBounds_toArray, List.set_cons_zero, List.set_cons_succ])
    refine wpAnyH_take (i := 2) (oi := ⟨some 7, _, _, _, _, _⟩) (v := .pointer (some ⟨G, 3, none⟩)) rfl (by kernel_rfl) (by kernel_rfl) (by kernel_rfl) (fun _ _ _ h => h) (Or.inl ⟨by rfl, fun w _ => by go_simp⟩) hS ?_
    (try simp only [Act.put, List.setIfInBounds_toArray, List.set_cons_zero, List.set_cons_succ])
    refine wpAnyH_take (i := 1) (oi := ⟨some 6, _, _, _, _, _⟩) (v := .agg #[.int .u8 (c : Int), .bool k, .int .u32 (n : Int)]) rfl (by kernel_rfl) (by kernel_rfl) (by kernel_rfl) (fun _ _ _ h => h) (Or.inl ⟨by rfl, fun w hSw => by (try obtain ⟨s1, s2, s3, s4, s5⟩ := hSw); go_simp⟩) hS ?_
    (try simp only [Act.put, List.setIfInBounds_toArray, List.set_cons_zero, List.set_cons_succ])
    refine wpAnyH_take (i := 3) (oi := ⟨some 8, _, _, _, _, _⟩) (v := .slice A bl ca) rfl (by kernel_rfl) (by kernel_rfl) (by kernel_rfl) (fun _ _ _ h => h) (Or.inl ⟨by rfl, fun w hSw => by (try obtain ⟨s1, s2, s3, s4, s5⟩ := hSw); go_simp⟩) hS ?_
    (try simp only [Act.put, List.setIfInBounds_toArray, List.set_cons_zero, List.set_cons_succ])
    refine wpAnyH_ready (rs := [4, 6]) (by kernel_rfl) (by simp) ?_
    refine AllReadyH.cons (o := _) rfl (fun K hK => ?_) (AllReadyH.cons (o := _) rfl (fun K hK => ?_) (AllReadyH.nil))
    · obtain ⟨v4, wP, hrun, ho, hv, _⟩ := ap8 ca (OwB.nil wd wd.heap.size) RAx.out HBL.out (Nat.le_refl _) (by simp; exact Nat.le_trans HBM.out (by decide))
      obtain ⟨A3, N3, c3, rfl, hN3, _, hc3, hm3, hR3⟩ := ho.opn
      rw [List.nil_append] at hR3 hN3
      refine step_app rfl _ (.tmp 8) _ _ rfl _ _ rfl rfl hrun ?_
      have HN3 := Lib.hid (And.intro hN3 (And.intro hc3 hm3))
      have RB := Lib.hid (rx_up hR3 d0.size)
      have d1 : Below w2.heap.size w2 wP := d0.trans (hv.mono d0.size)
      replace RAx := Lib.hid (RAx.out.below hv)
      clear hv hR3 hrun ho hN3 hc3 hm3
      refine hK.out _ _ (HSR.out _ d1) (fun hS9 => ?_)
      clear hK K hS
      have hS := hS9
      clear hS9
      (try simp only [Act.put, List.setIfInBounds_toArray, List.set_cons_zero, List.set_cons_succ])
      refine wpAnyH_take (i := 5) (oi := ⟨some 10, _, _, _, _, _⟩) (v := .agg #[.int .u8 (c : Int), .bool k, .int .u32 (n : Int), .slice A3 N3 c3, .slice none 0 0]) rfl (by kernel_rfl) (by kernel_rfl) (by kernel_rfl) (fun _ _ _ h => h) (Or.inl ⟨by rfl, fun w _ => by go_simp⟩) hS ?_
      (try simp only [Act.put, List.setIfInBounds_toArray, List.set_cons_zero, List.set_cons_succ])
      refine wpAnyH_ready (rs := [6]) (by kernel_rfl) (by simp) ?_
      refine AllReadyH.cons (o := _) rfl (fun K hK => ?_) (AllReadyH.nil)
      go_simp
      obtain ⟨wA6, hwwA6⟩ : ∃ v, wP.alloc (.cells #[.int .u8 0, .bool false, .int .u32 0, .slice none 0 0, .slice none 0 0] 29) = v := ⟨_, rfl⟩
      have hA6 : Below wP.heap.size wP wA6 := by rw [← hwwA6]; exact bel1 _ _
      obtain ⟨D, hD⟩ : ∃ g, wP.heap.size = g := ⟨_, rfl⟩
      have KD := Lib.hid (show Bk wA6 D 29 [.int .u8 0, .bool false, .int .u32 0, .slice none 0 0, .slice none 0 0] by rw [← hwwA6, ← hD]; exact Bk.new wP _ [_, _, _, _, _])
      have GD := Lib.hid (show w2.heap.size ≤ D by rw [← hD]; exact d1.size)
      rw [hwwA6, hD]
      have LRBD := Lib.hid (show RdX (fun i => i ≠ D) wP _ _ from fun hn => by obtain ⟨b, off, e, hb, _, hc⟩ := RB.out hn; exact ⟨b, off, e, hb, by rw [← hD]; omega, hc⟩)
      have d2 : Below w2.heap.size w2 wA6 := d1.trans (hA6.mono d1.size)
      replace RAx := Lib.hid (RAx.out.below hA6)
      replace RB := Lib.hid (RdX.belowX RB.out hA6)
      replace LRBD := Lib.hid (RdX.belowX LRBD.out hA6)
      clear hwwA6 hD hA6
      refine hK.out _ _ (HSR.out _ d2) (fun hS9 => ?_)
      clear hK K hS
      have hS := hS9
      clear hS9
      (try simp only [Act.put, List.setIfInBounds_toArray, List.set_cons_zero, List.set_cons_succ])
      refine wpAnyH_ready (rs := [7]) (by kernel_rfl) (by simp) ?_
      refine AllReadyH.cons (o := _) rfl (fun K hK => ?_) (AllReadyH.nil)
      obtain ⟨k0, k1, k2, k3, k4, kz⟩ := KD.out.five
      obtain ⟨y0, y1, y2, y3, y4⟩ := KD.out.free5
      go_simp
      have hst := st5 (o := 0) (v0 := .int .u8 (c : Int)) (v1 := .bool k) (v2 := .int .u32 (n : Int)) (v3 := .slice A3 N3 c3) (v4 := .slice none 0 0) KD.out d2 GD.out
      refine hK.out _ _ (HSR.out _ hst.2) (fun hS9 => ?_)
      clear hK K hS
      have hS := hS9
      clear hS9
      (try simp only [Act.put, List.setIfInBounds_toArray, List.set_cons_zero, List.set_cons_succ])
      refine wpAnyH_done (by kernel_rfl) ?_ _
      clear hS
      clear k0 k1 k2 k3 k4 kz y0 y1 y2 y3 y4
      have HST := Lib.hid hst
      clear hst
      go_wp2_with fail
      go_meet
      exact ⟨A3, N3, c3, D, rfl, GD.out, HN3.out.1, HN3.out.2.1, HN3.out.2.2, HST.out.1, rx5 RB.out LRBD.out, HST.out.2⟩
    · go_simp
      obtain ⟨wA6, hwwA6⟩ : ∃ v, wd.alloc (.cells #[.int .u8 0, .bool false, .int .u32 0, .slice none 0 0, .slice none 0 0] 29) = v := ⟨_, rfl⟩
      have hA6 : Below wd.heap.size wd wA6 := by rw [← hwwA6]; exact bel1 _ _
      obtain ⟨D, hD⟩ : ∃ g, wd.heap.size = g := ⟨_, rfl⟩
      have KD := Lib.hid (show Bk wA6 D 29 [.int .u8 0, .bool false, .int .u32 0, .slice none 0 0, .slice none 0 0] by rw [← hwwA6, ← hD]; exact Bk.new wd _ [_, _, _, _, _])
      have GD := Lib.hid (show w2.heap.size ≤ D by rw [← hD]; exact d0.size)
      rw [hwwA6, hD]
      have d1 : Below w2.heap.size w2 wA6 := d0.trans (hA6.mono d0.size)
      replace RAx := Lib.hid (RAx.out.below hA6)
      clear hwwA6 hD hA6
      refine hK.out _ _ (HSR.out _ d1) (fun hS9 => ?_)
      clear hK K hS
      have hS := hS9
      clear hS9
      (try simp only [Act.put, List.setIfInBounds_toArray, List.set_cons_zero, List.set_cons_succ])
      refine wpAnyH_ready (rs := [4]) (by kernel_rfl) (by simp) ?_
      refine AllReadyH.cons (o := _) rfl (fun K hK => ?_) (AllReadyH.nil)
      obtain ⟨v4, wP, hrun, ho, hv, _⟩ := ap8 ca (OwB.nil wA6 wA6.heap.size) RAx.out HBL.out (Nat.le_refl _) (by simp; exact Nat.le_trans HBM.out (by decide))
      obtain ⟨A3, N3, c3, rfl, hN3, _, hc3, hm3, hR3⟩ := ho.opn
      rw [List.nil_append] at hR3 hN3
      refine step_app rfl _ (.tmp 8) _ _ rfl _ _ rfl rfl hrun ?_
      have HN3 := Lib.hid (And.intro hN3 (And.intro hc3 hm3))
      have RB := Lib.hid (rx_up hR3 d1.size)
      have LRBD := Lib.hid (show RdX (fun i => i ≠ D) wP _ _ from fun hn => by obtain ⟨b, off, e, hb, hs, hc⟩ := hR3 hn; exact ⟨b, off, e, hb, by have := KD.out.lt; omega, hc⟩)
      have d2 : Below w2.heap.size w2 wP := d1.trans (hv.mono d1.size)
      replace RAx := Lib.hid (RAx.out.below hv)
      replace KD := Lib.hid (KD.out.below hv KD.out.lt)
      clear hv hR3 hrun ho hN3 hc3 hm3
      refine hK.out _ _ (HSR.out _ d2) (fun hS9 => ?_)
      clear hK K hS
      have hS := hS9
      clear hS9
      (try simp only [Act.put, List.setIfInBounds_toArray, List.set_cons_zero, List.set_cons_succ])
      refine wpAnyH_take (i := 5) (oi := ⟨some 10, _, _, _, _, _⟩) (v := .agg #[.int .u8 (c : Int), .bool k, .int .u32 (n : Int), .slice A3 N3 c3, .slice none 0 0]) rfl (by kernel_rfl) (by kernel_rfl) (by kernel_rfl) (fun _ _ _ h => h) (Or.inl ⟨by rfl, fun w _ => by go_simp⟩) hS ?_
      (try simp only [Act.put, List.setIfInBounds_toArray, List.set_cons_zero, List.set_cons_succ])
      refine wpAnyH_ready (rs := [7]) (by kernel_rfl) (by simp) ?_
      refine AllReadyH.cons (o := _) rfl (fun K hK => ?_) (AllReadyH.nil)
      obtain ⟨k0, k1, k2, k3, k4, kz⟩ := KD.out.five
      obtain ⟨y0, y1, y2, y3, y4⟩ := KD.out.free5
      go_simp
      have hst := st5 (o := 0) (v0 := .int .u8 (c : Int)) (v1 := .bool k) (v2 := .int .u32 (n : Int)) (v3 := .slice A3 N3 c3) (v4 := .slice none 0 0) KD.out d2 GD.out
      refine hK.out _ _ (HSR.out _ hst.2) (fun hS9 => ?_)
      clear hK K hS
      have hS := hS9
      clear hS9
      (try simp only [Act.put, List.setIfInBounds_toArray, List.set_cons_zero, List.set_cons_succ])
      refine wpAnyH_done (by kernel_rfl) ?_ _
      clear hS
      clear k0 k1 k2 k3 k4 kz y0 y1 y2 y3 y4
      have HST := Lib.hid hst
      clear hst
      go_wp2_with fail
      go_meet
      exact ⟨A3, N3, c3, D, rfl, GD.out, HN3.out.1, HN3.out.2.1, HN3.out.2.2, HST.out.1, rx5 RB.out LRBD.out, HST.out.2⟩
  case rest =>
    obtain ⟨A3, N3, c3, D, rfl, hD, hN3, hnc, hcm, hkd, hrx, hbx⟩ := hcut
    generalize wc = w3 at *
    have KD3 := Lib.hid hkd
    have RB3 : Hid (RdX (fun i => w2.heap.size ≤ i ∧ i ≠ D ∧ i < w3.heap.size) w3 A3 (cs8 bs)) := Lib.hid (hrx.keep (Nat.le_refl _) (fun _ _ _ => rfl) (fun i hi hk => ⟨hi.1, hi.2, hk⟩))
    have HD := Lib.hid hD
    have HN3 := Lib.hid (And.intro hN3 (And.intro hnc hcm))
    have BB3 := Lib.hid hbx
    have HW3 := Lib.hid hbx.size
    have HDW : Hid (D < w3.heap.size) := Lib.hid hkd.lt
    have HG2 : Hid (G < w2.heap.size) := Lib.hid K1.out.lt
    clear hkd hrx hD hN3 hnc hcm hbx HSR RA
    go_wp2_with fail
    go_loopw [4] (fun i wr => ∃ (p : Nat) (S9 : Nat → Prop) (cs : List Value) (v : Value), i = .int .i64 (p : Int) ∧ p ≤ m ∧ Pl w3.heap.size S9 (ss.take p) cs v wr ∧ Bk wr D 29 [.int .u8 (c : Int), .bool k, .int .u32 (n : Int), .slice A3 N3 c3, v] ∧ RdX (fun i => w2.heap.size ≤ i ∧ i ≠ D ∧ i < w3.heap.size) wr A3 (cs8 bs) ∧ Below w2.heap.size w2 wr ∧ w3.heap.size ≤ wr.heap.size) (fun i _ => m - (intOf i).toNat)
    case atStart => exact ⟨0, _, [], _, rfl, Nat.zero_le _, pl_nil' w3 _ (Nat.le_refl _), KD3.out, RB3.out, BB3.out, Nat.le_refl _⟩
    case round =>
    clear KD3 RB3 BB3
    obtain ⟨p, S0, cs, v, rfl, hp, hpl, hkd, hrb, hbl, hsz⟩ := hrel
    have PL := Lib.hid hpl
    have KD := Lib.hid hkd
    have RB := Lib.hid hrb
    have BB := Lib.hid hbl
    have HP := Lib.hid hp
    clear hpl hkd hrb hbl hp
    have KE := kt K1 BB
    obtain ⟨e0, e1, e2, e3, e4, ez⟩ := KE.out.five
    by_cases hlt : p < m
    · have hm60 : m ≤ 1000 := HM60.out
      have hlt' : p < ss.length := by rw [HMM.out]; exact hlt
      obtain ⟨b, off, c', n', k', A1, l1, q1, A2, l2, q2, hBe, hb, _, f0, f1, f2, f3, f4, hE⟩ := RS.out.fives hlt'
      subst hBe
      have hmt := List.getElem_mem hlt'
      have htk : ss.take (p + 1) = ss.take p ++ [ss[p]] := List.take_succ_eq_append_getElem hlt'
      have htin := tin_mem HSM.out.2 hmt
      obtain ⟨E, hEq⟩ : ∃ E, ss[p] = E := ⟨_, rfl⟩
      rw [hEq] at hE hmt htk htin
      have HTK := Lib.hid htk
      have HC := Lib.hid fun (W : World) (hb : Below wr.heap.size wr W) => HIH.out E hmt _ W ((hE.stay BB.out).stay hb) htin
      have HSR2 := Lib.hid (show ∀ W, Below w2.heap.size w2 W → W.cell? ⟨G, 4, none⟩ = some (.slice (some ⟨b, off, none⟩) m cb) ∧ W.cell? ⟨b, off + p * 5, none⟩ = some (.int .u8 (c' : Int)) ∧ W.cell? ⟨b, off + p * 5 + 1, none⟩ = some (.bool k') ∧ W.cell? ⟨b, off + p * 5 + 2, none⟩ = some (.int .u32 (n' : Int)) ∧ W.cell? ⟨b, off + p * 5 + 3, none⟩ = some (.slice A1 l1 q1) ∧ W.cell? ⟨b, off + p * 5 + 4, none⟩ = some (.slice A2 l2 q2) from fun W hW => ⟨(hW.cell (p := ⟨G, 4, none⟩) K1.out.lt).trans (K1.out.cell 4), (hW.cell (p := ⟨b, off + p * 5, none⟩) hb).trans f0, (hW.cell (p := ⟨b, off + p * 5 + 1, none⟩) hb).trans f1, (hW.cell (p := ⟨b, off + p * 5 + 2, none⟩) hb).trans f2, (hW.cell (p := ⟨b, off + p * 5 + 3, none⟩) hb).trans f3, (hW.cell (p := ⟨b, off + p * 5 + 4, none⟩) hb).trans f4⟩)
      have HSR := Lib.hid (show ∀ W, Below wr.heap.size wr W → W.cell? ⟨G, 4, none⟩ = some (.slice (some ⟨b, off, none⟩) m cb) ∧ W.cell? ⟨b, off + p * 5, none⟩ = some (.int .u8 (c' : Int)) ∧ W.cell? ⟨b, off + p * 5 + 1, none⟩ = some (.bool k') ∧ W.cell? ⟨b, off + p * 5 + 2, none⟩ = some (.int .u32 (n' : Int)) ∧ W.cell? ⟨b, off + p * 5 + 3, none⟩ = some (.slice A1 l1 q1) ∧ W.cell? ⟨b, off + p * 5 + 4, none⟩ = some (.slice A2 l2 q2) from fun W hW => HSR2.out W (BB.out.trans (hW.mono BB.out.size)))
      have HNE := Lib.hid (And.intro (show G < D by have := HD.out; have := HG2.out; omega) (show b < D by have := HD.out; omega))
      clear hE hmt htk htin hEq hlt' f0 f1 f2 f3 f4 hb
      go_upto_region 5 with fail
      clear e0 e1 e2 e3 e4 ez
      refine wp_region_held_drew (S := fun W => W.cell? ⟨G, 4, none⟩ = some (.slice (some ⟨b, off, none⟩) m cb) ∧ W.cell? ⟨b, off + p * 5, none⟩ = some (.int .u8 (c' : Int)) ∧ W.cell? ⟨b, off + p * 5 + 1, none⟩ = some (.bool k') ∧ W.cell? ⟨b, off + p * 5 + 2, none⟩ = some (.int .u32 (n' : Int)) ∧ W.cell? ⟨b, off + p * 5 + 3, none⟩ = some (.slice A1 l1 q1) ∧ W.cell? ⟨b, off + p * 5 + 4, none⟩ = some (.slice A2 l2 q2)) (by kernel_rfl) (HSR.out _ (Below.refl wr.heap.size wr).drew) (fun hS => ?_)
      obtain ⟨wd, hwd⟩ : ∃ v, wr.drew = v := ⟨_, rfl⟩
      have d0 : Below wr.heap.size wr wd := by rw [← hwd]; exact (Below.refl wr.heap.size wr).drew
      have KDx := Lib.hid (KD.out.below d0 KD.out.lt)
      have PLd := Lib.hid (PL.out.below d0)
      rw [hwd] at hS ⊢
      clear hwd
      refine wpAnyH_take (i := 0) (oi := ⟨some 18, _, _, _, _, _⟩) (v := .pointer (some ⟨D, 4, none⟩)) rfl (by kernel_rfl) (by kernel_rfl) (by kernel_rfl) (fun _ _ _ h => h) (Or.inl ⟨by rfl, fun w _ => by go_simp⟩) hS ?_
      (try simp only [Act.put, List.setIfInBounds_toArray, List.set_cons_zero, List.set_cons_succ])
      refine wpAnyH_take (i := 2) (oi := ⟨some 20, _, _, _, _, _⟩) (v := .pointer (some ⟨G, 4, none⟩)) rfl (by kernel_rfl) (by kernel_rfl) (by kernel_rfl) (fun _ _ _ h => h) (Or.inl ⟨by rfl, fun w _ => by go_simp⟩) hS ?_
      (try simp only [Act.put, List.setIfInBounds_toArray, List.set_cons_zero, List.set_cons_succ])
      refine wpAnyH_take (i := 4) (oi := ⟨some 22, _, _, _, _, _⟩) (v := .int .i64 (p : Int)) rfl (by kernel_rfl) (by kernel_rfl) (by kernel_rfl) (fun _ _ _ h => h) (Or.inl ⟨by rfl, fun w _ => by go_simp⟩) hS ?_
      (try simp only [Act.put, List.setIfInBounds_toArray, List.set_cons_zero, List.set_cons_succ])
      refine wpAnyH_take (i := 3) (oi := ⟨some 21, _, _, _, _, _⟩) (v := .slice (some ⟨b, off, none⟩) m cb) rfl (by kernel_rfl) (by kernel_rfl) (by kernel_rfl) (fun _ _ _ h => h) (Or.inl ⟨by rfl, fun w hSw => by (try obtain ⟨s1, s2, s3, s4, s5, s6⟩ := hSw); go_simp⟩) hS ?_
      (try simp only [Act.put, List.setIfInBounds_toArray, List.set_cons_zero, List.set_cons_succ])
      refine wpAnyH_take (i := 5) (oi := ⟨some 23, _, _, _, _, _⟩) (v := .pointer (some ⟨b, off + p * 5, none⟩)) rfl (by kernel_rfl) (by kernel_rfl) (by kernel_rfl) (fun _ _ _ h => h) (Or.inl ⟨by rfl, fun w _ => by go_simp⟩) hS ?_
      (try simp only [Act.put, List.setIfInBounds_toArray, List.set_cons_zero, List.set_cons_succ])
      refine wpAnyH_take (i := 6) (oi := ⟨some 24, _, _, _, _, _⟩) (v := .agg #[.int .u8 (c' : Int), .bool k', .int .u32 (n' : Int), .slice A1 l1 q1, .slice A2 l2 q2]) rfl (by kernel_rfl) (by kernel_rfl) (by kernel_rfl) (fun _ _ _ h => h) (Or.inl ⟨by rfl, fun w hSw => by (try obtain ⟨s1, s2, s3, s4, s5, s6⟩ := hSw); go_simp⟩) hS ?_
      (try simp only [Act.put, List.setIfInBounds_toArray, List.set_cons_zero, List.set_cons_succ])
      refine wpAnyH_ready (rs := [1, 7]) (by kernel_rfl) (by simp) ?_
      refine AllReadyH.cons (o := _) rfl (fun K hK => ?_) (AllReadyH.cons (o := _) rfl (fun K hK => ?_) (AllReadyH.nil))
      · have z4 : wd.cell? ⟨D, 4, none⟩ = some v := KDx.out.cell 4
        go_simp
        clear z4
        refine hK.out _ _ (HSR.out _ d0) (fun hS9 => ?_)
        clear hK K hS
        have hS := hS9
        clear hS9
        (try simp only [Act.put, List.setIfInBounds_toArray, List.set_cons_zero, List.set_cons_succ])
        refine wpAnyH_ready (rs := [7]) (by kernel_rfl) (by simp) ?_
        refine AllReadyH.cons (o := _) rfl (fun K hK => ?_) (AllReadyH.nil)
        go_simp
        refine (HC.out _ d0).mono ?_
        rintro e wC7 ⟨uu, rfl, hu, hv⟩
        obtain ⟨c5, n5, k5, A5, l5, q5, A6, l6, q6, rfl⟩ := hu.form
        have HU := Lib.hid hu
        have CB := Lib.hid hv
        have d1 : Below wr.heap.size wr wC7 := d0.trans (hv.mono d0.size)
        replace KDx := Lib.hid (KDx.out.below hv KDx.out.lt)
        clear hv hu
        refine hK.out _ _ (HSR.out _ d1) (fun hS9 => ?_)
        clear hK K hS
        have hS := hS9
        clear hS9
        (try simp only [Act.put, List.setIfInBounds_toArray, List.set_cons_zero, List.set_cons_succ])
        refine wpAnyH_ready (rs := [8]) (by kernel_rfl) (by simp) ?_
        refine AllReadyH.cons (o := _) rfl (fun K hK => ?_) (AllReadyH.nil)
        go_simp
        refine hK.out _ _ (HSR.out _ (d1.alloc d1.size _)) (fun hS9 => ?_)
        clear hK K hS
        have hS := hS9
        clear hS9
        (try simp only [Act.put, List.setIfInBounds_toArray, List.set_cons_zero, List.set_cons_succ])
        refine wpAnyH_ready (rs := [9]) (by kernel_rfl) (by simp) ?_
        refine AllReadyH.cons (o := _) rfl (fun K hK => ?_) (AllReadyH.nil)
        obtain ⟨ga, cap, S9, cs9, wP, hrun, hP6, hb6⟩ := PLd.out.push (by rw [List.length_take]; have := HM60.out; have := HMM.out; omega) (w1 := wC7) CB.out HU.out
        rw [List.length_take_of_le (by rw [HMM.out]; exact Nat.le_of_lt hlt)] at hrun hP6
        simp only [elV, Value.cells] at hrun
        have hsz6 : wC7.heap.size ≤ wP.heap.size := hb6.size
        refine step_app rfl (.tmp 19) (.tmp 26) _ _ rfl _ _ rfl rfl hrun ?_
        have dP : Below w2.heap.size w2 wP := (BB.out.trans (d1.mono BB.out.size)).trans (hb6.mono HW3.out)
        refine hK.out _ _ (HSR2.out _ dP) (fun hS9 => ?_)
        clear hK K hS
        have hS := hS9
        clear hS9
        (try simp only [Act.put, List.setIfInBounds_toArray, List.set_cons_zero, List.set_cons_succ])
        refine wpAnyH_take (i := 10) (oi := ⟨some 28, _, _, _, _, _⟩) (v := .pointer (some ⟨D, 4, none⟩)) rfl (by kernel_rfl) (by kernel_rfl) (by kernel_rfl) (fun _ _ _ h => h) (Or.inl ⟨by rfl, fun w _ => by go_simp⟩) hS ?_
        (try simp only [Act.put, List.setIfInBounds_toArray, List.set_cons_zero, List.set_cons_succ])
        refine wpAnyH_ready (rs := [11]) (by kernel_rfl) (by simp) ?_
        refine AllReadyH.cons (o := _) rfl (fun K hK => ?_) (AllReadyH.nil)
        have KD9 : Bk wP D 29 [.int .u8 (c : Int), .bool k, .int .u32 (n : Int), .slice A3 N3 c3, v] := by unfold Bk; rw [hb6.block D (HDW.out)]; exact KDx.out
        have z4 : wP.cell? ⟨D, 4, none⟩ = some v := KD9.cell 4
        have z5 : wP.frozen? ⟨D, 4, none⟩ = false := KD9.free 4
        go_simp
        have hSn := HSR2.out _ dP
        obtain ⟨w9, hw9⟩ : ∃ u, wP.setCell ⟨D, 4, none⟩ (.slice (some ⟨ga, 0, none⟩) (p + 1) cap) = u := ⟨_, rfl⟩
        have hfar : ∀ i, i ≠ D → w9.heap[i]? = wP.heap[i]? := fun i hi => by rw [← hw9]; exact Below.heap_setCell _ _ _ _ (by exact hi)
        rw [hw9]
        have hS2 : w9.cell? ⟨G, 4, none⟩ = some (.slice (some ⟨b, off, none⟩) m cb) ∧ w9.cell? ⟨b, off + p * 5, none⟩ = some (.int .u8 (c' : Int)) ∧ w9.cell? ⟨b, off + p * 5 + 1, none⟩ = some (.bool k') ∧ w9.cell? ⟨b, off + p * 5 + 2, none⟩ = some (.int .u32 (n' : Int)) ∧ w9.cell? ⟨b, off + p * 5 + 3, none⟩ = some (.slice A1 l1 q1) ∧ w9.cell? ⟨b, off + p * 5 + 4, none⟩ = some (.slice A2 l2 q2) := ⟨(World.cell?_of_block (a := ⟨G, 4, none⟩) (hfar G (by have := HNE.out; omega))).trans hSn.1, (World.cell?_of_block (a := ⟨b, off + p * 5, none⟩) (hfar b (by have := HNE.out; omega))).trans hSn.2.1, (World.cell?_of_block (a := ⟨b, off + p * 5 + 1, none⟩) (hfar b (by have := HNE.out; omega))).trans hSn.2.2.1, (World.cell?_of_block (a := ⟨b, off + p * 5 + 2, none⟩) (hfar b (by have := HNE.out; omega))).trans hSn.2.2.2.1, (World.cell?_of_block (a := ⟨b, off + p * 5 + 3, none⟩) (hfar b (by have := HNE.out; omega))).trans hSn.2.2.2.2.1, (World.cell?_of_block (a := ⟨b, off + p * 5 + 4, none⟩) (hfar b (by have := HNE.out; omega))).trans hSn.2.2.2.2.2⟩
        refine hK.out _ _ hS2 (fun hS9 => ?_)
        clear hK K hS hSn hS2 z4 z5
        have hS := hS9
        clear hS9
        (try simp only [Act.put, List.setIfInBounds_toArray, List.set_cons_zero, List.set_cons_succ])
        refine wpAnyH_done (by kernel_rfl) ?_ _
        clear hS
        have hz9 : wP.heap.size = w9.heap.size := by rw [← hw9, World.size_setCell]
        have hkd : Bk w9 D 29 [.int .u8 (c : Int), .bool k, .int .u32 (n : Int), .slice A3 N3 c3, .slice (some ⟨ga, 0, none⟩) (p + 1) cap] := by rw [← hw9]; exact KD9.store 4 _
        have hpl := pl_far hP6 (fun i hi => hfar i (by have := HDW.out; omega)) hz9.symm
        have hrb : RdX (fun i => w2.heap.size ≤ i ∧ i ≠ D ∧ i < w3.heap.size) w9 A3 (cs8 bs) := RB.out.keep (by rw [← hz9]; exact Nat.le_trans (d1.size) hsz6) (fun i hi hk => by rw [hfar i hi.2.1, hb6.block i hi.2.2, d1.block i hk]) (fun _ h _ => h)
        have hbl : Below w2.heap.size w2 w9 := by rw [← hw9]; exact dP.setCell (p := ⟨D, 4, none⟩) HD.out _
        have HFIN := Lib.hid (And.intro hpl (And.intro hkd (And.intro hrb (And.intro hbl (show w3.heap.size ≤ w9.heap.size by rw [← hz9]; exact hP6.bz)))))
        rw [← HTK.out] at HFIN
        clear hpl hkd hrb hbl hw9 hfar hz9 hP6 hb6 dP KD9
        go_wp2_with fail
        exact ⟨⟨p + 1, S9, cs9, _, by go_num, hlt, HFIN.out.1, HFIN.out.2.1, HFIN.out.2.2.1, HFIN.out.2.2.2.1, HFIN.out.2.2.2.2⟩, by simp [intOf]; omega⟩
      · go_simp
        refine (HC.out _ d0).mono ?_
        rintro e wC7 ⟨uu, rfl, hu, hv⟩
        obtain ⟨c5, n5, k5, A5, l5, q5, A6, l6, q6, rfl⟩ := hu.form
        have HU := Lib.hid hu
        have CB := Lib.hid hv
        have d1 : Below wr.heap.size wr wC7 := d0.trans (hv.mono d0.size)
        replace KDx := Lib.hid (KDx.out.below hv KDx.out.lt)
        clear hv hu
        refine hK.out _ _ (HSR.out _ d1) (fun hS9 => ?_)
        clear hK K hS
        have hS := hS9
        clear hS9
        (try simp only [Act.put, List.setIfInBounds_toArray, List.set_cons_zero, List.set_cons_succ])
        refine wpAnyH_ready (rs := [1, 8]) (by kernel_rfl) (by simp) ?_
        refine AllReadyH.cons (o := _) rfl (fun K hK => ?_) (AllReadyH.cons (o := _) rfl (fun K hK => ?_) (AllReadyH.nil))
        · have z4 : wC7.cell? ⟨D, 4, none⟩ = some v := KDx.out.cell 4
          go_simp
          clear z4
          refine hK.out _ _ (HSR.out _ d1) (fun hS9 => ?_)
          clear hK K hS
          have hS := hS9
          clear hS9
          (try simp only [Act.put, List.setIfInBounds_toArray, List.set_cons_zero, List.set_cons_succ])
          refine wpAnyH_ready (rs := [8]) (by kernel_rfl) (by simp) ?_
          refine AllReadyH.cons (o := _) rfl (fun K hK => ?_) (AllReadyH.nil)
          go_simp
          refine hK.out _ _ (HSR.out _ (d1.alloc d1.size _)) (fun hS9 => ?_)
          clear hK K hS
          have hS := hS9
          clear hS9
          (try simp only [Act.put, List.setIfInBounds_toArray, List.set_cons_zero, List.set_cons_succ])
          refine wpAnyH_ready (rs := [9]) (by kernel_rfl) (by simp) ?_
          refine AllReadyH.cons (o := _) rfl (fun K hK => ?_) (AllReadyH.nil)
          obtain ⟨ga, cap, S9, cs9, wP, hrun, hP6, hb6⟩ := PLd.out.push (by rw [List.length_take]; have := HM60.out; have := HMM.out; omega) (w1 := wC7) CB.out HU.out
          rw [List.length_take_of_le (by rw [HMM.out]; exact Nat.le_of_lt hlt)] at hrun hP6
          simp only [elV, Value.cells] at hrun
          have hsz6 : wC7.heap.size ≤ wP.heap.size := hb6.size
          refine step_app rfl (.tmp 19) (.tmp 26) _ _ rfl _ _ rfl rfl hrun ?_
          have dP : Below w2.heap.size w2 wP := (BB.out.trans (d1.mono BB.out.size)).trans (hb6.mono HW3.out)
          refine hK.out _ _ (HSR2.out _ dP) (fun hS9 => ?_)
          clear hK K hS
          have hS := hS9
          clear hS9
          (try simp only [Act.put, List.setIfInBounds_toArray, List.set_cons_zero, List.set_cons_succ])
          refine wpAnyH_take (i := 10) (oi := ⟨some 28, _, _, _, _, _⟩) (v := .pointer (some ⟨D, 4, none⟩)) rfl (by kernel_rfl) (by kernel_rfl) (by kernel_rfl) (fun _ _ _ h => h) (Or.inl ⟨by rfl, fun w _ => by go_simp⟩) hS ?_
          (try simp only [Act.put, List.setIfInBounds_toArray, List.set_cons_zero, List.set_cons_succ])
          refine wpAnyH_ready (rs := [11]) (by kernel_rfl) (by simp) ?_
          refine AllReadyH.cons (o := _) rfl (fun K hK => ?_) (AllReadyH.nil)
          have KD9 : Bk wP D 29 [.int .u8 (c : Int), .bool k, .int .u32 (n : Int), .slice A3 N3 c3, v] := by unfold Bk; rw [hb6.block D (HDW.out)]; exact KDx.out
          have z4 : wP.cell? ⟨D, 4, none⟩ = some v := KD9.cell 4
          have z5 : wP.frozen? ⟨D, 4, none⟩ = false := KD9.free 4
          go_simp
          have hSn := HSR2.out _ dP
          obtain ⟨w9, hw9⟩ : ∃ u, wP.setCell ⟨D, 4, none⟩ (.slice (some ⟨ga, 0, none⟩) (p + 1) cap) = u := ⟨_, rfl⟩
          have hfar : ∀ i, i ≠ D → w9.heap[i]? = wP.heap[i]? := fun i hi => by rw [← hw9]; exact Below.heap_setCell _ _ _ _ (by exact hi)
          rw [hw9]
          have hS2 : w9.cell? ⟨G, 4, none⟩ = some (.slice (some ⟨b, off, none⟩) m cb) ∧ w9.cell? ⟨b, off + p * 5, none⟩ = some (.int .u8 (c' : Int)) ∧ w9.cell? ⟨b, off + p * 5 + 1, none⟩ = some (.bool k') ∧ w9.cell? ⟨b, off + p * 5 + 2, none⟩ = some (.int .u32 (n' : Int)) ∧ w9.cell? ⟨b, off + p * 5 + 3, none⟩ = some (.slice A1 l1 q1) ∧ w9.cell? ⟨b, off + p * 5 + 4, none⟩ = some (.slice A2 l2 q2) := ⟨(World.cell?_of_block (a := ⟨G, 4, none⟩) (hfar G (by have := HNE.out; omega))).trans hSn.1, (World.cell?_of_block (a := ⟨b, off + p * 5, none⟩) (hfar b (by have := HNE.out; omega))).trans hSn.2.1, (World.cell?_of_block (a := ⟨b, off + p * 5 + 1, none⟩) (hfar b (by have := HNE.out; omega))).trans hSn.2.2.1, (World.cell?_of_block (a := ⟨b, off + p * 5 + 2, none⟩) (hfar b (by have := HNE.out; omega))).trans hSn.2.2.2.1, (World.cell?_of_block (a := ⟨b, off + p * 5 + 3, none⟩) (hfar b (by have := HNE.out; omega))).trans hSn.2.2.2.2.1, (World.cell?_of_block (a := ⟨b, off + p * 5 + 4, none⟩) (hfar b (by have := HNE.out; omega))).trans hSn.2.2.2.2.2⟩
          refine hK.out _ _ hS2 (fun hS9 => ?_)
          clear hK K hS hSn hS2 z4 z5
          have hS := hS9
          clear hS9
          (try simp only [Act.put, List.setIfInBounds_toArray, List.set_cons_zero, List.set_cons_succ])
          refine wpAnyH_done (by kernel_rfl) ?_ _
          clear hS
          have hz9 : wP.heap.size = w9.heap.size := by rw [← hw9, World.size_setCell]
          have hkd : Bk w9 D 29 [.int .u8 (c : Int), .bool k, .int .u32 (n : Int), .slice A3 N3 c3, .slice (some ⟨ga, 0, none⟩) (p + 1) cap] := by rw [← hw9]; exact KD9.store 4 _
          have hpl := pl_far hP6 (fun i hi => hfar i (by have := HDW.out; omega)) hz9.symm
          have hrb : RdX (fun i => w2.heap.size ≤ i ∧ i ≠ D ∧ i < w3.heap.size) w9 A3 (cs8 bs) := RB.out.keep (by rw [← hz9]; exact Nat.le_trans (d1.size) hsz6) (fun i hi hk => by rw [hfar i hi.2.1, hb6.block i hi.2.2, d1.block i hk]) (fun _ h _ => h)
          have hbl : Below w2.heap.size w2 w9 := by rw [← hw9]; exact dP.setCell (p := ⟨D, 4, none⟩) HD.out _
          have HFIN := Lib.hid (And.intro hpl (And.intro hkd (And.intro hrb (And.intro hbl (show w3.heap.size ≤ w9.heap.size by rw [← hz9]; exact hP6.bz)))))
          rw [← HTK.out] at HFIN
          clear hpl hkd hrb hbl hw9 hfar hz9 hP6 hb6 dP KD9
          go_wp2_with fail
          exact ⟨⟨p + 1, S9, cs9, _, by go_num, hlt, HFIN.out.1, HFIN.out.2.1, HFIN.out.2.2.1, HFIN.out.2.2.2.1, HFIN.out.2.2.2.2⟩, by simp [intOf]; omega⟩
        · go_simp
          refine hK.out _ _ (HSR.out _ (d1.alloc d1.size _)) (fun hS9 => ?_)
          clear hK K hS
          have hS := hS9
          clear hS9
          (try simp only [Act.put, List.setIfInBounds_toArray, List.set_cons_zero, List.set_cons_succ])
          refine wpAnyH_ready (rs := [1]) (by kernel_rfl) (by simp) ?_
          refine AllReadyH.cons (o := _) rfl (fun K hK => ?_) (AllReadyH.nil)
          have z4 : (wC7.alloc (.cells #[.int .u8 (c5 : Int), .bool k5, .int .u32 (n5 : Int), .slice A5 l5 q5, .slice A6 l6 q6] 29)).cell? ⟨D, 4, none⟩ = some v := (KDx.out.alloc _).cell 4
          go_simp
          clear z4
          refine hK.out _ _ (HSR.out _ (d1.alloc d1.size _)) (fun hS9 => ?_)
          clear hK K hS
          have hS := hS9
          clear hS9
          (try simp only [Act.put, List.setIfInBounds_toArray, List.set_cons_zero, List.set_cons_succ])
          refine wpAnyH_ready (rs := [9]) (by kernel_rfl) (by simp) ?_
          refine AllReadyH.cons (o := _) rfl (fun K hK => ?_) (AllReadyH.nil)
          obtain ⟨ga, cap, S9, cs9, wP, hrun, hP6, hb6⟩ := PLd.out.push (by rw [List.length_take]; have := HM60.out; have := HMM.out; omega) (w1 := wC7) CB.out HU.out
          rw [List.length_take_of_le (by rw [HMM.out]; exact Nat.le_of_lt hlt)] at hrun hP6
          simp only [elV, Value.cells] at hrun
          have hsz6 : wC7.heap.size ≤ wP.heap.size := hb6.size
          refine step_app rfl (.tmp 19) (.tmp 26) _ _ rfl _ _ rfl rfl hrun ?_
          have dP : Below w2.heap.size w2 wP := (BB.out.trans (d1.mono BB.out.size)).trans (hb6.mono HW3.out)
          refine hK.out _ _ (HSR2.out _ dP) (fun hS9 => ?_)
          clear hK K hS
          have hS := hS9
          clear hS9
          (try simp only [Act.put, List.setIfInBounds_toArray, List.set_cons_zero, List.set_cons_succ])
          refine wpAnyH_take (i := 10) (oi := ⟨some 28, _, _, _, _, _⟩) (v := .pointer (some ⟨D, 4, none⟩)) rfl (by kernel_rfl) (by kernel_rfl) (by kernel_rfl) (fun _ _ _ h => h) (Or.inl ⟨by rfl, fun w _ => by go_simp⟩) hS ?_
          (try simp only [Act.put, List.setIfInBounds_toArray, List.set_cons_zero, List.set_cons_succ])
          refine wpAnyH_ready (rs := [11]) (by kernel_rfl) (by simp) ?_
          refine AllReadyH.cons (o := _) rfl (fun K hK => ?_) (AllReadyH.nil)
          have KD9 : Bk wP D 29 [.int .u8 (c : Int), .bool k, .int .u32 (n : Int), .slice A3 N3 c3, v] := by unfold Bk; rw [hb6.block D (HDW.out)]; exact KDx.out
          have z4 : wP.cell? ⟨D, 4, none⟩ = some v := KD9.cell 4
          have z5 : wP.frozen? ⟨D, 4, none⟩ = false := KD9.free 4
          go_simp
          have hSn := HSR2.out _ dP
          obtain ⟨w9, hw9⟩ : ∃ u, wP.setCell ⟨D, 4, none⟩ (.slice (some ⟨ga, 0, none⟩) (p + 1) cap) = u := ⟨_, rfl⟩
          have hfar : ∀ i, i ≠ D → w9.heap[i]? = wP.heap[i]? := fun i hi => by rw [← hw9]; exact Below.heap_setCell _ _ _ _ (by exact hi)
          rw [hw9]
          have hS2 : w9.cell? ⟨G, 4, none⟩ = some (.slice (some ⟨b, off, none⟩) m cb) ∧ w9.cell? ⟨b, off + p * 5, none⟩ = some (.int .u8 (c' : Int)) ∧ w9.cell? ⟨b, off + p * 5 + 1, none⟩ = some (.bool k') ∧ w9.cell? ⟨b, off + p * 5 + 2, none⟩ = some (.int .u32 (n' : Int)) ∧ w9.cell? ⟨b, off + p * 5 + 3, none⟩ = some (.slice A1 l1 q1) ∧ w9.cell? ⟨b, off + p * 5 + 4, none⟩ = some (.slice A2 l2 q2) := ⟨(World.cell?_of_block (a := ⟨G, 4, none⟩) (hfar G (by have := HNE.out; omega))).trans hSn.1, (World.cell?_of_block (a := ⟨b, off + p * 5, none⟩) (hfar b (by have := HNE.out; omega))).trans hSn.2.1, (World.cell?_of_block (a := ⟨b, off + p * 5 + 1, none⟩) (hfar b (by have := HNE.out; omega))).trans hSn.2.2.1, (World.cell?_of_block (a := ⟨b, off + p * 5 + 2, none⟩) (hfar b (by have := HNE.out; omega))).trans hSn.2.2.2.1, (World.cell?_of_block (a := ⟨b, off + p * 5 + 3, none⟩) (hfar b (by have := HNE.out; omega))).trans hSn.2.2.2.2.1, (World.cell?_of_block (a := ⟨b, off + p * 5 + 4, none⟩) (hfar b (by have := HNE.out; omega))).trans hSn.2.2.2.2.2⟩
          refine hK.out _ _ hS2 (fun hS9 => ?_)
          clear hK K hS hSn hS2 z4 z5
          have hS := hS9
          clear hS9
          (try simp only [Act.put, List.setIfInBounds_toArray, List.set_cons_zero, List.set_cons_succ])
          refine wpAnyH_done (by kernel_rfl) ?_ _
          clear hS
          have hz9 : wP.heap.size = w9.heap.size := by rw [← hw9, World.size_setCell]
          have hkd : Bk w9 D 29 [.int .u8 (c : Int), .bool k, .int .u32 (n : Int), .slice A3 N3 c3, .slice (some ⟨ga, 0, none⟩) (p + 1) cap] := by rw [← hw9]; exact KD9.store 4 _
          have hpl := pl_far hP6 (fun i hi => hfar i (by have := HDW.out; omega)) hz9.symm
          have hrb : RdX (fun i => w2.heap.size ≤ i ∧ i ≠ D ∧ i < w3.heap.size) w9 A3 (cs8 bs) := RB.out.keep (by rw [← hz9]; exact Nat.le_trans (d1.size) hsz6) (fun i hi hk => by rw [hfar i hi.2.1, hb6.block i hi.2.2, d1.block i hk]) (fun _ h _ => h)
          have hbl : Below w2.heap.size w2 w9 := by rw [← hw9]; exact dP.setCell (p := ⟨D, 4, none⟩) HD.out _
          have HFIN := Lib.hid (And.intro hpl (And.intro hkd (And.intro hrb (And.intro hbl (show w3.heap.size ≤ w9.heap.size by rw [← hz9]; exact hP6.bz)))))
          rw [← HTK.out] at HFIN
          clear hpl hkd hrb hbl hw9 hfar hz9 hP6 hb6 dP KD9
          go_wp2_with fail
          exact ⟨⟨p + 1, S9, cs9, _, by go_num, hlt, HFIN.out.1, HFIN.out.2.1, HFIN.out.2.2.1, HFIN.out.2.2.2.1, HFIN.out.2.2.2.2⟩, by simp [intOf]; omega⟩
    · have hpe : p = m := by have := HP.out; omega
      subst hpe
      obtain ⟨q0, q1, q2, q3, q4, qz⟩ := KD.out.five
      have hpl := PL.out
      rw [List.take_of_length_le (by rw [HMM.out]; exact Nat.le_refl _)] at hpl
      obtain ⟨A9, c9, rfl, h91, h92, h93⟩ := Pl_subs hpl
      have K2r := kt K2 BB
      have HRD := Lib.hid (And.intro h91 (And.intro h92 h93))
      clear hpl h91 h92 h93
      go_wp2_with (refine storeE rfl _ _ rfl rfl rfl K2r.out rfl rfl rfl rfl rfl ?_; intro w7 h5 h6)
      have h6' := h6.out
      have hkp : ∀ i, w2.heap.size ≤ i → i < wr.heap.size → w7.heap[i]? = wr.heap[i]? := fun i hi hk => h6'.block i hk (fun e => by injection e with e; have := K2z.out; omega)
      refine retE rfl rfl h5.out rfl ⟨_, rfl, ⟨HCN.out.1, HCN.out.2.1, HCN.out.2.2, A3, c3, A9, c9, by rw [HN3.out.1], ?_, by rw [HN3.out.1]; exact HN3.out.2.1, HN3.out.2.2, HRD.out.1, HRD.out.2.1, fun h => (by cases h), ?_⟩, ?_⟩
      · exact RB.out.keep h6'.size (fun i hi hk => hkp i hi.1 hk) (fun i hi hk => ⟨Nat.le_trans B2.out.size hi.1, Nat.lt_of_lt_of_le hk h6'.size⟩)
      · exact RdS.keep h6'.size (fun i hi hk => hkp i (Nat.le_trans HW3.out hi.1) hk) (fun i hi hk => ⟨Nat.le_trans B2.out.size (Nat.le_trans HW3.out hi.1), Nat.lt_of_lt_of_le hk h6'.size⟩) _ _ HRD.out.2.2
      · exact (B2.out.trans (BB.out.mono B2.out.size)).trans (only_below h6' (by have := HW.out.2; omega) (B2.out.trans (BB.out.mono B2.out.size)).size)
end Go.Proofs.Ytfbdeefeagednaa.Fl
