/-
  Layer 12: the program's clone: an element in new memory.
  Conditions: none beyond that the element is not too great for a machine.
-/
import Derived.Test.YtfbdeefeagednaaFlEn
import Derived.Test.YtfbdeefeagednaaFlO
namespace Go.Proofs.Ytfbdeefeagednaa.Fl
open Go.RowKit

theorem sml_mem {ss : List El} (h : smlS ss) {e : El} (he : e ∈ ss) : smlE e := by
  induction ss with
  | nil => simp at he
  | cons x ss ih =>
    rcases List.mem_cons.1 he with rfl | he
    · exact h.1
    · exact ih h.2 he
/-- Clip of what a call has built. -/
theorem clipO {b : Nat} {v : Value} {l : List Nat} {W : World} (h : OwB b v l W) : ∃ A N c, v = .slice A N c ∧ l.length = N ∧ RdX (fun i => b ≤ i) W A (cs8 l) ∧ N ≤ c ∧ c ≤ maxLen ∧ ∀ W', Calls Try.prog 66 #[.slice A N c] W' fun e w' => e = .returned (.slice A N N) ∧ Below W'.heap.size W' w' := by
  obtain ⟨A, N, c, rfl, hN, hr, hc, hm, hrx⟩ := h.opn
  refine ⟨A, N, c, rfl, hN, hrx, hc, hm, fun W' => ?_⟩
  rcases h.1.2 with ⟨h1, _⟩ | ⟨g, cap, cur, h1, _⟩
  · injection h1 with h1 h2 h3
    subst h1 h2 h3
    exact (clipB_nil W').mono fun e w' ⟨a, b⟩ => ⟨a, b ▸ Below.refl _ _⟩
  · injection h1 with h1 h2 h3
    subst h1
    exact (clipB g N c W' hc hm).mono fun e w' ⟨a, b⟩ => ⟨a, b ▸ Below.refl _ _⟩
theorem rx_up {b b' : Nat} {W : World} {A : Option Addr} {xs : List Value} (h : RdX (fun i => b ≤ i) W A xs) (hb : b' ≤ b) : RdX (fun i => b' ≤ i) W A xs := h.keep (Nat.le_refl _) (fun _ _ _ => rfl) (fun _ hi _ => Nat.le_trans hb hi)
theorem OwB.mono0 {b b' : Nat} {v : Value} {l : List Nat} {W : World} (h : OwB b v l W) (hb : b' ≤ b) : OwB b' v l W :=
  ⟨⟨h.1.1, h.1.2.imp id fun ⟨g, cap, cur, h1, h2, r⟩ => ⟨g, cap, cur, h1, Nat.le_trans hb h2, r⟩⟩, h.2⟩
theorem own_ne {b D : Nat} {v : Value} {l : List Nat} {W : World} {cs : List Value} (h : OwB b v l W) (K : Bk W D 29 cs) : ∀ g, v.ownBlock = some g → g ≠ D := by
  intro g hg e
  subst e
  rcases h.1.2 with ⟨rfl, _⟩ | ⟨g', cap, cur, rfl, _, hh, _⟩
  · cases hg
  · injection hg with hg
    subst hg
    unfold Bk at K
    rw [hh] at K
    injection K with K
    injection K with _ K
    exact absurd K (by decide)
theorem own_far {b D : Nat} {v : Value} {l : List Nat} {W W' : World} (h : OwB b v l W) (hne : ∀ g, v.ownBlock = some g → g ≠ D) (hf : ∀ i, i ≠ D → W'.heap[i]? = W.heap[i]?) : OwB b v l W' :=
  ⟨own_kept h.1 (fun g hg => hf g (hne g hg)), h.2⟩
/-- What a copy owns: its bytes' block and its Subs'. -/
def OwnE (b : Nat) : El → Value → World → Prop
  | .mk c n k bs ss, u, w => ∃ A N c3 B m, u = elV c n k (.slice A N N) (.slice B m m) ∧ bs.length = N ∧ ss.length = m ∧ OwB b (.slice A N c3) bs w ∧ (m = 0 ∨ ∃ g L, B = some ⟨g, 0, none⟩ ∧ b ≤ g ∧ Bk w g 29 L ∧ L.length = m * 5)
theorem infoEl : (Try.prog.info? 29).map (fun i => (i.zero, i.size, i.bytes)) = some (some (.agg #[.int .u8 0, .bool false, .int .u32 0, .slice none 0 0, .slice none 0 0]), 5, 56) := by kernel_rfl
theorem make_E (m : Nat) (hm : m ≤ 100000) (W : World) : ∃ L : List Value, L.length = m * 5 ∧ (Instr.makeSlice 27 (.int .i64 (m : Int)) (.int .i64 (m : Int))).run Try.prog W = .ok (.slice (some ⟨W.heap.size, 0, none⟩) m m) (W.alloc (.cells L.toArray 29)) := by
  obtain ⟨i, hi, hz0, hz1, hz2⟩ := info_parts infoEl
  have h := run_make (P := Try.prog) W 27 29 i _ Try.underlying27 hi hz0 .i64 .i64 (m : Int) (m : Int) (by omega) (Int.le_refl _) (by rw [hz2]; omega) (by omega)
  rw [hz1, Int.toNat_natCast] at h
  exact ⟨(madeCells _ (m * 5)).toList, by unfold madeCells; simp, by rw [h]⟩
theorem set5 {cs rs : List Value} {a0 a1 a2 a3 a4 v0 v1 v2 v3 v4 : Value} : ∀ {o : Nat}, cs.length = o → (((((cs ++ a0 :: a1 :: a2 :: a3 :: a4 :: rs).set o v0).set (o + 1) v1).set (o + 2) v2).set (o + 3) v3).set (o + 4) v4 = (cs ++ [v0, v1, v2, v3, v4]) ++ rs := by
  induction cs with
  | nil => intro o h; subst h; rfl
  | cons x cs ih =>
    intro o h
    obtain ⟨o, rfl⟩ : ∃ o', o = o' + 1 := ⟨o - 1, by simp at h; omega⟩
    have := ih (o := o) (by simpa using h)
    simp only [List.cons_append, List.set_cons_succ, Nat.add_right_comm o 1] at this ⊢
    rw [this]
/-- Five cells stored one behind the other. -/
theorem st5 {w0 W : World} {g o : Nat} {t : TypeId} {L : List Value} {v0 v1 v2 v3 v4 : Value} (K : Bk W g t L) (hb : Below w0.heap.size w0 W) (hg : w0.heap.size ≤ g) :
    Bk (((((W.setCell ⟨g, o, none⟩ v0).setCell ⟨g, o + 1, none⟩ v1).setCell ⟨g, o + 2, none⟩ v2).setCell ⟨g, o + 3, none⟩ v3).setCell ⟨g, o + 4, none⟩ v4) g t (((((L.set o v0).set (o + 1) v1).set (o + 2) v2).set (o + 3) v3).set (o + 4) v4) ∧
      Below w0.heap.size w0 (((((W.setCell ⟨g, o, none⟩ v0).setCell ⟨g, o + 1, none⟩ v1).setCell ⟨g, o + 2, none⟩ v2).setCell ⟨g, o + 3, none⟩ v3).setCell ⟨g, o + 4, none⟩ v4) :=
  ⟨((((K.store o _).store (o + 1) _).store (o + 2) _).store (o + 3) _).store (o + 4) _,
    ((((hb.setCell (p := ⟨g, o, none⟩) hg _).setCell (p := ⟨g, o + 1, none⟩) hg _).setCell (p := ⟨g, o + 2, none⟩) hg _).setCell (p := ⟨g, o + 3, none⟩) hg _).setCell (p := ⟨g, o + 4, none⟩) hg _⟩
theorem far5 (W : World) (g o : Nat) (v0 v1 v2 v3 v4 : Value) (i : Nat) (h : i ≠ g) : (((((W.setCell ⟨g, o, none⟩ v0).setCell ⟨g, o + 1, none⟩ v1).setCell ⟨g, o + 2, none⟩ v2).setCell ⟨g, o + 3, none⟩ v3).setCell ⟨g, o + 4, none⟩ v4).heap[i]? = W.heap[i]? := by
  rw [Below.heap_setCell _ _ _ _ (by exact h), Below.heap_setCell _ _ _ _ (by exact h), Below.heap_setCell _ _ _ _ (by exact h), Below.heap_setCell _ _ _ _ (by exact h), Below.heap_setCell _ _ _ _ (by exact h)]
theorem siz5 (W : World) (g o : Nat) (v0 v1 v2 v3 v4 : Value) : (((((W.setCell ⟨g, o, none⟩ v0).setCell ⟨g, o + 1, none⟩ v1).setCell ⟨g, o + 2, none⟩ v2).setCell ⟨g, o + 3, none⟩ v3).setCell ⟨g, o + 4, none⟩ v4).heap.size = W.heap.size := by
  rw [World.size_setCell, World.size_setCell, World.size_setCell, World.size_setCell, World.size_setCell]
theorem rx5 {W : World} {g b : Nat} {v0 v1 v2 v3 v4 : Value} {A : Option Addr} {xs : List Value} (h0 : RdX (fun i => b ≤ i) W A xs) (h : RdX (fun i => i ≠ g) W A xs) : RdX (fun i => b ≤ i ∧ i ≠ g) (((((W.setCell ⟨g, 0, none⟩ v0).setCell ⟨g, 0 + 1, none⟩ v1).setCell ⟨g, 0 + 2, none⟩ v2).setCell ⟨g, 0 + 3, none⟩ v3).setCell ⟨g, 0 + 4, none⟩ v4) A xs := fun hn => by
  obtain ⟨i, off, e, hi, hne, hc⟩ := h hn
  obtain ⟨i', off', e', _, hb, _⟩ := h0 hn
  rw [e] at e'
  injection e' with e'
  injection e' with e1 e2
  subst e1
  refine ⟨i, off, e, by rw [siz5]; exact hi, ⟨hb, hne⟩, fun j u hu => ?_⟩
  rw [← hc j u hu]
  exact World.cell?_of_block (far5 _ _ _ _ _ _ _ _ _ hne)
set_option linter.unusedSimpArgs false in
set_option maxHeartbeats 4000000 in
set_option maxRecDepth 100000 in
theorem clone_any {x : Bool} {S : Nat → Prop} (e : El) : ∀ (v : Value) (w : World), RdE x S w e v → smlE e →
    Calls Try.prog 44 #[v] w fun r w' => ∃ u, r = .returned u ∧ RdE true (fun i => w.heap.size ≤ i ∧ i < w'.heap.size) w' e u ∧ OwnE w.heap.size e u w' ∧ Below w.heap.size w w' := by
  refine El.ind (P := fun e => ∀ (v : Value) (w : World), RdE x S w e v → smlE e →
    Calls Try.prog 44 #[v] w fun r w' => ∃ u, r = .returned u ∧ RdE true (fun i => w.heap.size ≤ i ∧ i < w'.heap.size) w' e u ∧ OwnE w.heap.size e u w' ∧ Below w.heap.size w w') ?_ e
  clear e
  intro c n k bs ss ih v w h hsm
  obtain ⟨h1, h2, h3, A, ca, B, cb, rfl, h5, h6, h7, h8, h9, h10, h11⟩ := h
  rw [smlE] at hsm
  obtain ⟨bl, hbl⟩ : ∃ bl, bs.length = bl := ⟨_, rfl⟩
  obtain ⟨m, hmm⟩ : ∃ m, ss.length = m := ⟨_, rfl⟩
  rw [hbl, hmm] at hsm ⊢
  obtain ⟨G, hG⟩ : ∃ G, w.heap.size = G := ⟨_, rfl⟩
  obtain ⟨w1, hw1⟩ : ∃ v, w.alloc (.cells #[.int .u8 (c : Int), .bool k, .int .u32 (n : Int), .slice A bl ca, .slice B m cb] 29) = v := ⟨_, rfl⟩
  obtain ⟨w2, hw2⟩ : ∃ v, w1.alloc (.cells #[.int .u8 0, .bool false, .int .u32 0, .slice none 0 0, .slice none 0 0] 29) = v := ⟨_, rfl⟩
  have b1 : Below w.heap.size w w1 := by rw [← hw1]; exact bel1 _ _
  have b2 : Below w1.heap.size w1 w2 := by rw [← hw2]; exact bel1 _ _
  have z1 : w1.heap.size = G + 1 := by rw [← hw1, World.size_alloc, hG]
  have k1 : Bk w1 G 29 [.int .u8 (c : Int), .bool k, .int .u32 (n : Int), .slice A bl ca, .slice B m cb] := by rw [← hw1, ← hG]; exact Bk.new w _ [_, _, _, _, _]
  have k2 : Bk w2 (G + 1) 29 [.int .u8 0, .bool false, .int .u32 0, .slice none 0 0, .slice none 0 0] := by rw [← hw2, ← z1]; exact Bk.new w1 _ [_, _, _, _, _]
  rw [← hw1] at hw2
  have K1 := kt (Lib.hid k1) (Lib.hid b2)
  have K2 := Lib.hid k2
  have B2 := bt (Lib.hid b1) (Lib.hid b2)
  have RA : Hid (Rb w2 A bs) := Lib.hid (⟨h5.rd.below B2.out, h3⟩)
  have RS := Lib.hid (h11.stay B2.out)
  have HW := Lib.hid (And.intro hw2 hG)
  have K2z : Hid (G + 1 < w2.heap.size) := Lib.hid k2.lt
  have HBL := Lib.hid hbl
  have HMM := Lib.hid hmm
  have HBM := Lib.hid hsm.1
  have HSM := Lib.hid hsm.2
  have HIH := Lib.hid ih
  have HCN := Lib.hid (And.intro h1 (And.intro h2 h3))
  have hm100 : m ≤ 100000 := hsm.2.1
  clear ih h1 h2 h3 h5 h6 h7 h8 h9 h10 h11 hsm hbl hmm hG hw1 hw2 b1 b2 z1 k1 k2
  go_enter Try.func44, Try.ntmps44
  go_upto_region 1 with fail
  rw [HW.out.1, HW.out.2]
  have HSR := Lib.hid (show ∀ W, Below w2.heap.size w2 W → W.cell? ⟨G, 0, none⟩ = some (.int .u8 (c : Int)) ∧ W.cell? ⟨G, 1, none⟩ = some (.bool k) ∧ W.cell? ⟨G, 2, none⟩ = some (.int .u32 (n : Int)) ∧ W.cell? ⟨G, 3, none⟩ = some (.slice A bl ca) ∧ Below w2.heap.size w2 W from fun W hW => ⟨(hW.cell (p := ⟨G, 0, none⟩) K1.out.lt).trans (K1.out.cell 0), (hW.cell (p := ⟨G, 1, none⟩) K1.out.lt).trans (K1.out.cell 1), (hW.cell (p := ⟨G, 2, none⟩) K1.out.lt).trans (K1.out.cell 2), (hW.cell (p := ⟨G, 3, none⟩) K1.out.lt).trans (K1.out.cell 3), hW⟩)
  go_cut [3] (fun z wx => ∃ A3 N3 c3 D, z = .pointer (some ⟨D, 0, none⟩) ∧ w2.heap.size ≤ D ∧ bs.length = N3 ∧ Bk wx D 29 [.int .u8 (c : Int), .bool k, .int .u32 (n : Int), .slice A3 N3 N3, .slice none 0 0] ∧ RdX (fun i => w2.heap.size ≤ i ∧ i ≠ D) wx A3 (cs8 bs) ∧ OwB w2.heap.size (.slice A3 N3 c3) bs wx ∧ Below w2.heap.size w2 wx)
  case first =>
    refine wp_region_held_drew (S := fun W => W.cell? ⟨G, 0, none⟩ = some (.int .u8 (c : Int)) ∧ W.cell? ⟨G, 1, none⟩ = some (.bool k) ∧ W.cell? ⟨G, 2, none⟩ = some (.int .u32 (n : Int)) ∧ W.cell? ⟨G, 3, none⟩ = some (.slice A bl ca) ∧ Below w2.heap.size w2 W) (by kernel_rfl) (HSR.out _ (Below.refl w2.heap.size w2).drew) (fun hS => ?_)
    obtain ⟨wd, hwd⟩ : ∃ v, w2.drew = v := ⟨_, rfl⟩
    have d0 : Below w2.heap.size w2 wd := by rw [← hwd]; exact (Below.refl w2.heap.size w2).drew
    have RAx := Lib.hid (RA.out.below d0)
    rw [hwd] at hS ⊢
    clear hwd
    refine wpAnyH_take (i := 0) (oi := ⟨some 6, _, _, _, _, _⟩) (v := .pointer (some ⟨G, 0, none⟩)) rfl (by kernel_rfl) (by kernel_rfl) (by kernel_rfl) (fun _ _ _ h => h) (Or.inl ⟨by rfl, fun w _ => by go_simp⟩) hS ?_
    (try simp only [Act.put, List.setIfInBounds_toArray, List.set_cons_zero, List.set_cons_succ])
    refine wpAnyH_take (i := 2) (oi := ⟨some 8, _, _, _, _, _⟩) (v := .pointer (some ⟨G, 3, none⟩)) rfl (by kernel_rfl) (by kernel_rfl) (by kernel_rfl) (fun _ _ _ h => h) (Or.inl ⟨by rfl, fun w _ => by go_simp⟩) hS ?_
    (try simp only [Act.put, List.setIfInBounds_toArray, List.set_cons_zero, List.set_cons_succ])
    refine wpAnyH_take (i := 1) (oi := ⟨some 7, _, _, _, _, _⟩) (v := .agg #[.int .u8 (c : Int), .bool k, .int .u32 (n : Int)]) rfl (by kernel_rfl) (by kernel_rfl) (by kernel_rfl) (fun _ _ _ h => h) (Or.inl ⟨by rfl, fun w hSw => by (try obtain ⟨s1, s2, s3, s4, s5⟩ := hSw); go_simp⟩) hS ?_
    (try simp only [Act.put, List.setIfInBounds_toArray, List.set_cons_zero, List.set_cons_succ])
    refine wpAnyH_take (i := 3) (oi := ⟨some 9, _, _, _, _, _⟩) (v := .slice A bl ca) rfl (by kernel_rfl) (by kernel_rfl) (by kernel_rfl) (fun _ _ _ h => h) (Or.inl ⟨by rfl, fun w hSw => by (try obtain ⟨s1, s2, s3, s4, s5⟩ := hSw); go_simp⟩) hS ?_
    (try simp only [Act.put, List.setIfInBounds_toArray, List.set_cons_zero, List.set_cons_succ])
    refine wpAnyH_ready (rs := [4, 7]) (by kernel_rfl) (by simp) ?_
    refine AllReadyH.cons (o := _) rfl (fun K hK => ?_) (AllReadyH.cons (o := _) rfl (fun K hK => ?_) (AllReadyH.nil))
    · obtain ⟨v4, wP, hrun, ho, hv, _⟩ := ap8 ca (OwB.nil wd wd.heap.size) RAx.out HBL.out (Nat.le_refl _) (by simp; exact Nat.le_trans HBM.out (by decide))
      obtain ⟨A3, N3, c3, rfl, hN3, hR3, hc3, hm3, hcl⟩ := clipO ho
      rw [List.nil_append] at hR3 hN3 ho
      refine step_app rfl _ (.tmp 9) _ _ rfl _ _ rfl rfl hrun ?_
      have HN3 := Lib.hid hN3
      have HCL := Lib.hid hcl
      have HO := Lib.hid (OwB.mono0 ho d0.size)
      have RB := Lib.hid (rx_up hR3 d0.size)
      have d1 : Below w2.heap.size w2 wP := d0.trans (hv.mono d0.size)
      replace RAx := Lib.hid (RAx.out.below hv)
      clear hv hR3 hrun ho hN3 hc3 hm3 hcl
      refine hK.out _ _ (HSR.out _ d1) (fun hS9 => ?_)
      clear hK K hS
      have hS := hS9
      clear hS9
      (try simp only [Act.put, List.setIfInBounds_toArray, List.set_cons_zero, List.set_cons_succ])
      refine wpAnyH_ready (rs := [5, 7]) (by kernel_rfl) (by simp) ?_
      refine AllReadyH.cons (o := _) rfl (fun K hK => ?_) (AllReadyH.cons (o := _) rfl (fun K hK => ?_) (AllReadyH.nil))
      · go_simp
        refine (HCL.out _).mono ?_
        rintro e wC5 ⟨rfl, hv⟩
        have d2 : Below w2.heap.size w2 wC5 := d1.trans (hv.mono d1.size)
        replace RAx := Lib.hid (RAx.out.below hv)
        replace RB := Lib.hid (RdX.belowX RB.out hv)
        replace HO := Lib.hid (HO.out.below hv)
        clear hv
        refine hK.out _ _ (HSR.out _ d2) (fun hS9 => ?_)
        clear hK K hS
        have hS := hS9
        clear hS9
        (try simp only [Act.put, List.setIfInBounds_toArray, List.set_cons_zero, List.set_cons_succ])
        refine wpAnyH_take (i := 6) (oi := ⟨some 12, _, _, _, _, _⟩) (v := .agg #[.int .u8 (c : Int), .bool k, .int .u32 (n : Int), .slice A3 N3 N3, .slice none 0 0]) rfl (by kernel_rfl) (by kernel_rfl) (by kernel_rfl) (fun _ _ _ h => h) (Or.inl ⟨by rfl, fun w _ => by go_simp⟩) hS ?_
        (try simp only [Act.put, List.setIfInBounds_toArray, List.set_cons_zero, List.set_cons_succ])
        refine wpAnyH_ready (rs := [7]) (by kernel_rfl) (by simp) ?_
        refine AllReadyH.cons (o := _) rfl (fun K hK => ?_) (AllReadyH.nil)
        go_simp
        obtain ⟨wA7, hwwA7⟩ : ∃ v, wC5.alloc (.cells #[.int .u8 0, .bool false, .int .u32 0, .slice none 0 0, .slice none 0 0] 29) = v := ⟨_, rfl⟩
        have hA7 : Below wC5.heap.size wC5 wA7 := by rw [← hwwA7]; exact bel1 _ _
        obtain ⟨D, hD⟩ : ∃ g, wC5.heap.size = g := ⟨_, rfl⟩
        have KD := Lib.hid (show Bk wA7 D 29 [.int .u8 0, .bool false, .int .u32 0, .slice none 0 0, .slice none 0 0] by rw [← hwwA7, ← hD]; exact Bk.new wC5 _ [_, _, _, _, _])
        have GD := Lib.hid (show w2.heap.size ≤ D by rw [← hD]; exact d2.size)
        rw [hwwA7, hD]
        have LRBD := Lib.hid (show RdX (fun i => i ≠ D) wC5 _ _ from fun hn => by obtain ⟨b, off, e, hb, _, hc⟩ := RB.out hn; exact ⟨b, off, e, hb, by rw [← hD]; omega, hc⟩)
        have d3 : Below w2.heap.size w2 wA7 := d2.trans (hA7.mono d2.size)
        replace RAx := Lib.hid (RAx.out.below hA7)
        replace RB := Lib.hid (RdX.belowX RB.out hA7)
        replace HO := Lib.hid (HO.out.below hA7)
        replace LRBD := Lib.hid (RdX.belowX LRBD.out hA7)
        clear hwwA7 hD hA7
        refine hK.out _ _ (HSR.out _ d3) (fun hS9 => ?_)
        clear hK K hS
        have hS := hS9
        clear hS9
        (try simp only [Act.put, List.setIfInBounds_toArray, List.set_cons_zero, List.set_cons_succ])
        refine wpAnyH_ready (rs := [8]) (by kernel_rfl) (by simp) ?_
        refine AllReadyH.cons (o := _) rfl (fun K hK => ?_) (AllReadyH.nil)
        obtain ⟨k0, k1, k2, k3, k4, kz⟩ := KD.out.five
        obtain ⟨y0, y1, y2, y3, y4⟩ := KD.out.free5
        go_simp
        have hst := st5 (o := 0) (v0 := .int .u8 (c : Int)) (v1 := .bool k) (v2 := .int .u32 (n : Int)) (v3 := .slice A3 N3 N3) (v4 := .slice none 0 0) KD.out d3 GD.out
        refine hK.out _ _ (HSR.out _ hst.2) (fun hS9 => ?_)
        clear hK K hS
        have hS := hS9
        clear hS9
        (try simp only [Act.put, List.setIfInBounds_toArray, List.set_cons_zero, List.set_cons_succ])
        refine wpAnyH_done (by kernel_rfl) ?_ _
        clear hS
        clear k0 k1 k2 k3 k4 kz y0 y1 y2 y3 y4
        have HST := Lib.hid hst
        clear hst
        go_wp2_with fail
        go_meet
        exact ⟨A3, N3, c3, D, rfl, GD.out, HN3.out, HST.out.1, rx5 RB.out LRBD.out, own_far HO.out (own_ne HO.out KD.out) (fun i hi => far5 _ _ _ _ _ _ _ _ i hi), HST.out.2⟩
      · go_simp
        obtain ⟨wA7, hwwA7⟩ : ∃ v, wP.alloc (.cells #[.int .u8 0, .bool false, .int .u32 0, .slice none 0 0, .slice none 0 0] 29) = v := ⟨_, rfl⟩
        have hA7 : Below wP.heap.size wP wA7 := by rw [← hwwA7]; exact bel1 _ _
        obtain ⟨D, hD⟩ : ∃ g, wP.heap.size = g := ⟨_, rfl⟩
        have KD := Lib.hid (show Bk wA7 D 29 [.int .u8 0, .bool false, .int .u32 0, .slice none 0 0, .slice none 0 0] by rw [← hwwA7, ← hD]; exact Bk.new wP _ [_, _, _, _, _])
        have GD := Lib.hid (show w2.heap.size ≤ D by rw [← hD]; exact d1.size)
        rw [hwwA7, hD]
        have LRBD := Lib.hid (show RdX (fun i => i ≠ D) wP _ _ from fun hn => by obtain ⟨b, off, e, hb, _, hc⟩ := RB.out hn; exact ⟨b, off, e, hb, by rw [← hD]; omega, hc⟩)
        have d2 : Below w2.heap.size w2 wA7 := d1.trans (hA7.mono d1.size)
        replace RAx := Lib.hid (RAx.out.below hA7)
        replace RB := Lib.hid (RdX.belowX RB.out hA7)
        replace HO := Lib.hid (HO.out.below hA7)
        replace LRBD := Lib.hid (RdX.belowX LRBD.out hA7)
        clear hwwA7 hD hA7
        refine hK.out _ _ (HSR.out _ d2) (fun hS9 => ?_)
        clear hK K hS
        have hS := hS9
        clear hS9
        (try simp only [Act.put, List.setIfInBounds_toArray, List.set_cons_zero, List.set_cons_succ])
        refine wpAnyH_ready (rs := [5]) (by kernel_rfl) (by simp) ?_
        refine AllReadyH.cons (o := _) rfl (fun K hK => ?_) (AllReadyH.nil)
        go_simp
        refine (HCL.out _).mono ?_
        rintro e wC5 ⟨rfl, hv⟩
        have d3 : Below w2.heap.size w2 wC5 := d2.trans (hv.mono d2.size)
        replace RAx := Lib.hid (RAx.out.below hv)
        replace RB := Lib.hid (RdX.belowX RB.out hv)
        replace HO := Lib.hid (HO.out.below hv)
        replace LRBD := Lib.hid (RdX.belowX LRBD.out hv)
        replace KD := Lib.hid (KD.out.below hv KD.out.lt)
        clear hv
        refine hK.out _ _ (HSR.out _ d3) (fun hS9 => ?_)
        clear hK K hS
        have hS := hS9
        clear hS9
        (try simp only [Act.put, List.setIfInBounds_toArray, List.set_cons_zero, List.set_cons_succ])
        refine wpAnyH_take (i := 6) (oi := ⟨some 12, _, _, _, _, _⟩) (v := .agg #[.int .u8 (c : Int), .bool k, .int .u32 (n : Int), .slice A3 N3 N3, .slice none 0 0]) rfl (by kernel_rfl) (by kernel_rfl) (by kernel_rfl) (fun _ _ _ h => h) (Or.inl ⟨by rfl, fun w _ => by go_simp⟩) hS ?_
        (try simp only [Act.put, List.setIfInBounds_toArray, List.set_cons_zero, List.set_cons_succ])
        refine wpAnyH_ready (rs := [8]) (by kernel_rfl) (by simp) ?_
        refine AllReadyH.cons (o := _) rfl (fun K hK => ?_) (AllReadyH.nil)
        obtain ⟨k0, k1, k2, k3, k4, kz⟩ := KD.out.five
        obtain ⟨y0, y1, y2, y3, y4⟩ := KD.out.free5
        go_simp
        have hst := st5 (o := 0) (v0 := .int .u8 (c : Int)) (v1 := .bool k) (v2 := .int .u32 (n : Int)) (v3 := .slice A3 N3 N3) (v4 := .slice none 0 0) KD.out d3 GD.out
        refine hK.out _ _ (HSR.out _ hst.2) (fun hS9 => ?_)
        clear hK K hS
        have hS := hS9
        clear hS9
        (try simp only [Act.put, List.setIfInBounds_toArray, List.set_cons_zero, List.set_cons_succ])
        refine wpAnyH_done (by kernel_rfl) ?_ _
        clear hS
        clear k0 k1 k2 k3 k4 kz y0 y1 y2 y3 y4
        have HST := Lib.hid hst
        clear hst
        go_wp2_with fail
        go_meet
        exact ⟨A3, N3, c3, D, rfl, GD.out, HN3.out, HST.out.1, rx5 RB.out LRBD.out, own_far HO.out (own_ne HO.out KD.out) (fun i hi => far5 _ _ _ _ _ _ _ _ i hi), HST.out.2⟩
    · go_simp
      obtain ⟨wA7, hwwA7⟩ : ∃ v, wd.alloc (.cells #[.int .u8 0, .bool false, .int .u32 0, .slice none 0 0, .slice none 0 0] 29) = v := ⟨_, rfl⟩
      have hA7 : Below wd.heap.size wd wA7 := by rw [← hwwA7]; exact bel1 _ _
      obtain ⟨D, hD⟩ : ∃ g, wd.heap.size = g := ⟨_, rfl⟩
      have KD := Lib.hid (show Bk wA7 D 29 [.int .u8 0, .bool false, .int .u32 0, .slice none 0 0, .slice none 0 0] by rw [← hwwA7, ← hD]; exact Bk.new wd _ [_, _, _, _, _])
      have GD := Lib.hid (show w2.heap.size ≤ D by rw [← hD]; exact d0.size)
      rw [hwwA7, hD]
      have d1 : Below w2.heap.size w2 wA7 := d0.trans (hA7.mono d0.size)
      replace RAx := Lib.hid (RAx.out.below hA7)
      clear hwwA7 hD hA7
      refine hK.out _ _ (HSR.out _ d1) (fun hS9 => ?_)
      clear hK K hS
      have hS := hS9
      clear hS9
      (try simp only [Act.put, List.setIfInBounds_toArray, List.set_cons_zero, List.set_cons_succ])
      refine wpAnyH_ready (rs := [4]) (by kernel_rfl) (by simp) ?_
      refine AllReadyH.cons (o := _) rfl (fun K hK => ?_) (AllReadyH.nil)
      obtain ⟨v4, wP, hrun, ho, hv, _⟩ := ap8 ca (OwB.nil wA7 wA7.heap.size) RAx.out HBL.out (Nat.le_refl _) (by simp; exact Nat.le_trans HBM.out (by decide))
      obtain ⟨A3, N3, c3, rfl, hN3, hR3, hc3, hm3, hcl⟩ := clipO ho
      rw [List.nil_append] at hR3 hN3 ho
      refine step_app rfl _ (.tmp 9) _ _ rfl _ _ rfl rfl hrun ?_
      have HN3 := Lib.hid hN3
      have HCL := Lib.hid hcl
      have HO := Lib.hid (OwB.mono0 ho d1.size)
      have RB := Lib.hid (rx_up hR3 d1.size)
      have LRBD := Lib.hid (show RdX (fun i => i ≠ D) wP _ _ from fun hn => by obtain ⟨b, off, e, hb, hs, hc⟩ := hR3 hn; exact ⟨b, off, e, hb, by have := KD.out.lt; omega, hc⟩)
      have d2 : Below w2.heap.size w2 wP := d1.trans (hv.mono d1.size)
      replace RAx := Lib.hid (RAx.out.below hv)
      replace KD := Lib.hid (KD.out.below hv KD.out.lt)
      clear hv hR3 hrun ho hN3 hc3 hm3 hcl
      refine hK.out _ _ (HSR.out _ d2) (fun hS9 => ?_)
      clear hK K hS
      have hS := hS9
      clear hS9
      (try simp only [Act.put, List.setIfInBounds_toArray, List.set_cons_zero, List.set_cons_succ])
      refine wpAnyH_ready (rs := [5]) (by kernel_rfl) (by simp) ?_
      refine AllReadyH.cons (o := _) rfl (fun K hK => ?_) (AllReadyH.nil)
      go_simp
      refine (HCL.out _).mono ?_
      rintro e wC5 ⟨rfl, hv⟩
      have d3 : Below w2.heap.size w2 wC5 := d2.trans (hv.mono d2.size)
      replace RAx := Lib.hid (RAx.out.below hv)
      replace KD := Lib.hid (KD.out.below hv KD.out.lt)
      replace RB := Lib.hid (RdX.belowX RB.out hv)
      replace HO := Lib.hid (HO.out.below hv)
      replace LRBD := Lib.hid (RdX.belowX LRBD.out hv)
      clear hv
      refine hK.out _ _ (HSR.out _ d3) (fun hS9 => ?_)
      clear hK K hS
      have hS := hS9
      clear hS9
      (try simp only [Act.put, List.setIfInBounds_toArray, List.set_cons_zero, List.set_cons_succ])
      refine wpAnyH_take (i := 6) (oi := ⟨some 12, _, _, _, _, _⟩) (v := .agg #[.int .u8 (c : Int), .bool k, .int .u32 (n : Int), .slice A3 N3 N3, .slice none 0 0]) rfl (by kernel_rfl) (by kernel_rfl) (by kernel_rfl) (fun _ _ _ h => h) (Or.inl ⟨by rfl, fun w _ => by go_simp⟩) hS ?_
      (try simp only [Act.put, List.setIfInBounds_toArray, List.set_cons_zero, List.set_cons_succ])
      refine wpAnyH_ready (rs := [8]) (by kernel_rfl) (by simp) ?_
      refine AllReadyH.cons (o := _) rfl (fun K hK => ?_) (AllReadyH.nil)
      obtain ⟨k0, k1, k2, k3, k4, kz⟩ := KD.out.five
      obtain ⟨y0, y1, y2, y3, y4⟩ := KD.out.free5
      go_simp
      have hst := st5 (o := 0) (v0 := .int .u8 (c : Int)) (v1 := .bool k) (v2 := .int .u32 (n : Int)) (v3 := .slice A3 N3 N3) (v4 := .slice none 0 0) KD.out d3 GD.out
      refine hK.out _ _ (HSR.out _ hst.2) (fun hS9 => ?_)
      clear hK K hS
      have hS := hS9
      clear hS9
      (try simp only [Act.put, List.setIfInBounds_toArray, List.set_cons_zero, List.set_cons_succ])
      refine wpAnyH_done (by kernel_rfl) ?_ _
      clear hS
      clear k0 k1 k2 k3 k4 kz y0 y1 y2 y3 y4
      have HST := Lib.hid hst
      clear hst
      go_wp2_with fail
      go_meet
      exact ⟨A3, N3, c3, D, rfl, GD.out, HN3.out, HST.out.1, rx5 RB.out LRBD.out, own_far HO.out (own_ne HO.out KD.out) (fun i hi => far5 _ _ _ _ _ _ _ _ i hi), HST.out.2⟩
  case rest =>
    obtain ⟨A3, N3, c3, D, rfl, hD, hN3, hkd, hrx, hob, hbx⟩ := hcut
    generalize wc = w3 at *
    have KD := Lib.hid hkd
    have RB := Lib.hid hrx
    have OB := Lib.hid hob
    have HD := Lib.hid hD
    have HN3 := Lib.hid hN3
    have BB := Lib.hid hbx
    have K1x := kt K1 BB
    have K2x := kt K2 BB
    have RS0 := RS
    clear hkd hrx hob hD hN3 hbx HSR K1 K2 RS RA
    obtain ⟨e0, e1, e2, e3, e4, ez⟩ := K1x.out.five
    by_cases hm0 : m = 0
    · subst hm0
      have hnil : ss = [] := List.eq_nil_of_length_eq_zero HMM.out
      subst hnil
      go_wp2_with fail
      clear e0 e1 e2 e3 e4 ez
      go_loopw [4, 5, 25] (fun _ _ i wr => i = .int .i64 0 ∧ wr = w3) (fun _ _ _ _ => 0)
      case atStart => exact ⟨rfl, rfl⟩
      case round =>
      obtain ⟨rfl, hwr⟩ := hrel
      subst hwr
      obtain ⟨q0, q1, q2, q3, q4, qz⟩ := KD.out.five
      go_wp2_with (refine storeE rfl _ _ rfl rfl rfl K2x.out rfl rfl rfl rfl rfl ?_; intro w5 h5 h6)
      refine retE rfl rfl h5.out rfl ⟨_, rfl, ⟨HCN.out.1, HCN.out.2.1, HCN.out.2.2, A3, N3, none, 0, by rw [HN3.out]; rfl, ?_, by rw [HN3.out]; exact Nat.le_refl _, by rw [← HN3.out, HBL.out]; have := HBM.out; unfold maxLen; omega, Nat.le_refl _, Nat.zero_le _, fun _ => ⟨HN3.out.symm, rfl⟩, trivial⟩, ⟨A3, N3, c3, none, 0, rfl, HN3.out, rfl, ⟨own_kept (OB.out.mono0 B2.out.size).1 (fun g hg => h6.out.block g (OB.out.1.lt g hg).2 (fun e => by injection e with e; have := (OB.out.1.lt g hg).1; have := K2z.out; omega)), OB.out.2⟩, .inl rfl⟩, ?_⟩
      · have h6' := h6.out
        refine RB.out.keep h6'.size (fun i hi hk => h6'.block i hk (fun e => ?_)) (fun i hi hk => ⟨Nat.le_trans B2.out.size hi.1, Nat.lt_of_lt_of_le hk h6'.size⟩)
        injection e with e
        have h7 := K2z.out
        have := hi.1
        omega
      · exact (B2.out.trans (BB.out.mono B2.out.size)).trans (only_below h6.out (by have := HW.out.2; omega) (B2.out.trans (BB.out.mono B2.out.size)).size)
    · have h0m : 0 < m := Nat.pos_of_ne_zero hm0
      have t0 : decide (0 < m) = true := decide_eq_true h0m
      obtain ⟨gS, hgS⟩ : ∃ g, w3.heap.size = g := ⟨_, rfl⟩
      obtain ⟨L, hL, hmk⟩ := make_E m hm100 w3
      obtain ⟨ob, hob⟩ : ∃ o, Obj.cells L.toArray 29 = o := ⟨_, rfl⟩
      rw [hob, hgS] at hmk
      have kd4 : w3.cell? ⟨D, 4, none⟩ = some (.slice none 0 0) := KD.out.cell 4
      have fd4 : w3.frozen? ⟨D, 4, none⟩ = false := KD.out.free 4
      obtain ⟨w4, hw4⟩ : ∃ v, (w3.setCell ⟨D, 4, none⟩ (.slice (some ⟨gS, 0, none⟩) m m)).alloc ob = v := ⟨_, rfl⟩
      have hDS : D < gS := by rw [← hgS]; exact KD.out.lt
      have h2S : w2.heap.size ≤ gS := by rw [← hgS]; exact BB.out.size
      have KD4 : Hid (Bk w4 D 29 [.int .u8 (c : Int), .bool k, .int .u32 (n : Int), .slice A3 N3 N3, .slice (some ⟨gS, 0, none⟩) m m]) := Lib.hid (by rw [← hw4]; exact (KD.out.store 4 _).alloc _)
      have KS4 : Hid (Bk w4 gS 29 L) := Lib.hid (by
        have := Bk.new (w3.setCell ⟨D, 4, none⟩ (.slice (some ⟨gS, 0, none⟩) m m)) 29 L
        rw [World.size_setCell, hgS] at this
        rw [← hw4, ← hob]; exact this)
      have hal : ∀ i, i ≠ D → i < w3.heap.size → w4.heap[i]? = w3.heap[i]? := fun i hi hk => by
        rw [← hw4, (bel1 (w3.setCell ⟨D, 4, none⟩ (.slice (some ⟨gS, 0, none⟩) m m)) ob).block i (by rw [World.size_setCell]; exact hk)]
        exact Below.heap_setCell _ _ _ _ (by exact hi)
      have hz4 : w3.heap.size ≤ w4.heap.size := by rw [← hw4, World.size_alloc, World.size_setCell]; omega
      have RB4 : Hid (RdX (fun i => w2.heap.size ≤ i ∧ i ≠ D ∧ i ≠ gS) w4 A3 (cs8 bs)) := Lib.hid (RB.out.keep hz4 (fun i hi hk => hal i hi.2 hk) (fun i hi hk => ⟨hi.1, hi.2, by omega⟩))
      have K24 : Hid (Bk w4 (G + 1) 29 [.int .u8 0, .bool false, .int .u32 0, .slice none 0 0, .slice none 0 0]) := Lib.hid (by unfold Bk; rw [hal (G + 1) (by have := HD.out; have := K2z.out; omega) K2x.out.lt]; exact K2x.out)
      have BB4 : Hid (Below w2.heap.size w2 w4) := Lib.hid (by rw [← hw4]; exact (BB.out.setCell (p := ⟨D, 4, none⟩) HD.out _).alloc (by rw [World.size_setCell]; exact BB.out.size) _)
      have K14 : Hid (Bk w4 G 29 [.int .u8 (c : Int), .bool k, .int .u32 (n : Int), .slice A bl ca, .slice B m cb]) := Lib.hid (by unfold Bk; rw [hal G (by have := HD.out; have := K2z.out; omega) K1x.out.lt]; exact K1x.out)
      have OB4 : Hid (OwB w2.heap.size (.slice A3 N3 c3) bs w4) := Lib.hid ⟨own_kept OB.out.1 (fun g hg => hal g (own_ne OB.out KD.out g hg) (OB.out.1.lt g hg).2), OB.out.2⟩
      have HGS := Lib.hid (And.intro hDS h2S)
      have HLL := Lib.hid hL
      go_upto_region 4 with fail
      clear hmk hob hw4 kd4 fd4 hal hz4 hDS h2S hgS hL e0 e1 e2 e3 e4 ez KD K2x K1x RB BB t0 OB
      obtain ⟨e0, e1, e2, e3, e4, ez⟩ := K14.out.five
      go_wp2_with fail
      clear e0 e1 e2 e3 e4 ez K14
      go_loopw [4, 5, 25] (fun _ _ i wr => ∃ (p : Nat) (cs rs : List Value), i = .int .i64 (p : Int) ∧ p ≤ m ∧ cs.length = p * 5 ∧ rs.length = (m - p) * 5 ∧ Bk wr gS 29 (cs ++ rs) ∧ RowE true (fun i => w2.heap.size ≤ i ∧ i ≠ D ∧ i ≠ gS) wr (ss.take p) cs ∧ Bk wr D 29 [.int .u8 (c : Int), .bool k, .int .u32 (n : Int), .slice A3 N3 N3, .slice (some ⟨gS, 0, none⟩) m m] ∧ RdX (fun i => w2.heap.size ≤ i ∧ i ≠ D ∧ i ≠ gS) wr A3 (cs8 bs) ∧ Bk wr (G + 1) 29 [.int .u8 0, .bool false, .int .u32 0, .slice none 0 0, .slice none 0 0] ∧ OwB w2.heap.size (.slice A3 N3 c3) bs wr ∧ Below w2.heap.size w2 wr) (fun _ _ i _ => m - (intOf i).toNat)
      case atStart => exact ⟨0, [], L, rfl, Nat.zero_le _, rfl, by rw [HLL.out]; rfl, KS4.out, rfl, KD4.out, RB4.out, K24.out, OB4.out, BB4.out⟩
      case round =>
      clear KS4 KD4 RB4 K24 BB4 OB4
      obtain ⟨p, cs, rs, rfl, hp, hcs, hrs, hks, hrow, hkd, hrb, hk2, hob, hbl⟩ := hrel
      have KS := Lib.hid hks
      have RW := Lib.hid hrow
      have KD := Lib.hid hkd
      have RB := Lib.hid hrb
      have K2 := Lib.hid hk2
      have OB := Lib.hid hob
      have BB := Lib.hid hbl
      have HCS := Lib.hid hcs
      have HRS := Lib.hid hrs
      have HP := Lib.hid hp
      clear hks hrow hkd hrb hk2 hob hbl hcs hrs hp
      by_cases hlt : p < m
      · have hlt' : p < ss.length := by rw [HMM.out]; exact hlt
        obtain ⟨b, off, c', n', k', A1, l1, q1, A2, l2, q2, rfl, hb, _, f0, f1, f2, f3, f4, hE⟩ := (RS0.out.stay BB.out).fives hlt'
        have hmt := List.getElem_mem hlt'
        have htk : ss.take (p + 1) = ss.take p ++ [ss[p]] := List.take_succ_eq_append_getElem hlt'
        have hsm := sml_mem HSM.out.2 hmt
        obtain ⟨E, hEq⟩ : ∃ E, ss[p] = E := ⟨_, rfl⟩
        rw [hEq] at hE hmt htk hsm
        obtain ⟨a0, a1, a2, a3, a4, rs', hrs'⟩ : ∃ a0 a1 a2 a3 a4 rs', rs = a0 :: a1 :: a2 :: a3 :: a4 :: rs' := by
          have h := HRS.out
          rcases rs with _ | ⟨a0, _ | ⟨a1, _ | ⟨a2, _ | ⟨a3, _ | ⟨a4, rs'⟩⟩⟩⟩⟩
          · simp only [List.length_nil] at h; omega
          · simp only [List.length_cons, List.length_nil] at h; omega
          · simp only [List.length_cons, List.length_nil] at h; omega
          · simp only [List.length_cons, List.length_nil] at h; omega
          · simp only [List.length_cons, List.length_nil] at h; omega
          · exact ⟨_, _, _, _, _, _, rfl⟩
        subst hrs'
        have HRS2 : Hid (rs'.length = (m - (p + 1)) * 5) := Lib.hid (by have := HRS.out; simp only [List.length_cons] at this; omega)
        have HTK := Lib.hid htk
        have HC := Lib.hid fun (W : World) (hb : Below wr.heap.size wr W) => HIH.out E hmt _ W (hE.stay hb) hsm
        clear hE hmt htk hsm hEq hlt' HRS
        go_upto_region 7 with fail
        obtain ⟨w5, hw5⟩ : ∃ v, wr.alloc (.cells #[.int .u8 (c' : Int), .bool k', .int .u32 (n' : Int), .slice A1 l1 q1, .slice A2 l2 q2] 29) = v := ⟨_, rfl⟩
        obtain ⟨gB, hgB⟩ : ∃ g, wr.heap.size = g := ⟨_, rfl⟩
        have B5 := Lib.hid (show Below wr.heap.size wr w5 by rw [← hw5]; exact bel1 _ _)
        have KB := Lib.hid (show Bk w5 gB 29 [.int .u8 (c' : Int), .bool k', .int .u32 (n' : Int), .slice A1 l1 q1, .slice A2 l2 q2] by rw [← hw5, ← hgB]; exact Bk.new wr _ [_, _, _, _, _])
        rw [hw5, hgB]
        have KS5 := kt KS B5
        have KD5 := kt KD B5
        have HGB := Lib.hid hgB
        clear hw5 hgB f0 f1 f2 f3 f4
        have HSR := Lib.hid (show ∀ W, Below w5.heap.size w5 W → W.cell? ⟨D, 4, none⟩ = some (.slice (some ⟨gS, 0, none⟩) m m) ∧ W.cell? ⟨gB, 0, none⟩ = some (.int .u8 (c' : Int)) ∧ W.cell? ⟨gB, 1, none⟩ = some (.bool k') ∧ W.cell? ⟨gB, 2, none⟩ = some (.int .u32 (n' : Int)) ∧ W.cell? ⟨gB, 3, none⟩ = some (.slice A1 l1 q1) ∧ W.cell? ⟨gB, 4, none⟩ = some (.slice A2 l2 q2) from fun W hW => ⟨(hW.cell (p := ⟨D, 4, none⟩) KD5.out.lt).trans (KD5.out.cell 4), (hW.cell (p := ⟨gB, 0, none⟩) KB.out.lt).trans (KB.out.cell 0), (hW.cell (p := ⟨gB, 1, none⟩) KB.out.lt).trans (KB.out.cell 1), (hW.cell (p := ⟨gB, 2, none⟩) KB.out.lt).trans (KB.out.cell 2), (hW.cell (p := ⟨gB, 3, none⟩) KB.out.lt).trans (KB.out.cell 3), (hW.cell (p := ⟨gB, 4, none⟩) KB.out.lt).trans (KB.out.cell 4)⟩)
        refine wp_region_held_drew (S := fun W => W.cell? ⟨D, 4, none⟩ = some (.slice (some ⟨gS, 0, none⟩) m m) ∧ W.cell? ⟨gB, 0, none⟩ = some (.int .u8 (c' : Int)) ∧ W.cell? ⟨gB, 1, none⟩ = some (.bool k') ∧ W.cell? ⟨gB, 2, none⟩ = some (.int .u32 (n' : Int)) ∧ W.cell? ⟨gB, 3, none⟩ = some (.slice A1 l1 q1) ∧ W.cell? ⟨gB, 4, none⟩ = some (.slice A2 l2 q2)) (by kernel_rfl) (HSR.out _ (Below.refl w5.heap.size w5).drew) (fun hS => ?_)
        obtain ⟨wd, hwd⟩ : ∃ v, w5.drew = v := ⟨_, rfl⟩
        have d0 : Below w5.heap.size w5 wd := by rw [← hwd]; exact (Below.refl w5.heap.size w5).drew
        have BB5 := Lib.hid (BB.out.trans (B5.out.mono BB.out.size))
        have HGS2 : Hid (gS < gB) := Lib.hid (by rw [← HGB.out]; exact KS.out.lt)
        have KSx := Lib.hid (KS5.out.below d0 KS5.out.lt)
        have KDx := Lib.hid (KD5.out.below d0 KD5.out.lt)
        have K2y := Lib.hid ((K2.out.below B5.out K2.out.lt).below d0 (K2.out.below B5.out K2.out.lt).lt)
        rw [hwd] at hS ⊢
        clear hwd
        refine wpAnyH_take (i := 0) (oi := ⟨some 30, _, _, _, _, _⟩) (v := .pointer (some ⟨D, 4, none⟩)) rfl (by kernel_rfl) (by kernel_rfl) (by kernel_rfl) (fun _ _ _ h => h) (Or.inl ⟨by rfl, fun w _ => by go_simp⟩) hS ?_
        (try simp only [Act.put, List.setIfInBounds_toArray, List.set_cons_zero, List.set_cons_succ])
        refine wpAnyH_take (i := 2) (oi := ⟨some 32, _, _, _, _, _⟩) (v := .int .i64 (p : Int)) rfl (by kernel_rfl) (by kernel_rfl) (by kernel_rfl) (fun _ _ _ h => h) (Or.inl ⟨by rfl, fun w _ => by go_simp⟩) hS ?_
        (try simp only [Act.put, List.setIfInBounds_toArray, List.set_cons_zero, List.set_cons_succ])
        refine wpAnyH_take (i := 3) (oi := ⟨some 33, _, _, _, _, _⟩) (v := .agg #[.int .u8 (c' : Int), .bool k', .int .u32 (n' : Int), .slice A1 l1 q1, .slice A2 l2 q2]) rfl (by kernel_rfl) (by kernel_rfl) (by kernel_rfl) (fun _ _ _ h => h) (Or.inl ⟨by rfl, fun w hSw => by (try obtain ⟨s1, s2, s3, s4, s5, s6⟩ := hSw); go_simp⟩) hS ?_
        (try simp only [Act.put, List.setIfInBounds_toArray, List.set_cons_zero, List.set_cons_succ])
        refine wpAnyH_take (i := 1) (oi := ⟨some 31, _, _, _, _, _⟩) (v := .slice (some ⟨gS, 0, none⟩) m m) rfl (by kernel_rfl) (by kernel_rfl) (by kernel_rfl) (fun _ _ _ h => h) (Or.inl ⟨by rfl, fun w hSw => by (try obtain ⟨s1, s2, s3, s4, s5, s6⟩ := hSw); go_simp⟩) hS ?_
        (try simp only [Act.put, List.setIfInBounds_toArray, List.set_cons_zero, List.set_cons_succ])
        refine wpAnyH_ready (rs := [4]) (by kernel_rfl) (by simp) ?_
        refine AllReadyH.cons (o := _) rfl (fun K hK => ?_) (AllReadyH.nil)
        go_simp
        refine (HC.out _ (B5.out.trans (d0.mono B5.out.size))).mono ?_
        rintro e wC4 ⟨uu, rfl, hu, _, hv⟩
        obtain ⟨c5, n5, k5, A5, l5, q5, A6, l6, q6, rfl⟩ := hu.form
        have HU := Lib.hid hu
        have d1 : Below w5.heap.size w5 wC4 := d0.trans (hv.mono d0.size)
        replace KSx := Lib.hid (KSx.out.below hv KSx.out.lt)
        replace KDx := Lib.hid (KDx.out.below hv KDx.out.lt)
        replace K2y := Lib.hid (K2y.out.below hv K2y.out.lt)
        clear hv hu
        refine hK.out _ _ (HSR.out _ d1) (fun hS9 => ?_)
        clear hK K hS
        have hS := hS9
        clear hS9
        (try simp only [Act.put, List.setIfInBounds_toArray, List.set_cons_zero, List.set_cons_succ])
        refine wpAnyH_take (i := 5) (oi := ⟨some 35, _, _, _, _, _⟩) (v := .pointer (some ⟨gS, p * 5, none⟩)) rfl (by kernel_rfl) (by kernel_rfl) (by kernel_rfl) (fun _ _ _ h => h) (Or.inl ⟨by rfl, fun w _ => by go_simp⟩) hS ?_
        (try simp only [Act.put, List.setIfInBounds_toArray, List.set_cons_zero, List.set_cons_succ])
        refine wpAnyH_ready (rs := [6]) (by kernel_rfl) (by simp) ?_
        refine AllReadyH.cons (o := _) rfl (fun K hK => ?_) (AllReadyH.nil)
        have kS := fun j => KSx.out.cell (p * 5 + j)
        have y0 : wC4.cell? ⟨gS, p * 5, none⟩ = some a0 := by have := kS 0; rw [List.getElem?_append_right (by have := HCS.out; omega), show p * 5 + 0 - cs.length = 0 by have := HCS.out; omega] at this; exact this
        have y1 : wC4.cell? ⟨gS, p * 5 + 1, none⟩ = some a1 := by have := kS 1; rw [List.getElem?_append_right (by have := HCS.out; omega), show p * 5 + 1 - cs.length = 1 by have := HCS.out; omega] at this; exact this
        have y2 : wC4.cell? ⟨gS, p * 5 + 2, none⟩ = some a2 := by have := kS 2; rw [List.getElem?_append_right (by have := HCS.out; omega), show p * 5 + 2 - cs.length = 2 by have := HCS.out; omega] at this; exact this
        have y3 : wC4.cell? ⟨gS, p * 5 + 3, none⟩ = some a3 := by have := kS 3; rw [List.getElem?_append_right (by have := HCS.out; omega), show p * 5 + 3 - cs.length = 3 by have := HCS.out; omega] at this; exact this
        have y4 : wC4.cell? ⟨gS, p * 5 + 4, none⟩ = some a4 := by have := kS 4; rw [List.getElem?_append_right (by have := HCS.out; omega), show p * 5 + 4 - cs.length = 4 by have := HCS.out; omega] at this; exact this
        have x0 : wC4.frozen? ⟨gS, p * 5, none⟩ = false := KSx.out.free (p * 5)
        have x1 : wC4.frozen? ⟨gS, p * 5 + 1, none⟩ = false := KSx.out.free (p * 5 + 1)
        have x2 : wC4.frozen? ⟨gS, p * 5 + 2, none⟩ = false := KSx.out.free (p * 5 + 2)
        have x3 : wC4.frozen? ⟨gS, p * 5 + 3, none⟩ = false := KSx.out.free (p * 5 + 3)
        have x4 : wC4.frozen? ⟨gS, p * 5 + 4, none⟩ = false := KSx.out.free (p * 5 + 4)
        clear kS
        go_simp
        have hS0 := HSR.out _ d1
        obtain ⟨w9, hw9⟩ : ∃ v, (((((wC4.setCell ⟨gS, p * 5, none⟩ (.int .u8 (c5 : Int))).setCell ⟨gS, p * 5 + 1, none⟩ (.bool k5)).setCell ⟨gS, p * 5 + 2, none⟩ (.int .u32 (n5 : Int))).setCell ⟨gS, p * 5 + 3, none⟩ (.slice A5 l5 q5)).setCell ⟨gS, p * 5 + 4, none⟩ (.slice A6 l6 q6)) = v := ⟨_, rfl⟩
        have hfar : ∀ i, i ≠ gS → w9.heap[i]? = wC4.heap[i]? := fun i hi => by rw [← hw9]; exact far5 _ _ _ _ _ _ _ _ i hi
        have neD : D ≠ gS := by have := HGS.out.1; omega
        have neB : gB ≠ gS := by have := HGS2.out; omega
        rw [hw9]
        have hSn : w9.cell? ⟨D, 4, none⟩ = some (.slice (some ⟨gS, 0, none⟩) m m) ∧ w9.cell? ⟨gB, 0, none⟩ = some (.int .u8 (c' : Int)) ∧ w9.cell? ⟨gB, 1, none⟩ = some (.bool k') ∧ w9.cell? ⟨gB, 2, none⟩ = some (.int .u32 (n' : Int)) ∧ w9.cell? ⟨gB, 3, none⟩ = some (.slice A1 l1 q1) ∧ w9.cell? ⟨gB, 4, none⟩ = some (.slice A2 l2 q2) := ⟨(World.cell?_of_block (a := ⟨D, 4, none⟩) (hfar D neD)).trans hS0.1, (World.cell?_of_block (a := ⟨gB, 0, none⟩) (hfar gB neB)).trans hS0.2.1, (World.cell?_of_block (a := ⟨gB, 1, none⟩) (hfar gB neB)).trans hS0.2.2.1, (World.cell?_of_block (a := ⟨gB, 2, none⟩) (hfar gB neB)).trans hS0.2.2.2.1, (World.cell?_of_block (a := ⟨gB, 3, none⟩) (hfar gB neB)).trans hS0.2.2.2.2.1, (World.cell?_of_block (a := ⟨gB, 4, none⟩) (hfar gB neB)).trans hS0.2.2.2.2.2⟩
        refine hK.out _ _ hSn (fun hS9 => ?_)
        clear hK K hS hS0 hSn neD neB
        have hS := hS9
        clear hS9
        (try simp only [Act.put, List.setIfInBounds_toArray, List.set_cons_zero, List.set_cons_succ])
        refine wpAnyH_done (by kernel_rfl) ?_ _
        clear hS
        clear y0 y1 y2 y3 y4 x0 x1 x2 x3 x4
        have hd := BB5.out.trans (d1.mono BB5.out.size)
        have hst := st5 (w0 := w2) (o := p * 5) (v0 := .int .u8 (c5 : Int)) (v1 := .bool k5) (v2 := .int .u32 (n5 : Int)) (v3 := .slice A5 l5 q5) (v4 := .slice A6 l6 q6) KSx.out hd HGS.out.2
        rw [set5 HCS.out] at hst
        have hsz : wC4.heap.size = w9.heap.size := by rw [← hw9, siz5]
        rw [hw9] at hst
        have hold : ∀ i, w2.heap.size ≤ i ∧ i ≠ D ∧ i ≠ gS → i < wr.heap.size → w9.heap[i]? = wr.heap[i]? := fun i hi hk => by rw [hfar i hi.2.2, (B5.out.trans (d1.mono B5.out.size)).block i hk]
        have hrow : RowE true (fun i => w2.heap.size ≤ i ∧ i ≠ D ∧ i ≠ gS) w9 (ss.take (p + 1)) (cs ++ [.int .u8 (c5 : Int), .bool k5, .int .u32 (n5 : Int), .slice A5 l5 q5, .slice A6 l6 q6]) := by
          rw [HTK.out]
          refine RowE.snoc (RdE.keep (Nat.le_of_eq hsz) (fun i hi hk => hfar i (by have := HGS2.out; have := hi.1; have := HGB.out; have := B5.out.size; have := d0.size; omega)) (fun i hi hk => ⟨by have := BB5.out.size; have := hi.1; have := d0.size; omega, by have := HGS.out.1; have := HGS2.out; have := hi.1; have := HGB.out; have := B5.out.size; have := d0.size; omega, by have := HGS2.out; have := hi.1; have := HGB.out; have := B5.out.size; have := d0.size; omega⟩) _ _ HU.out) ?_
          exact RowE.keep (Nat.le_trans (B5.out.trans (d1.mono B5.out.size)).size (Nat.le_of_eq hsz)) (fun i hi hk => hold i hi hk) (fun i hi _ => hi) RW.out
        have hrb := RB.out.keep (T := fun i => w2.heap.size ≤ i ∧ i ≠ D ∧ i ≠ gS) (Nat.le_trans (B5.out.trans (d1.mono B5.out.size)).size (Nat.le_of_eq hsz)) hold (fun i hi _ => hi)
        have hkd : Bk w9 D 29 [.int .u8 (c : Int), .bool k, .int .u32 (n : Int), .slice A3 N3 N3, .slice (some ⟨gS, 0, none⟩) m m] := by unfold Bk; rw [hfar D (by have := HGS.out.1; omega)]; exact KDx.out
        have hk2 : Bk w9 (G + 1) 29 [.int .u8 0, .bool false, .int .u32 0, .slice none 0 0, .slice none 0 0] := by unfold Bk; rw [hfar (G + 1) (by have := HGS.out.2; have := K2z.out; omega)]; exact K2y.out
        have hob : OwB w2.heap.size (.slice A3 N3 c3) bs w9 := own_far (OB.out.below (B5.out.trans (d1.mono B5.out.size))) (own_ne (OB.out.below (B5.out.trans (d1.mono B5.out.size))) KSx.out) hfar
        have HFIN := Lib.hid (And.intro hst (And.intro hrow (And.intro hrb (And.intro hkd (And.intro hk2 hob)))))
        clear hst hrow hrb hkd hk2 hob hw9 hfar hsz hold hd
        go_wp2_with fail
        exact ⟨⟨p + 1, _, rs', by go_num, hlt, by rw [List.length_append, HCS.out]; simp; omega, HRS2.out, HFIN.out.1.1, HFIN.out.2.1, HFIN.out.2.2.2.1, HFIN.out.2.2.1, HFIN.out.2.2.2.2.1, HFIN.out.2.2.2.2.2, HFIN.out.1.2⟩, by simp [intOf]; omega⟩
      · have hpe : p = m := by have := HP.out; omega
        subst hpe
        obtain ⟨q0, q1, q2, q3, q4, qz⟩ := KD.out.five
        have hrow := RW.out
        rw [List.take_of_length_le (by rw [HMM.out]; exact Nat.le_refl _)] at hrow
        have hrs0 : rs = [] := List.eq_nil_of_length_eq_zero (by have := HRS.out; omega)
        subst hrs0
        have HROW := Lib.hid hrow
        clear hrow
        go_wp2_with (refine storeE rfl _ _ rfl rfl rfl K2.out rfl rfl rfl rfl rfl ?_; intro w7 h5 h6)
        have h6' := h6.out
        have hks := KS.out
        rw [List.append_nil] at hks
        have hne : ∀ i, w2.heap.size ≤ i → i ≠ G + 1 := fun i hi => by have := K2z.out; omega
        have hkp : ∀ i, w2.heap.size ≤ i → i < wr.heap.size → w7.heap[i]? = wr.heap[i]? := fun i hi hk => h6'.block i hk (fun e => by injection e with e; exact hne i hi e)
        refine retE rfl rfl h5.out rfl ⟨_, rfl, ⟨HCN.out.1, HCN.out.2.1, HCN.out.2.2, A3, N3, some ⟨gS, 0, none⟩, p, by rw [HN3.out, HMM.out], ?_, by rw [HN3.out]; exact Nat.le_refl _, by rw [← HN3.out, HBL.out]; have := HBM.out; unfold maxLen; omega, by rw [HMM.out]; exact Nat.le_refl _, by unfold maxLen; omega, fun _ => ⟨HN3.out.symm, HMM.out.symm⟩, ?_⟩, ⟨A3, N3, c3, some ⟨gS, 0, none⟩, p, rfl, HN3.out, HMM.out, ⟨own_kept (OB.out.mono0 B2.out.size).1 (fun g hg => hkp g (OB.out.1.lt g hg).1 (OB.out.1.lt g hg).2), OB.out.2⟩, .inr ⟨gS, cs, rfl, Nat.le_trans B2.out.size HGS.out.2, by unfold Bk; rw [hkp gS HGS.out.2 hks.lt]; exact hks, HCS.out⟩⟩, ?_⟩
        · exact RB.out.keep h6'.size (fun i hi hk => hkp i hi.1 hk) (fun i hi hk => ⟨Nat.le_trans B2.out.size hi.1, Nat.lt_of_lt_of_le hk h6'.size⟩)
        · refine RowE.rds (S := fun i => w.heap.size ≤ i ∧ i < w7.heap.size) (Nat.lt_of_lt_of_le hks.lt h6'.size) ⟨by have := HGS.out.2; exact Nat.le_trans B2.out.size this, Nat.lt_of_lt_of_le hks.lt h6'.size⟩ (fun i hi => hi) (RowE.keep h6'.size (fun i hi hk => hkp i hi.1 hk) (fun i hi hk => ⟨Nat.le_trans B2.out.size hi.1, Nat.lt_of_lt_of_le hk h6'.size⟩) HROW.out) (fun j y hy => ?_)
          rw [Nat.zero_add]
          rw [← hy, ← hks.cell j]
          exact World.cell?_of_block (hkp gS HGS.out.2 hks.lt)
        · exact (B2.out.trans (BB.out.mono B2.out.size)).trans (only_below h6' (by have := HW.out.2; omega) (B2.out.trans (BB.out.mono B2.out.size)).size)
end Go.Proofs.Ytfbdeefeagednaa.Fl
