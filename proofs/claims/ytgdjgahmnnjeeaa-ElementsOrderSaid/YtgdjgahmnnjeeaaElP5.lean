/-
  Layer 4, the statement ElementsOrder: Compare is the order of the encodings, Same is true exactly for equal ones; the examples of the chapter hold.
  Conditions: none.
-/
import Derived.Test.YtgdjgahmnnjeeaaElOh
import Derived.Test.YtgdjgahmnnjeeaaElPu
namespace Go.Proofs.Ytgdjgahmnnjeeaa
open Go.RowKit

theorem wpAnyH_mono {P : Program} {md : Region.Mode} {ops : Array Oper} {Q : Exit → Act → World → Prop} {S S' : World → Prop} (hs : ∀ w, S' w → S w) :
    ∀ (fuel : Nat) (listed : Array Bool) (a : Act) (w : World), wpAnyH P md ops Q S' fuel listed a w → wpAnyH P md ops Q S fuel listed a w
  | 0, _, _, _, h => h
  | fuel + 1, _, _, _, h => ⟨h.1, fun i hi => wpOp_mono (fun a' w' h' => ⟨hs _ h'.1, wpAnyH_mono hs fuel _ a' w' h'.2⟩) (h.2 i hi)⟩
theorem later7 {F G : Nat → Nat → El → El → Value → Value → World → Prop} {Q : Prop} (h1 : Hid (∀ a b c d e f g, F a b c d e f g → G a b c d e f g) → Q) (h2 : ∀ a b c d e f g, F a b c d e f g → G a b c d e f g) : Q := h1 (Lib.hid h2)
theorem relisted {P : Program} {md : Region.Mode} {ops : Array Oper} {Q : Exit → Act → World → Prop} {S : World → Prop} {fuel : Nat} {L1 L2 : Array Bool} {a : Act} {w : World} (h : L1 = L2)
    (H : wpAnyH P md ops Q S fuel L2 a w) : wpAnyH P md ops Q S fuel L1 a w := by rw [h]; exact H
/-- The store of a whole element, as one step of a region that draws. -/
theorem storeE_wp {o : Oper} {a : Act} {w : World} {K : Act → World → Prop} {Q : Exit → Act → World → Prop} (x v : Operand) (ho : o.op = .store 29 x v)
    {g : Nat} {cs : List Value} {n0 n1 n2 n3 n4 : Value} (hx : a.eval x = .pointer (some ⟨g, 0, none⟩)) (hv : a.eval v = .agg #[n0, n1, n2, n3, n4]) (hg : Bk w g 29 cs) (hc : cs.length = 5) (h1 : (#[n0, n1, n2, n3, n4] : Array Value).all (·.oneCell') = true)
    (h : ∀ w', Bk w' g 29 [n0, n1, n2, n3, n4] → w.grownBy w' (some g) → K (a.put o.dst undef) w') : Oper.wp Try.prog o a w K Q := by
  have hr := run_storeVar_row (P := Try.prog) w g 29 29 cs.toArray #[n0, n1, n2, n3, n4] hg (by simpa using infoE5) (by simp [hc]) h1
  have hK' := h (w.setRow g #[n0, n1, n2, n3, n4]) (setRow_heap w g _ _ _ _ hg) ⟨rfl, rfl, rfl, by simp [World.setRow], fun k hk hne => setRow_other w g k _ (fun e => hne (by rw [e]))⟩
  unfold Oper.wp execOp
  simp only [ho, hx, hv, Instr.storeAt, Instr.sureAddr, Sem.run_bind, Sem.run_pure, Result.andThen_ok, hr]
  exact hK'
theorem rangeT {w : World} {g : Nat} {cs : List Value} (h : Bk w g 47 cs) : w.rangeAt g 0 cs := fun j v hj => by rw [Nat.zero_add, h.cell]; exact hj
theorem infoT : (Try.prog.info? 47).map (·.size) = some 1 := by kernel_rfl
/-- What E.Of gives. -/
def VE (e : El) : Prop := valE e ∧ depE e ≤ 16 ∧ bndE e = true ∧ cntE e ≤ 40
theorem enc8 : ∀ (e : El), valE e → (encE e).length ≤ 12540 → True := fun _ _ _ => trivial
theorem cmpB_tri (l m : List Nat) : cmpB l m = -1 ∨ cmpB l m = 0 ∨ cmpB l m = 1 := by
  induction l generalizing m with
  | nil => cases m with
    | nil => exact .inr (.inl rfl)
    | cons y m => exact .inl rfl
  | cons x l ih => cases m with
    | nil => exact .inr (.inr rfl)
    | cons y m =>
      rw [cmpB]
      split
      · exact .inl rfl
      · split
        · exact .inr (.inr rfl)
        · exact ih m

set_option linter.unusedSimpArgs false in
set_option maxHeartbeats 8000000 in
set_option maxRecDepth 100000 in
theorem order_walk (A1 : Option Addr) (gs1 : List Gd) (N1 c1 : Nat) (A2 : Option Addr) (gs2 : List Gd) (N2 c2 : Nat) (w : World) (hA1 : RdG w A1 gs1) (hN1 : gs1.length = N1) (hc1 : N1 ≤ c1) (hm1 : c1 ≤ maxLen) (hA2 : RdG w A2 gs2) (hN2 : gs2.length = N2) (hc2 : N2 ≤ c2) (hm2 : c2 ≤ maxLen) :
    Calls Try.prog 7 #[.agg #[.slice A1 N1 c1], .agg #[.slice A2 N2 c2]] w fun e w' => e = .returned (.bool true) ∧ Below w.heap.size w w' := by
  obtain ⟨W2, hW2⟩ : ∃ W2, (w.alloc (.cells #[.slice A1 N1 c1] 47)).alloc (.cells #[.slice A2 N2 c2] 47) = W2 := ⟨_, rfl⟩
  have hb2 : Below w.heap.size w W2 := by rw [← hW2]; exact bel2 w _ _
  have x0 : Bk W2 w.heap.size 47 [.slice A1 N1 c1] := by rw [← hW2]; exact (Bk.new w 47 [_]).alloc _
  have x1 : Bk W2 (w.heap.size + 1) 47 [.slice A2 N2 c2] := by
    have := Bk.new (w.alloc (.cells #[.slice A1 N1 c1] 47)) 47 [.slice A2 N2 c2]
    rw [World.size_alloc] at this
    rw [← hW2]; exact this
  obtain ⟨G, hG⟩ : ∃ G, w.heap.size = G := ⟨_, rfl⟩
  obtain ⟨H, hH⟩ : ∃ H, G + 1 = H := ⟨_, rfl⟩
  rw [hG] at x0 x1
  rw [hH] at x1
  have C1 := Lib.hid (fun W (hA : RdG W A1 gs1) => of_E A1 gs1 N1 c1 W hA hN1 hc1 hm1)
  have C2 := Lib.hid (fun W (hA : RdG W A2 gs2) => of_E A2 gs2 N2 c2 W hA hN2 hc2 hm2)
  have HB2 := Lib.hid hb2
  have HW2 := Lib.hid hW2
  have HG := Lib.hid hG
  have HH := Lib.hid hH
  have R1 := Lib.hid hA1
  have R2 := Lib.hid hA2
  have X0 := Lib.hid x0
  have X1 := Lib.hid x1
  clear hA1 hA2 hN1 hN2 hc1 hc2 hm1 hm2 hW2 hG hH hb2 x0 x1
  go_enter Try.func7, Try.ntmps7
  go_upto_region 1 with fail
  rw [HW2.out, HG.out, HH.out]
  have BW : Hid (Below W2.heap.size W2 W2.drew) := Lib.hid ⟨rfl, rfl, rfl, Nat.le_refl _, fun _ _ => rfl⟩
  have HS : Hid (∀ W, Below W2.heap.size W2 W → (Bk W G 47 [.slice A1 N1 c1] ∧ Bk W H 47 [.slice A2 N2 c2])) := Lib.hid (fun W hb => ⟨X0.out.below hb X0.out.lt, X1.out.below hb X1.out.lt⟩)
  refine wp_region_held_drew (S := fun W => Bk W G 47 [.slice A1 N1 c1] ∧ Bk W H 47 [.slice A2 N2 c2]) (by kernel_rfl) (HS.out _ BW.out) (fun hS => ?_)
  generalize W2.drew = W at *
  refine wpAnyH_take (i := 0) (oi := ⟨some 10, _, _, _, _, _⟩) (v := .agg #[.slice A1 N1 c1]) rfl (by kernel_rfl) (by kernel_rfl) (by kernel_rfl) (fun _ _ _ h => h) (yieldsIf_load_mid (by rfl) 47 (.tmp 2) rfl (G) 0 rfl [.slice A1 N1 c1] _ (fun W h => rangeT h.1) Try.underlying47 rfl infoT) hS ?_
  simp only [Act.put, List.setIfInBounds_toArray, List.set_cons_zero, List.set_cons_succ]
  refine wpAnyH_take (i := 2) (oi := ⟨some 12, _, _, _, _, _⟩) (v := .agg #[.slice A2 N2 c2]) rfl (by kernel_rfl) (by kernel_rfl) (by kernel_rfl) (fun _ _ _ h => h) (yieldsIf_load_mid (by rfl) 47 (.tmp 3) rfl (H) 0 rfl [.slice A2 N2 c2] _ (fun W h => rangeT h.2) Try.underlying47 rfl infoT) hS ?_
  simp only [Act.put, List.setIfInBounds_toArray, List.set_cons_zero, List.set_cons_succ]
  apply later7 (F := fun (b4 b5 : Nat) (e1 e2 : El) (u1 u2 : Value) (W : World) => Hid (Below W2.heap.size W2 W) ∧ Hid (Bk W b4 29 elZ) ∧ Hid (W2.heap.size ≤ b4) ∧ Hid (Bk W b5 29 elZ) ∧ Hid (W2.heap.size ≤ b5) ∧ Hid (b4 ≠ b5) ∧ Hid (VE e1) ∧ Hid (RdE false (fun i => i ≠ b4 ∧ i ≠ b5) W e1 u1) ∧ Hid (VE e2) ∧ Hid (RdE false (fun i => i ≠ b4 ∧ i ≠ b5) W e2 u2))
  intro R2_45
  apply later7 (F := fun (b4 b5 : Nat) (e1 e2 : El) (u1 u2 : Value) (W : World) => Hid (Below W2.heap.size W2 W) ∧ Hid (Bk W b5 29 elZ) ∧ Hid (W2.heap.size ≤ b5) ∧ Hid (VE e1) ∧ Hid (RdE false (fun i => i ≠ b5) W e1 u1) ∧ Hid (VE e2) ∧ Hid (RdE false (fun i => i ≠ b5) W e2 u2))
  intro R2_5
  apply later7 (F := fun (b4 b5 : Nat) (e1 e2 : El) (u1 u2 : Value) (W : World) => Hid (Below W2.heap.size W2 W) ∧ Hid (Bk W b4 29 elZ) ∧ Hid (W2.heap.size ≤ b4) ∧ Hid (VE e1) ∧ Hid (RdE false (fun i => i ≠ b4) W e1 u1) ∧ Hid (VE e2) ∧ Hid (RdE false (fun i => i ≠ b4) W e2 u2))
  intro R2_4
  apply later7 (F := fun (b4 b5 : Nat) (e1 e2 : El) (u1 u2 : Value) (W : World) => Hid (Below W2.heap.size W2 W) ∧ Hid (Bk W b4 29 elZ) ∧ Hid (W2.heap.size ≤ b4) ∧ Hid (Bk W b5 29 elZ) ∧ Hid (W2.heap.size ≤ b5) ∧ Hid (b4 ≠ b5) ∧ Hid (VE e1) ∧ Hid (RdE false (fun i => i ≠ b4 ∧ i ≠ b5) W e1 u1))
  intro R1_45
  apply later7 (F := fun (b4 b5 : Nat) (e1 e2 : El) (u1 u2 : Value) (W : World) => Hid (Below W2.heap.size W2 W) ∧ Hid (VE e1) ∧ Hid (RdE false (fun _ => True) W e1 u1) ∧ Hid (VE e2) ∧ Hid (RdE false (fun _ => True) W e2 u2))
  intro R2_
  apply later7 (F := fun (b4 b5 : Nat) (e1 e2 : El) (u1 u2 : Value) (W : World) => Hid (Below W2.heap.size W2 W) ∧ Hid (Bk W b5 29 elZ) ∧ Hid (W2.heap.size ≤ b5) ∧ Hid (VE e1) ∧ Hid (RdE false (fun i => i ≠ b5) W e1 u1))
  intro R1_5
  apply later7 (F := fun (b4 b5 : Nat) (e1 e2 : El) (u1 u2 : Value) (W : World) => Hid (Below W2.heap.size W2 W) ∧ Hid (Bk W b4 29 elZ) ∧ Hid (W2.heap.size ≤ b4) ∧ Hid (VE e1) ∧ Hid (RdE false (fun i => i ≠ b4) W e1 u1))
  intro R1_4
  apply later7 (F := fun (b4 b5 : Nat) (e1 e2 : El) (u1 u2 : Value) (W : World) => Hid (Below W2.heap.size W2 W) ∧ Hid (Bk W b4 29 elZ) ∧ Hid (W2.heap.size ≤ b4) ∧ Hid (Bk W b5 29 elZ) ∧ Hid (W2.heap.size ≤ b5) ∧ Hid (b4 ≠ b5))
  intro R0_45
  apply later7 (F := fun (b4 b5 : Nat) (e1 e2 : El) (u1 u2 : Value) (W : World) => Hid (Below W2.heap.size W2 W) ∧ Hid (VE e1) ∧ Hid (RdE false (fun _ => True) W e1 u1))
  intro R1_
  apply later7 (F := fun (b4 b5 : Nat) (e1 e2 : El) (u1 u2 : Value) (W : World) => Hid (Below W2.heap.size W2 W) ∧ Hid (Bk W b5 29 elZ) ∧ Hid (W2.heap.size ≤ b5))
  intro R0_5
  apply later7 (F := fun (b4 b5 : Nat) (e1 e2 : El) (u1 u2 : Value) (W : World) => Hid (Below W2.heap.size W2 W) ∧ Hid (Bk W b4 29 elZ) ∧ Hid (W2.heap.size ≤ b4))
  intro R0_4
  obtain ⟨b4, -⟩ : ∃ z : Nat, z = 0 := ⟨0, rfl⟩
  obtain ⟨b5, -⟩ : ∃ z : Nat, z = 0 := ⟨0, rfl⟩
  obtain ⟨e1, -⟩ : ∃ z : El, z = zE := ⟨_, rfl⟩
  obtain ⟨e2, -⟩ : ∃ z : El, z = zE := ⟨_, rfl⟩
  obtain ⟨u1, -⟩ : ∃ z : Value, z = undef := ⟨_, rfl⟩
  obtain ⟨u2, -⟩ : ∃ z : Value, z = undef := ⟨_, rfl⟩
  refine wpAnyH_ready (rs := [1, 4, 5]) (by kernel_rfl) (by simp) ?_
  refine AllReadyH.cons (o := _) rfl (fun K hK => ?_) (AllReadyH.cons (o := _) rfl (fun K hK => ?_) (AllReadyH.cons (o := _) rfl (fun K hK => ?_) (AllReadyH.nil)))
  · go_simp
    refine (C1.out _ (RdG.stay (HB2.out.trans (BW.out.mono HB2.out.size)) R1.out)).mono ?_
    rintro e W1 ⟨e1, u1, rfl, v1, v2, v3, v4, hE, hb⟩
    have BW1 := Lib.hid (BW.out.trans (hb.mono BW.out.size))
    have VV1 : Hid (VE e1) := Lib.hid ⟨v1, v2, v3, v4⟩
    have F1 := Lib.hid (RdE.keep (T := fun _ => True) (Nat.le_refl _) (fun _ _ _ => rfl) (fun i (hi : W.heap.size ≤ i) _ => trivial) _ _ hE)
    clear hb hE v1 v2 v3 v4
    refine hK.out _ _ (HS.out _ BW1.out) (fun hS => ?_)
    clear hK K
    (try simp only [Act.put, List.setIfInBounds_toArray, List.set_cons_zero, List.set_cons_succ])
    exact R1_.out b4 b5 e1 e2 u1 u2 W1 ⟨BW1, VV1, F1⟩
  · go_simp
    have hbh : Below W.heap.size W (W.alloc (.cells #[.int .u8 0, .bool false, .int .u32 0, .slice none 0 0, .slice none 0 0] 29)) := bel1 W _
    have BW1 := Lib.hid (BW.out.trans (hbh.mono BW.out.size))
    refine hK.out _ _ (HS.out _ BW1.out) (fun hS => ?_)
    clear hK K
    (try simp only [Act.put, List.setIfInBounds_toArray, List.set_cons_zero, List.set_cons_succ])
    have J4 : Hid (Bk (W.alloc (.cells #[.int .u8 0, .bool false, .int .u32 0, .slice none 0 0, .slice none 0 0] 29)) W.heap.size 29 elZ) := Lib.hid (Bk.new W 29 elZ)
    have H4 := Lib.hid BW.out.size
    clear hbh b4
    generalize W.alloc (.cells #[.int .u8 0, .bool false, .int .u32 0, .slice none 0 0, .slice none 0 0] 29) = W1 at BW1 J4  ⊢
    generalize W.heap.size = b4 at J4 H4   ⊢
    exact R0_4.out b4 b5 e1 e2 u1 u2 W1 ⟨BW1, J4, H4⟩
  · go_simp
    have hbh : Below W.heap.size W (W.alloc (.cells #[.int .u8 0, .bool false, .int .u32 0, .slice none 0 0, .slice none 0 0] 29)) := bel1 W _
    have BW1 := Lib.hid (BW.out.trans (hbh.mono BW.out.size))
    refine hK.out _ _ (HS.out _ BW1.out) (fun hS => ?_)
    clear hK K
    (try simp only [Act.put, List.setIfInBounds_toArray, List.set_cons_zero, List.set_cons_succ])
    have J5 : Hid (Bk (W.alloc (.cells #[.int .u8 0, .bool false, .int .u32 0, .slice none 0 0, .slice none 0 0] 29)) W.heap.size 29 elZ) := Lib.hid (Bk.new W 29 elZ)
    have H5 := Lib.hid BW.out.size
    clear hbh b5
    generalize W.alloc (.cells #[.int .u8 0, .bool false, .int .u32 0, .slice none 0 0, .slice none 0 0] 29) = W1 at BW1 J5  ⊢
    generalize W.heap.size = b5 at J5 H5   ⊢
    exact R0_5.out b4 b5 e1 e2 u1 u2 W1 ⟨BW1, J5, H5⟩
  · rintro b4 b5 e1 e2 u1 u2 W ⟨BW, K4, G4⟩
    refine wpAnyH_ready (rs := [1, 5]) (by kernel_rfl) (by simp) ?_
    refine AllReadyH.cons (o := _) rfl (fun K hK => ?_) (AllReadyH.cons (o := _) rfl (fun K hK => ?_) (AllReadyH.nil))
    · go_simp
      refine (C1.out _ (RdG.stay (HB2.out.trans (BW.out.mono HB2.out.size)) R1.out)).mono ?_
      rintro e W1 ⟨e1, u1, rfl, v1, v2, v3, v4, hE, hb⟩
      have BW1 := Lib.hid (BW.out.trans (hb.mono BW.out.size))
      have J4 := Lib.hid (K4.out.below hb K4.out.lt)
      have VV1 : Hid (VE e1) := Lib.hid ⟨v1, v2, v3, v4⟩
      have F1 := Lib.hid (RdE.keep (T := fun i => i ≠ b4) (Nat.le_refl _) (fun _ _ _ => rfl) (fun i (hi : W.heap.size ≤ i) _ => by have := K4.out.lt; omega) _ _ hE)
      clear hb hE v1 v2 v3 v4
      refine hK.out _ _ (HS.out _ BW1.out) (fun hS => ?_)
      clear hK K
      (try simp only [Act.put, List.setIfInBounds_toArray, List.set_cons_zero, List.set_cons_succ])
      exact R1_4.out b4 b5 e1 e2 u1 u2 W1 ⟨BW1, J4, G4, VV1, F1⟩
    · go_simp
      have hbh : Below W.heap.size W (W.alloc (.cells #[.int .u8 0, .bool false, .int .u32 0, .slice none 0 0, .slice none 0 0] 29)) := bel1 W _
      have BW1 := Lib.hid (BW.out.trans (hbh.mono BW.out.size))
      refine hK.out _ _ (HS.out _ BW1.out) (fun hS => ?_)
      clear hK K
      (try simp only [Act.put, List.setIfInBounds_toArray, List.set_cons_zero, List.set_cons_succ])
      have J4 := Lib.hid (K4.out.alloc (.cells #[.int .u8 0, .bool false, .int .u32 0, .slice none 0 0, .slice none 0 0] 29))
      have J5 : Hid (Bk (W.alloc (.cells #[.int .u8 0, .bool false, .int .u32 0, .slice none 0 0, .slice none 0 0] 29)) W.heap.size 29 elZ) := Lib.hid (Bk.new W 29 elZ)
      have H5 := Lib.hid BW.out.size
      have D45 : Hid (b4 ≠ W.heap.size) := Lib.hid (by have := K4.out.lt; omega)
      clear hbh b5
      generalize W.alloc (.cells #[.int .u8 0, .bool false, .int .u32 0, .slice none 0 0, .slice none 0 0] 29) = W1 at BW1 J4 J5  ⊢
      generalize W.heap.size = b5 at J5 H5 D45  ⊢
      exact R0_45.out b4 b5 e1 e2 u1 u2 W1 ⟨BW1, J4, G4, J5, H5, D45⟩
  · rintro b4 b5 e1 e2 u1 u2 W ⟨BW, K5, G5⟩
    refine wpAnyH_ready (rs := [1, 4]) (by kernel_rfl) (by simp) ?_
    refine AllReadyH.cons (o := _) rfl (fun K hK => ?_) (AllReadyH.cons (o := _) rfl (fun K hK => ?_) (AllReadyH.nil))
    · go_simp
      refine (C1.out _ (RdG.stay (HB2.out.trans (BW.out.mono HB2.out.size)) R1.out)).mono ?_
      rintro e W1 ⟨e1, u1, rfl, v1, v2, v3, v4, hE, hb⟩
      have BW1 := Lib.hid (BW.out.trans (hb.mono BW.out.size))
      have J5 := Lib.hid (K5.out.below hb K5.out.lt)
      have VV1 : Hid (VE e1) := Lib.hid ⟨v1, v2, v3, v4⟩
      have F1 := Lib.hid (RdE.keep (T := fun i => i ≠ b5) (Nat.le_refl _) (fun _ _ _ => rfl) (fun i (hi : W.heap.size ≤ i) _ => by have := K5.out.lt; omega) _ _ hE)
      clear hb hE v1 v2 v3 v4
      refine hK.out _ _ (HS.out _ BW1.out) (fun hS => ?_)
      clear hK K
      (try simp only [Act.put, List.setIfInBounds_toArray, List.set_cons_zero, List.set_cons_succ])
      exact R1_5.out b4 b5 e1 e2 u1 u2 W1 ⟨BW1, J5, G5, VV1, F1⟩
    · go_simp
      have hbh : Below W.heap.size W (W.alloc (.cells #[.int .u8 0, .bool false, .int .u32 0, .slice none 0 0, .slice none 0 0] 29)) := bel1 W _
      have BW1 := Lib.hid (BW.out.trans (hbh.mono BW.out.size))
      refine hK.out _ _ (HS.out _ BW1.out) (fun hS => ?_)
      clear hK K
      (try simp only [Act.put, List.setIfInBounds_toArray, List.set_cons_zero, List.set_cons_succ])
      have J5 := Lib.hid (K5.out.alloc (.cells #[.int .u8 0, .bool false, .int .u32 0, .slice none 0 0, .slice none 0 0] 29))
      have J4 : Hid (Bk (W.alloc (.cells #[.int .u8 0, .bool false, .int .u32 0, .slice none 0 0, .slice none 0 0] 29)) W.heap.size 29 elZ) := Lib.hid (Bk.new W 29 elZ)
      have H4 := Lib.hid BW.out.size
      have D45 : Hid (W.heap.size ≠ b5) := Lib.hid (by have := K5.out.lt; omega)
      clear hbh b4
      generalize W.alloc (.cells #[.int .u8 0, .bool false, .int .u32 0, .slice none 0 0, .slice none 0 0] 29) = W1 at BW1 J4 J5  ⊢
      generalize W.heap.size = b4 at J4 H4 D45  ⊢
      refine relisted ?_ (R0_45.out b4 b5 e1 e2 u1 u2 W1 ⟨BW1, J4, H4, J5, G5, D45⟩)
      kernel_rfl
  · rintro b4 b5 e1 e2 u1 u2 W ⟨BW, V1, E1⟩
    refine wpAnyH_ready (rs := [3, 4, 5]) (by kernel_rfl) (by simp) ?_
    refine AllReadyH.cons (o := _) rfl (fun K hK => ?_) (AllReadyH.cons (o := _) rfl (fun K hK => ?_) (AllReadyH.cons (o := _) rfl (fun K hK => ?_) (AllReadyH.nil)))
    · go_simp
      refine (C2.out _ (RdG.stay (HB2.out.trans (BW.out.mono HB2.out.size)) R2.out)).mono ?_
      rintro e W1 ⟨e2, u2, rfl, v1, v2, v3, v4, hE, hb⟩
      have BW1 := Lib.hid (BW.out.trans (hb.mono BW.out.size))
      have F1 := Lib.hid (E1.out.stay hb)
      have VV2 : Hid (VE e2) := Lib.hid ⟨v1, v2, v3, v4⟩
      have F2 := Lib.hid (RdE.keep (T := fun _ => True) (Nat.le_refl _) (fun _ _ _ => rfl) (fun i (hi : W.heap.size ≤ i) _ => trivial) _ _ hE)
      clear hb hE v1 v2 v3 v4
      refine hK.out _ _ (HS.out _ BW1.out) (fun hS => ?_)
      clear hK K
      (try simp only [Act.put, List.setIfInBounds_toArray, List.set_cons_zero, List.set_cons_succ])
      exact R2_.out b4 b5 e1 e2 u1 u2 W1 ⟨BW1, V1, F1, VV2, F2⟩
    · go_simp
      have hbh : Below W.heap.size W (W.alloc (.cells #[.int .u8 0, .bool false, .int .u32 0, .slice none 0 0, .slice none 0 0] 29)) := bel1 W _
      have BW1 := Lib.hid (BW.out.trans (hbh.mono BW.out.size))
      refine hK.out _ _ (HS.out _ BW1.out) (fun hS => ?_)
      clear hK K
      (try simp only [Act.put, List.setIfInBounds_toArray, List.set_cons_zero, List.set_cons_succ])
      have J4 : Hid (Bk (W.alloc (.cells #[.int .u8 0, .bool false, .int .u32 0, .slice none 0 0, .slice none 0 0] 29)) W.heap.size 29 elZ) := Lib.hid (Bk.new W 29 elZ)
      have H4 := Lib.hid BW.out.size
      have F1 := Lib.hid (RdE.keep (T := fun i => i ≠ W.heap.size) hbh.size (fun j _ hl => hbh.block j hl) (fun i hi hl => by show i ≠ _; omega) _ _ E1.out)
      clear hbh b4
      generalize W.alloc (.cells #[.int .u8 0, .bool false, .int .u32 0, .slice none 0 0, .slice none 0 0] 29) = W1 at BW1 J4 F1 ⊢
      generalize W.heap.size = b4 at J4 H4  F1 ⊢
      refine relisted ?_ (R1_4.out b4 b5 e1 e2 u1 u2 W1 ⟨BW1, J4, H4, V1, F1⟩)
      kernel_rfl
    · go_simp
      have hbh : Below W.heap.size W (W.alloc (.cells #[.int .u8 0, .bool false, .int .u32 0, .slice none 0 0, .slice none 0 0] 29)) := bel1 W _
      have BW1 := Lib.hid (BW.out.trans (hbh.mono BW.out.size))
      refine hK.out _ _ (HS.out _ BW1.out) (fun hS => ?_)
      clear hK K
      (try simp only [Act.put, List.setIfInBounds_toArray, List.set_cons_zero, List.set_cons_succ])
      have J5 : Hid (Bk (W.alloc (.cells #[.int .u8 0, .bool false, .int .u32 0, .slice none 0 0, .slice none 0 0] 29)) W.heap.size 29 elZ) := Lib.hid (Bk.new W 29 elZ)
      have H5 := Lib.hid BW.out.size
      have F1 := Lib.hid (RdE.keep (T := fun i => i ≠ W.heap.size) hbh.size (fun j _ hl => hbh.block j hl) (fun i hi hl => by show i ≠ _; omega) _ _ E1.out)
      clear hbh b5
      generalize W.alloc (.cells #[.int .u8 0, .bool false, .int .u32 0, .slice none 0 0, .slice none 0 0] 29) = W1 at BW1 J5 F1 ⊢
      generalize W.heap.size = b5 at J5 H5  F1 ⊢
      refine relisted ?_ (R1_5.out b4 b5 e1 e2 u1 u2 W1 ⟨BW1, J5, H5, V1, F1⟩)
      kernel_rfl
  · rintro b4 b5 e1 e2 u1 u2 W ⟨BW, K4, G4, K5, G5, D45⟩
    refine wpAnyH_ready (rs := [1]) (by kernel_rfl) (by simp) ?_
    refine AllReadyH.cons (o := _) rfl (fun K hK => ?_) (AllReadyH.nil)
    go_simp
    refine (C1.out _ (RdG.stay (HB2.out.trans (BW.out.mono HB2.out.size)) R1.out)).mono ?_
    rintro e W1 ⟨e1, u1, rfl, v1, v2, v3, v4, hE, hb⟩
    have BW1 := Lib.hid (BW.out.trans (hb.mono BW.out.size))
    have J4 := Lib.hid (K4.out.below hb K4.out.lt)
    have J5 := Lib.hid (K5.out.below hb K5.out.lt)
    have VV1 : Hid (VE e1) := Lib.hid ⟨v1, v2, v3, v4⟩
    have F1 := Lib.hid (RdE.keep (T := fun i => i ≠ b4 ∧ i ≠ b5) (Nat.le_refl _) (fun _ _ _ => rfl) (fun i (hi : W.heap.size ≤ i) _ => ⟨by have := K4.out.lt; omega, by have := K5.out.lt; omega⟩) _ _ hE)
    clear hb hE v1 v2 v3 v4
    refine hK.out _ _ (HS.out _ BW1.out) (fun hS => ?_)
    clear hK K
    (try simp only [Act.put, List.setIfInBounds_toArray, List.set_cons_zero, List.set_cons_succ])
    exact R1_45.out b4 b5 e1 e2 u1 u2 W1 ⟨BW1, J4, G4, J5, G5, D45, VV1, F1⟩
  · rintro b4 b5 e1 e2 u1 u2 W ⟨BW, K4, G4, V1, E1⟩
    refine wpAnyH_ready (rs := [3, 5]) (by kernel_rfl) (by simp) ?_
    refine AllReadyH.cons (o := _) rfl (fun K hK => ?_) (AllReadyH.cons (o := _) rfl (fun K hK => ?_) (AllReadyH.nil))
    · go_simp
      refine (C2.out _ (RdG.stay (HB2.out.trans (BW.out.mono HB2.out.size)) R2.out)).mono ?_
      rintro e W1 ⟨e2, u2, rfl, v1, v2, v3, v4, hE, hb⟩
      have BW1 := Lib.hid (BW.out.trans (hb.mono BW.out.size))
      have J4 := Lib.hid (K4.out.below hb K4.out.lt)
      have F1 := Lib.hid (E1.out.stay hb)
      have VV2 : Hid (VE e2) := Lib.hid ⟨v1, v2, v3, v4⟩
      have F2 := Lib.hid (RdE.keep (T := fun i => i ≠ b4) (Nat.le_refl _) (fun _ _ _ => rfl) (fun i (hi : W.heap.size ≤ i) _ => by have := K4.out.lt; omega) _ _ hE)
      clear hb hE v1 v2 v3 v4
      refine hK.out _ _ (HS.out _ BW1.out) (fun hS => ?_)
      clear hK K
      (try simp only [Act.put, List.setIfInBounds_toArray, List.set_cons_zero, List.set_cons_succ])
      exact R2_4.out b4 b5 e1 e2 u1 u2 W1 ⟨BW1, J4, G4, V1, F1, VV2, F2⟩
    · go_simp
      have hbh : Below W.heap.size W (W.alloc (.cells #[.int .u8 0, .bool false, .int .u32 0, .slice none 0 0, .slice none 0 0] 29)) := bel1 W _
      have BW1 := Lib.hid (BW.out.trans (hbh.mono BW.out.size))
      refine hK.out _ _ (HS.out _ BW1.out) (fun hS => ?_)
      clear hK K
      (try simp only [Act.put, List.setIfInBounds_toArray, List.set_cons_zero, List.set_cons_succ])
      have J4 := Lib.hid (K4.out.alloc (.cells #[.int .u8 0, .bool false, .int .u32 0, .slice none 0 0, .slice none 0 0] 29))
      have J5 : Hid (Bk (W.alloc (.cells #[.int .u8 0, .bool false, .int .u32 0, .slice none 0 0, .slice none 0 0] 29)) W.heap.size 29 elZ) := Lib.hid (Bk.new W 29 elZ)
      have H5 := Lib.hid BW.out.size
      have F1 := Lib.hid (RdE.keep (T := fun i => i ≠ b4 ∧ i ≠ W.heap.size) hbh.size (fun j _ hl => hbh.block j hl) (fun i hi hl => ⟨hi, by omega⟩) _ _ E1.out)
      have D45 : Hid (b4 ≠ W.heap.size) := Lib.hid (by have := K4.out.lt; omega)
      clear hbh b5
      generalize W.alloc (.cells #[.int .u8 0, .bool false, .int .u32 0, .slice none 0 0, .slice none 0 0] 29) = W1 at BW1 J4 J5 F1 ⊢
      generalize W.heap.size = b5 at J5 H5 D45 F1 ⊢
      refine relisted ?_ (R1_45.out b4 b5 e1 e2 u1 u2 W1 ⟨BW1, J4, G4, J5, H5, D45, V1, F1⟩)
      kernel_rfl
  · rintro b4 b5 e1 e2 u1 u2 W ⟨BW, K5, G5, V1, E1⟩
    refine wpAnyH_ready (rs := [3, 4]) (by kernel_rfl) (by simp) ?_
    refine AllReadyH.cons (o := _) rfl (fun K hK => ?_) (AllReadyH.cons (o := _) rfl (fun K hK => ?_) (AllReadyH.nil))
    · go_simp
      refine (C2.out _ (RdG.stay (HB2.out.trans (BW.out.mono HB2.out.size)) R2.out)).mono ?_
      rintro e W1 ⟨e2, u2, rfl, v1, v2, v3, v4, hE, hb⟩
      have BW1 := Lib.hid (BW.out.trans (hb.mono BW.out.size))
      have J5 := Lib.hid (K5.out.below hb K5.out.lt)
      have F1 := Lib.hid (E1.out.stay hb)
      have VV2 : Hid (VE e2) := Lib.hid ⟨v1, v2, v3, v4⟩
      have F2 := Lib.hid (RdE.keep (T := fun i => i ≠ b5) (Nat.le_refl _) (fun _ _ _ => rfl) (fun i (hi : W.heap.size ≤ i) _ => by have := K5.out.lt; omega) _ _ hE)
      clear hb hE v1 v2 v3 v4
      refine hK.out _ _ (HS.out _ BW1.out) (fun hS => ?_)
      clear hK K
      (try simp only [Act.put, List.setIfInBounds_toArray, List.set_cons_zero, List.set_cons_succ])
      exact R2_5.out b4 b5 e1 e2 u1 u2 W1 ⟨BW1, J5, G5, V1, F1, VV2, F2⟩
    · go_simp
      have hbh : Below W.heap.size W (W.alloc (.cells #[.int .u8 0, .bool false, .int .u32 0, .slice none 0 0, .slice none 0 0] 29)) := bel1 W _
      have BW1 := Lib.hid (BW.out.trans (hbh.mono BW.out.size))
      refine hK.out _ _ (HS.out _ BW1.out) (fun hS => ?_)
      clear hK K
      (try simp only [Act.put, List.setIfInBounds_toArray, List.set_cons_zero, List.set_cons_succ])
      have J5 := Lib.hid (K5.out.alloc (.cells #[.int .u8 0, .bool false, .int .u32 0, .slice none 0 0, .slice none 0 0] 29))
      have J4 : Hid (Bk (W.alloc (.cells #[.int .u8 0, .bool false, .int .u32 0, .slice none 0 0, .slice none 0 0] 29)) W.heap.size 29 elZ) := Lib.hid (Bk.new W 29 elZ)
      have H4 := Lib.hid BW.out.size
      have F1 := Lib.hid (RdE.keep (T := fun i => i ≠ W.heap.size ∧ i ≠ b5) hbh.size (fun j _ hl => hbh.block j hl) (fun i hi hl => ⟨by omega, hi⟩) _ _ E1.out)
      have D45 : Hid (W.heap.size ≠ b5) := Lib.hid (by have := K5.out.lt; omega)
      clear hbh b4
      generalize W.alloc (.cells #[.int .u8 0, .bool false, .int .u32 0, .slice none 0 0, .slice none 0 0] 29) = W1 at BW1 J4 J5 F1 ⊢
      generalize W.heap.size = b4 at J4 H4 D45 F1 ⊢
      refine relisted ?_ (R1_45.out b4 b5 e1 e2 u1 u2 W1 ⟨BW1, J4, H4, J5, G5, D45, V1, F1⟩)
      kernel_rfl
  · rintro b4 b5 e1 e2 u1 u2 W ⟨BW, V1, E1, V2, E2⟩
    refine wpAnyH_ready (rs := [4, 5]) (by kernel_rfl) (by simp) ?_
    refine AllReadyH.cons (o := _) rfl (fun K hK => ?_) (AllReadyH.cons (o := _) rfl (fun K hK => ?_) (AllReadyH.nil))
    · go_simp
      have hbh : Below W.heap.size W (W.alloc (.cells #[.int .u8 0, .bool false, .int .u32 0, .slice none 0 0, .slice none 0 0] 29)) := bel1 W _
      have BW1 := Lib.hid (BW.out.trans (hbh.mono BW.out.size))
      refine hK.out _ _ (HS.out _ BW1.out) (fun hS => ?_)
      clear hK K
      (try simp only [Act.put, List.setIfInBounds_toArray, List.set_cons_zero, List.set_cons_succ])
      have J4 : Hid (Bk (W.alloc (.cells #[.int .u8 0, .bool false, .int .u32 0, .slice none 0 0, .slice none 0 0] 29)) W.heap.size 29 elZ) := Lib.hid (Bk.new W 29 elZ)
      have H4 := Lib.hid BW.out.size
      have F1 := Lib.hid (RdE.keep (T := fun i => i ≠ W.heap.size) hbh.size (fun j _ hl => hbh.block j hl) (fun i hi hl => by show i ≠ _; omega) _ _ E1.out)
      have F2 := Lib.hid (RdE.keep (T := fun i => i ≠ W.heap.size) hbh.size (fun j _ hl => hbh.block j hl) (fun i hi hl => by show i ≠ _; omega) _ _ E2.out)
      clear hbh b4
      generalize W.alloc (.cells #[.int .u8 0, .bool false, .int .u32 0, .slice none 0 0, .slice none 0 0] 29) = W1 at BW1 J4 F1 F2 ⊢
      generalize W.heap.size = b4 at J4 H4  F1 F2 ⊢
      refine relisted ?_ (R2_4.out b4 b5 e1 e2 u1 u2 W1 ⟨BW1, J4, H4, V1, F1, V2, F2⟩)
      kernel_rfl
    · go_simp
      have hbh : Below W.heap.size W (W.alloc (.cells #[.int .u8 0, .bool false, .int .u32 0, .slice none 0 0, .slice none 0 0] 29)) := bel1 W _
      have BW1 := Lib.hid (BW.out.trans (hbh.mono BW.out.size))
      refine hK.out _ _ (HS.out _ BW1.out) (fun hS => ?_)
      clear hK K
      (try simp only [Act.put, List.setIfInBounds_toArray, List.set_cons_zero, List.set_cons_succ])
      have J5 : Hid (Bk (W.alloc (.cells #[.int .u8 0, .bool false, .int .u32 0, .slice none 0 0, .slice none 0 0] 29)) W.heap.size 29 elZ) := Lib.hid (Bk.new W 29 elZ)
      have H5 := Lib.hid BW.out.size
      have F1 := Lib.hid (RdE.keep (T := fun i => i ≠ W.heap.size) hbh.size (fun j _ hl => hbh.block j hl) (fun i hi hl => by show i ≠ _; omega) _ _ E1.out)
      have F2 := Lib.hid (RdE.keep (T := fun i => i ≠ W.heap.size) hbh.size (fun j _ hl => hbh.block j hl) (fun i hi hl => by show i ≠ _; omega) _ _ E2.out)
      clear hbh b5
      generalize W.alloc (.cells #[.int .u8 0, .bool false, .int .u32 0, .slice none 0 0, .slice none 0 0] 29) = W1 at BW1 J5 F1 F2 ⊢
      generalize W.heap.size = b5 at J5 H5  F1 F2 ⊢
      refine relisted ?_ (R2_5.out b4 b5 e1 e2 u1 u2 W1 ⟨BW1, J5, H5, V1, F1, V2, F2⟩)
      kernel_rfl
  · rintro b4 b5 e1 e2 u1 u2 W ⟨BW, K4, G4, K5, G5, D45, V1, E1⟩
    refine wpAnyH_ready (rs := [3]) (by kernel_rfl) (by simp) ?_
    refine AllReadyH.cons (o := _) rfl (fun K hK => ?_) (AllReadyH.nil)
    go_simp
    refine (C2.out _ (RdG.stay (HB2.out.trans (BW.out.mono HB2.out.size)) R2.out)).mono ?_
    rintro e W1 ⟨e2, u2, rfl, v1, v2, v3, v4, hE, hb⟩
    have BW1 := Lib.hid (BW.out.trans (hb.mono BW.out.size))
    have J4 := Lib.hid (K4.out.below hb K4.out.lt)
    have J5 := Lib.hid (K5.out.below hb K5.out.lt)
    have F1 := Lib.hid (E1.out.stay hb)
    have VV2 : Hid (VE e2) := Lib.hid ⟨v1, v2, v3, v4⟩
    have F2 := Lib.hid (RdE.keep (T := fun i => i ≠ b4 ∧ i ≠ b5) (Nat.le_refl _) (fun _ _ _ => rfl) (fun i (hi : W.heap.size ≤ i) _ => ⟨by have := K4.out.lt; omega, by have := K5.out.lt; omega⟩) _ _ hE)
    clear hb hE v1 v2 v3 v4
    refine hK.out _ _ (HS.out _ BW1.out) (fun hS => ?_)
    clear hK K
    (try simp only [Act.put, List.setIfInBounds_toArray, List.set_cons_zero, List.set_cons_succ])
    exact R2_45.out b4 b5 e1 e2 u1 u2 W1 ⟨BW1, J4, G4, J5, G5, D45, V1, F1, VV2, F2⟩
  · rintro b4 b5 e1 e2 u1 u2 W ⟨BW, K4, G4, V1, E1, V2, E2⟩
    refine wpAnyH_ready (rs := [5]) (by kernel_rfl) (by simp) ?_
    refine AllReadyH.cons (o := _) rfl (fun K hK => ?_) (AllReadyH.nil)
    go_simp
    have hbh : Below W.heap.size W (W.alloc (.cells #[.int .u8 0, .bool false, .int .u32 0, .slice none 0 0, .slice none 0 0] 29)) := bel1 W _
    have BW1 := Lib.hid (BW.out.trans (hbh.mono BW.out.size))
    refine hK.out _ _ (HS.out _ BW1.out) (fun hS => ?_)
    clear hK K
    (try simp only [Act.put, List.setIfInBounds_toArray, List.set_cons_zero, List.set_cons_succ])
    have J4 := Lib.hid (K4.out.alloc (.cells #[.int .u8 0, .bool false, .int .u32 0, .slice none 0 0, .slice none 0 0] 29))
    have J5 : Hid (Bk (W.alloc (.cells #[.int .u8 0, .bool false, .int .u32 0, .slice none 0 0, .slice none 0 0] 29)) W.heap.size 29 elZ) := Lib.hid (Bk.new W 29 elZ)
    have H5 := Lib.hid BW.out.size
    have F1 := Lib.hid (RdE.keep (T := fun i => i ≠ b4 ∧ i ≠ W.heap.size) hbh.size (fun j _ hl => hbh.block j hl) (fun i hi hl => ⟨hi, by omega⟩) _ _ E1.out)
    have F2 := Lib.hid (RdE.keep (T := fun i => i ≠ b4 ∧ i ≠ W.heap.size) hbh.size (fun j _ hl => hbh.block j hl) (fun i hi hl => ⟨hi, by omega⟩) _ _ E2.out)
    have D45 : Hid (b4 ≠ W.heap.size) := Lib.hid (by have := K4.out.lt; omega)
    clear hbh b5
    generalize W.alloc (.cells #[.int .u8 0, .bool false, .int .u32 0, .slice none 0 0, .slice none 0 0] 29) = W1 at BW1 J4 J5 F1 F2 ⊢
    generalize W.heap.size = b5 at J5 H5 D45 F1 F2 ⊢
    refine relisted ?_ (R2_45.out b4 b5 e1 e2 u1 u2 W1 ⟨BW1, J4, G4, J5, H5, D45, V1, F1, V2, F2⟩)
    kernel_rfl
  · rintro b4 b5 e1 e2 u1 u2 W ⟨BW, K5, G5, V1, E1, V2, E2⟩
    refine wpAnyH_ready (rs := [4]) (by kernel_rfl) (by simp) ?_
    refine AllReadyH.cons (o := _) rfl (fun K hK => ?_) (AllReadyH.nil)
    go_simp
    have hbh : Below W.heap.size W (W.alloc (.cells #[.int .u8 0, .bool false, .int .u32 0, .slice none 0 0, .slice none 0 0] 29)) := bel1 W _
    have BW1 := Lib.hid (BW.out.trans (hbh.mono BW.out.size))
    refine hK.out _ _ (HS.out _ BW1.out) (fun hS => ?_)
    clear hK K
    (try simp only [Act.put, List.setIfInBounds_toArray, List.set_cons_zero, List.set_cons_succ])
    have J5 := Lib.hid (K5.out.alloc (.cells #[.int .u8 0, .bool false, .int .u32 0, .slice none 0 0, .slice none 0 0] 29))
    have J4 : Hid (Bk (W.alloc (.cells #[.int .u8 0, .bool false, .int .u32 0, .slice none 0 0, .slice none 0 0] 29)) W.heap.size 29 elZ) := Lib.hid (Bk.new W 29 elZ)
    have H4 := Lib.hid BW.out.size
    have F1 := Lib.hid (RdE.keep (T := fun i => i ≠ W.heap.size ∧ i ≠ b5) hbh.size (fun j _ hl => hbh.block j hl) (fun i hi hl => ⟨by omega, hi⟩) _ _ E1.out)
    have F2 := Lib.hid (RdE.keep (T := fun i => i ≠ W.heap.size ∧ i ≠ b5) hbh.size (fun j _ hl => hbh.block j hl) (fun i hi hl => ⟨by omega, hi⟩) _ _ E2.out)
    have D45 : Hid (W.heap.size ≠ b5) := Lib.hid (by have := K5.out.lt; omega)
    clear hbh b4
    generalize W.alloc (.cells #[.int .u8 0, .bool false, .int .u32 0, .slice none 0 0, .slice none 0 0] 29) = W1 at BW1 J4 J5 F1 F2 ⊢
    generalize W.heap.size = b4 at J4 H4 D45 F1 F2 ⊢
    refine relisted ?_ (R2_45.out b4 b5 e1 e2 u1 u2 W1 ⟨BW1, J4, H4, J5, G5, D45, V1, F1, V2, F2⟩)
    kernel_rfl
  rintro b4 b5 e1 e2 u1 u2 W ⟨BW, K4, G4, K5, G5, D45, V1, E1, V2, E2⟩
  obtain ⟨p1, q1, k1, P1, l1, r1, Q1, m1, s1, rfl⟩ := E1.out.form
  obtain ⟨p2, q2, k2, P2, l2, r2, Q2, m2, s2, rfl⟩ := E2.out.form
  refine wpAnyH_ready (rs := [6]) (by kernel_rfl) (by simp) ?_
  refine AllReadyH.cons (o := _) rfl (fun K hK => ?_) (AllReadyH.nil)
  refine storeE_wp (.tmp 5) (.tmp 11) rfl rfl rfl K4.out rfl (by simp [Value.oneCell']) ?_
  intro W1 V hg
  have BW1 : Hid (Below W2.heap.size W2 W1) := Lib.hid (BW.out.grown hg BW.out.size (fun k e => by injection e with e; have := G4.out; omega))
  have J5 := Lib.hid (K5.out.only hg (by intro e; injection e with e; have := D45.out; omega))
  have J4 := Lib.hid V
  have F1 := Lib.hid (RdE.keep (T := fun i => i ≠ b4 ∧ i ≠ b5) hg.size (fun j hj hl => hg.block j hl (by intro e; injection e with e; exact hj.1 e)) (fun _ h _ => h) _ _ E1.out)
  have F2 := Lib.hid (RdE.keep (T := fun i => i ≠ b4 ∧ i ≠ b5) hg.size (fun j hj hl => hg.block j hl (by intro e; injection e with e; exact hj.1 e)) (fun _ h _ => h) _ _ E2.out)
  clear V hg
  refine hK.out _ _ (HS.out _ BW1.out) (fun hS => ?_)
  clear hK K
  (try simp only [Act.put, List.setIfInBounds_toArray, List.set_cons_zero, List.set_cons_succ])
  clear BW K4 K5 E1 E2
  have BW := BW1
  have K4 := J4
  have K5 := J5
  have E1 := F1
  have E2 := F2
  clear BW1 J4 J5 F1 F2
  rename World => W
  refine wpAnyH_ready (rs := [7]) (by kernel_rfl) (by simp) ?_
  refine AllReadyH.cons (o := _) rfl (fun K hK => ?_) (AllReadyH.nil)
  refine storeE_wp (.tmp 6) (.tmp 13) rfl rfl rfl K5.out rfl (by simp [Value.oneCell']) ?_
  intro W1 V hg
  have BW1 : Hid (Below W2.heap.size W2 W1) := Lib.hid (BW.out.grown hg BW.out.size (fun k e => by injection e with e; have := G5.out; omega))
  have J4 := Lib.hid (K4.out.only hg (by intro e; injection e with e; have := D45.out; omega))
  have J5 := Lib.hid V
  have F1 := Lib.hid (RdE.keep (T := fun i => i ≠ b4 ∧ i ≠ b5) hg.size (fun j hj hl => hg.block j hl (by intro e; injection e with e; exact hj.2 e)) (fun _ h _ => h) _ _ E1.out)
  have F2 := Lib.hid (RdE.keep (T := fun i => i ≠ b4 ∧ i ≠ b5) hg.size (fun j hj hl => hg.block j hl (by intro e; injection e with e; exact hj.2 e)) (fun _ h _ => h) _ _ E2.out)
  clear V hg
  refine hK.out _ _ (HS.out _ BW1.out) (fun hS => ?_)
  clear hK K
  (try simp only [Act.put, List.setIfInBounds_toArray, List.set_cons_zero, List.set_cons_succ])
  clear BW K4 K5 E1 E2
  have BW := BW1
  have K4 := J4
  have K5 := J5
  have E1 := F1
  have E2 := F2
  clear BW1 J4 J5 F1 F2
  rename World => W
  refine wpAnyH_done (by kernel_rfl) ?_ _
  clear hS HS C1 C2 R1 R2 X0 X1 G4 G5 D45 HH HW2
  have B := Lib.hid (HB2.out.trans (BW.out.mono HB2.out.size))
  clear BW HB2
  obtain ⟨a1, a2, a3, a4⟩ := val_enc V1.out.1 V1.out.2.1 V1.out.2.2.1
  obtain ⟨d1, d2, d3, d4⟩ := val_enc V2.out.1 V2.out.2.1 V2.out.2.2.1
  have P1c := Lib.hid (fun (W : World) (v : Value) (h : RdE false (fun i => i ≠ b4 ∧ i ≠ b5) W e1 v) => rputE_any e1 v W h V1.out.1 (by omega))
  have P2c := Lib.hid (fun (W : World) (v : Value) (h : RdE false (fun i => i ≠ b4 ∧ i ≠ b5) W e2 v) => rputE_any e2 v W h V2.out.1 (by omega))
  have hd1 := V1.out.2.1
  have hd2 := V2.out.2.1
  have hcm := fun (W : World) (v v' : Value) (h : RdE false (fun i => i ≠ b4 ∧ i ≠ b5) W e1 v) (h' : RdE false (fun i => i ≠ b4 ∧ i ≠ b5) W e2 v') => ecmp_any e1 e2 v v' W (by omega) (by omega) (bnd_con V1.out.2.2.1) (bnd_con V2.out.2.2.1) h h'
  have hcn := fun (W : World) (v v' : Value) (h : RdE false (fun i => i ≠ b4 ∧ i ≠ b5) W e1 v) (h' : RdE false (fun i => i ≠ b4 ∧ i ≠ b5) W e2 v') => ecmp_any e2 e1 v' v W (by omega) (by omega) (bnd_con V2.out.2.2.1) (bnd_con V1.out.2.2.1) h' h
  have hcs := fun (W : World) (v : Value) (h : RdE false (fun i => i ≠ b4 ∧ i ≠ b5) W e1 v) => ecmp_any e1 e1 v v W (by omega) (by omega) (bnd_con V1.out.2.2.1) (bnd_con V1.out.2.2.1) h h
  have hsm := fun (W : World) (v v' : Value) (h : RdE false (fun i => i ≠ b4 ∧ i ≠ b5) W e1 v) (h' : RdE false (fun i => i ≠ b4 ∧ i ≠ b5) W e2 v') => esame_any e1 e2 v v' W (by omega) h h'
  rw [a1, d1] at hcm hcn
  rw [a1] at hcs
  dsimp only at hcm hcn hcs
  rw [cmpB_self] at hcs
  rw [cmpB_swap (encE e1) (encE e2)] at hcn
  have heq : (decide ((chkE e1 1 0).1 = 0) && eqE e1 e2) = decide (cmpB (encE e1) (encE e2) = 0) := by
    rw [decide_eq_true a2, Bool.true_and, Bool.eq_iff_iff, eqE_iff, decide_eq_true_iff, cmpB_zero]
    exact ⟨fun h => by rw [h], fun h => enc_inj a2 d2 (by omega) (by omega) h⟩
  rw [heq] at hsm
  have htri := cmpB_tri (encE e1) (encE e2)
  have HCM := Lib.hid hcm
  have HCN := Lib.hid hcn
  have HCS := Lib.hid hcs
  have HSM := Lib.hid hsm
  have HDD := Lib.hid (fun (h1 : All8 (encE e1)) (h2 : All8 (encE e2)) => (bstr_dec h1 h2).trans (show decide (encE e1 = encE e2) = decide (cmpB (encE e1) (encE e2) = 0) by rw [decide_eq_decide, cmpB_zero]))
  have HLE := Lib.hid (fun (h1 : All8 (encE e1)) (h2 : All8 (encE e2)) => less_bstr h1 h2)
  have H7 := Lib.hid (fun (h1 : All8 (encE e1)) (h2 : All8 (encE e2)) => less_bstr h2 h1)
  rw [cmpB_swap (encE e1) (encE e2)] at H7
  generalize cmpB (encE e1) (encE e2) = x at *
  clear hcm hcn hcs hsm heq a1 a2 a3 a4 d1 d2 d3 d4 hd1 hd2
  go_upto_region 2 with fail
  refine wp_region_held_drew (S := fun W => Bk W b4 29 [.int .u8 (p1 : Int), .bool k1, .int .u32 (q1 : Int), .slice P1 l1 r1, .slice Q1 m1 s1] ∧ Bk W b5 29 [.int .u8 (p2 : Int), .bool k2, .int .u32 (q2 : Int), .slice P2 l2 r2, .slice Q2 m2 s2]) (by kernel_rfl) ⟨K4.out, K5.out⟩ (fun hS => ?_)
  have hdr : Below W.heap.size W W.drew := ⟨rfl, rfl, rfl, Nat.le_refl _, fun _ _ => rfl⟩
  have B1 := Lib.hid (B.out.trans (hdr.mono B.out.size))
  have J4 := Lib.hid (K4.out.below hdr K4.out.lt)
  have J5 := Lib.hid (K5.out.below hdr K5.out.lt)
  have F1 := Lib.hid (E1.out.stay hdr)
  have F2 := Lib.hid (E2.out.stay hdr)
  clear B K4 K5 E1 E2
  have B := B1
  have K4 := J4
  have K5 := J5
  have E1 := F1
  have E2 := F2
  clear B1 J4 J5 F1 F2 hdr
  generalize W.drew = Wd at *
  rename World => W
  refine wpAnyH_take (i := 0) (oi := ⟨some 14, _, _, _, _, _⟩) (v := .agg #[.int .u8 (p1 : Int), .bool k1, .int .u32 (q1 : Int), .slice P1 l1 r1, .slice Q1 m1 s1]) rfl (by kernel_rfl) (by kernel_rfl) (by kernel_rfl) (fun _ _ _ h => h) (yieldsIf_load_mid (by rfl) 29 (.tmp 5) rfl (b4) 0 rfl [.int .u8 (p1 : Int), .bool k1, .int .u32 (q1 : Int), .slice P1 l1 r1, .slice Q1 m1 s1] _ (fun W h => rangeE h.1) Try.underlying29 rfl infoE5) hS ?_
  simp only [Act.put, List.setIfInBounds_toArray, List.set_cons_zero, List.set_cons_succ]
  refine wpAnyH_take (i := 3) (oi := ⟨some 17, _, _, _, _, _⟩) (v := .agg #[.int .u8 (p2 : Int), .bool k2, .int .u32 (q2 : Int), .slice P2 l2 r2, .slice Q2 m2 s2]) rfl (by kernel_rfl) (by kernel_rfl) (by kernel_rfl) (fun _ _ _ h => h) (yieldsIf_load_mid (by rfl) 29 (.tmp 6) rfl (b5) 0 rfl [.int .u8 (p2 : Int), .bool k2, .int .u32 (q2 : Int), .slice P2 l2 r2, .slice Q2 m2 s2] _ (fun W h => rangeE h.2) Try.underlying29 rfl infoE5) hS ?_
  simp only [Act.put, List.setIfInBounds_toArray, List.set_cons_zero, List.set_cons_succ]
  refine wpAnyH_ready (rs := [1]) (by kernel_rfl) (by simp) ?_
  refine AllReadyH.cons (o := _) rfl (fun K hK => ?_) (AllReadyH.nil)
  go_simp
  refine (P1c.out _ _ E1.out).mono ?_
  rintro r W1 ⟨D1, o1, rfl, hr1, ho1, hp1, hb⟩
  have B1 := Lib.hid (B.out.trans (hb.mono B.out.size))
  have J4 := Lib.hid (K4.out.below hb K4.out.lt)
  have J5 := Lib.hid (K5.out.below hb K5.out.lt)
  have F1 := Lib.hid (E1.out.stay hb)
  have F2 := Lib.hid (E2.out.stay hb)
  clear B K4 K5 E1 E2
  have B := B1
  have K4 := J4
  have K5 := J5
  have E1 := F1
  have E2 := F2
  clear B1 J4 J5 F1 F2 hb
  refine hK.out _ _ (⟨K4.out, K5.out⟩) (fun hS => ?_)
  clear hK K
  (try simp only [Act.put, List.setIfInBounds_toArray, List.set_cons_zero, List.set_cons_succ])
  rename World => W
  have hSS : (Bk W b4 29 [.int .u8 (p1 : Int), .bool k1, .int .u32 (q1 : Int), .slice P1 l1 r1, .slice Q1 m1 s1] ∧ Bk W b5 29 [.int .u8 (p2 : Int), .bool k2, .int .u32 (q2 : Int), .slice P2 l2 r2, .slice Q2 m2 s2]) ∧ Rb W D1 (encE e1) := ⟨hS, hr1⟩
  refine wpAnyH_mono (S' := fun W => (Bk W b4 29 [.int .u8 (p1 : Int), .bool k1, .int .u32 (q1 : Int), .slice P1 l1 r1, .slice Q1 m1 s1] ∧ Bk W b5 29 [.int .u8 (p2 : Int), .bool k2, .int .u32 (q2 : Int), .slice P2 l2 r2, .slice Q2 m2 s2]) ∧ Rb W D1 (encE e1)) (fun _ h => h.1) _ _ _ _ ?_
  clear hS
  have hS := hSS
  clear hSS
  refine wpAnyH_take (i := 2) (oi := ⟨some 16, _, _, _, _, _⟩) (v := .string (bstr (encE e1))) rfl (by kernel_rfl) (by kernel_rfl) (by kernel_rfl) (fun _ _ _ h => h) (Or.inl ⟨by rfl, fun w hSw => by (try dsimp only at hSw); have hcv := run_str8 (h := hSw.2) o1; go_simp⟩) hS ?_
  simp only [Act.put, List.setIfInBounds_toArray, List.set_cons_zero, List.set_cons_succ]
  refine wpAnyH_ready (rs := [4]) (by kernel_rfl) (by simp) ?_
  refine AllReadyH.cons (o := _) rfl (fun K hK => ?_) (AllReadyH.nil)
  go_simp
  refine (P2c.out _ _ E2.out).mono ?_
  rintro r W1 ⟨D2, o2, rfl, hr2, ho2, hp2, hb⟩
  have hr1b := hr1.below hb
  have B1 := Lib.hid (B.out.trans (hb.mono B.out.size))
  have J4 := Lib.hid (K4.out.below hb K4.out.lt)
  have J5 := Lib.hid (K5.out.below hb K5.out.lt)
  have F1 := Lib.hid (E1.out.stay hb)
  have F2 := Lib.hid (E2.out.stay hb)
  clear B K4 K5 E1 E2
  have B := B1
  have K4 := J4
  have K5 := J5
  have E1 := F1
  have E2 := F2
  clear B1 J4 J5 F1 F2 hb
  refine hK.out _ _ (⟨⟨K4.out, K5.out⟩, hr1b⟩) (fun hS => ?_)
  clear hK K
  (try simp only [Act.put, List.setIfInBounds_toArray, List.set_cons_zero, List.set_cons_succ])
  refine wpAnyH_take (i := 6) (oi := ⟨some 7, _, _, _, _, _⟩) (v := .string (bstr (encE e1))) rfl (by kernel_rfl) (by kernel_rfl) (by kernel_rfl) (fun _ _ _ h => h) (Or.inl ⟨by rfl, fun w hSw => by (try dsimp only at hSw); go_simp⟩) hS ?_
  simp only [Act.put, List.setIfInBounds_toArray, List.set_cons_zero, List.set_cons_succ]
  rename World => W
  have hSS : Rb W D2 (encE e2) ∧ True := ⟨hr2, trivial⟩
  refine wpAnyH_ready (rs := [5]) (by kernel_rfl) (by simp) ?_
  refine AllReadyH.cons (o := _) rfl (fun K hK => ?_) (AllReadyH.nil)
  have hcv := run_str8 (h := hr2) o2
  go_simp
  refine hK.out _ _ (⟨⟨K4.out, K5.out⟩, hr1b⟩) (fun hS => ?_)
  clear hK K
  (try simp only [Act.put, List.setIfInBounds_toArray, List.set_cons_zero, List.set_cons_succ])
  refine wpAnyH_take (i := 7) (oi := ⟨some 8, _, _, _, _, _⟩) (v := .string (bstr (encE e2))) rfl (by kernel_rfl) (by kernel_rfl) (by kernel_rfl) (fun _ _ _ h => h) (Or.inl ⟨by rfl, fun w hSw => by (try dsimp only at hSw); go_simp⟩) hS ?_
  simp only [Act.put, List.setIfInBounds_toArray, List.set_cons_zero, List.set_cons_succ]
  refine wpAnyH_done (by kernel_rfl) ?_ _
  have hl1 := HLE.out hr1b.2 hr2.2
  have hl2 := H7.out hr1b.2 hr2.2
  have hl3 := HDD.out hr1b.2 hr2.2
  clear hS hSS hr1 hr1b hr2 ho1 hp1 ho2 hp2 HLE H7 HDD P1c P2c
  rw [← bstr_list, ← bstr_list, ← ByteArray.toList_eq, ← ByteArray.toList_eq] at hl1 hl2
  generalize bstr (encE e1) = Z1 at *
  generalize bstr (encE e2) = Z2 at *
  obtain ⟨x0, x1, x2, x3, x4, xz⟩ := K4.out.five
  obtain ⟨y0, y1, y2, y3, y4, yz⟩ := K5.out.five
  rcases htri with rfl | rfl | rfl
  · have hq1 : Op.bytesLess Z1.toList Z2.toList = true := by rw [hl1]; decide
    have hq2 : (Z1.toList == Z2.toList) = false := by rw [hl3]; decide
    have hq3 : (!Z1.toList == Z2.toList) = true := by rw [hq2]; rfl
    clear hl1 hl2 hl3
    go_wp2_with fail
    clear x0 x1 x2 x3 x4 xz y0 y1 y2 y3 y4 yz
    refine (HCM.out _ _ _ E1.out E2.out).mono ?_
    rintro r W1 ⟨rfl, hb⟩
    have B1 := Lib.hid (B.out.trans (hb.mono B.out.size))
    have J4 := Lib.hid (K4.out.below hb K4.out.lt)
    have J5 := Lib.hid (K5.out.below hb K5.out.lt)
    have F1 := Lib.hid (E1.out.stay hb)
    have F2 := Lib.hid (E2.out.stay hb)
    clear B K4 K5 E1 E2
    have B := B1
    have K4 := J4
    have K5 := J5
    have E1 := F1
    have E2 := F2
    clear B1 J4 J5 F1 F2 hb
    rename World => W
    obtain ⟨x0, x1, x2, x3, x4, xz⟩ := K4.out.five
    obtain ⟨y0, y1, y2, y3, y4, yz⟩ := K5.out.five
    go_wp2_with fail
    clear x0 x1 x2 x3 x4 xz y0 y1 y2 y3 y4 yz
    refine (HCN.out _ _ _ E1.out E2.out).mono ?_
    rintro r W1 ⟨rfl, hb⟩
    have B1 := Lib.hid (B.out.trans (hb.mono B.out.size))
    have J4 := Lib.hid (K4.out.below hb K4.out.lt)
    have J5 := Lib.hid (K5.out.below hb K5.out.lt)
    have F1 := Lib.hid (E1.out.stay hb)
    have F2 := Lib.hid (E2.out.stay hb)
    clear B K4 K5 E1 E2
    have B := B1
    have K4 := J4
    have K5 := J5
    have E1 := F1
    have E2 := F2
    clear B1 J4 J5 F1 F2 hb
    rename World => W
    obtain ⟨x0, x1, x2, x3, x4, xz⟩ := K4.out.five
    obtain ⟨y0, y1, y2, y3, y4, yz⟩ := K5.out.five
    go_wp2_with fail
    clear x0 x1 x2 x3 x4 xz y0 y1 y2 y3 y4 yz
    refine (HSM.out _ _ _ E1.out E2.out).mono ?_
    rintro r W1 ⟨rfl, hb⟩
    have B1 := Lib.hid (B.out.trans (hb.mono B.out.size))
    have J4 := Lib.hid (K4.out.below hb K4.out.lt)
    have J5 := Lib.hid (K5.out.below hb K5.out.lt)
    have F1 := Lib.hid (E1.out.stay hb)
    have F2 := Lib.hid (E2.out.stay hb)
    clear B K4 K5 E1 E2
    have B := B1
    have K4 := J4
    have K5 := J5
    have E1 := F1
    have E2 := F2
    clear B1 J4 J5 F1 F2 hb
    rename World => W
    obtain ⟨x0, x1, x2, x3, x4, xz⟩ := K4.out.five
    obtain ⟨y0, y1, y2, y3, y4, yz⟩ := K5.out.five
    go_wp2_with fail
    clear x0 x1 x2 x3 x4 xz y0 y1 y2 y3 y4 yz
    refine (HCS.out _ _ E1.out).mono ?_
    rintro r W1 ⟨rfl, hb⟩
    have B1 := Lib.hid (B.out.trans (hb.mono B.out.size))
    have J4 := Lib.hid (K4.out.below hb K4.out.lt)
    have J5 := Lib.hid (K5.out.below hb K5.out.lt)
    have F1 := Lib.hid (E1.out.stay hb)
    have F2 := Lib.hid (E2.out.stay hb)
    clear B K4 K5 E1 E2
    have B := B1
    have K4 := J4
    have K5 := J5
    have E1 := F1
    have E2 := F2
    clear B1 J4 J5 F1 F2 hb
    rename World => W
    obtain ⟨x0, x1, x2, x3, x4, xz⟩ := K4.out.five
    obtain ⟨y0, y1, y2, y3, y4, yz⟩ := K5.out.five
    go_wp2_with fail
    refine (lives_any _).mono ?_
    rintro r W1 ⟨rfl, hb⟩
    have B1 := Lib.hid (B.out.trans (hb.mono B.out.size))
    clear hb B
    go_wp2_with fail
    go_ret
    exact ⟨rfl, B1.out⟩
  · have hq1 : Op.bytesLess Z1.toList Z2.toList = false := by rw [hl1]; decide
    have hq2 : (Z1.toList == Z2.toList) = true := by rw [hl3]; decide
    have hq3 : (!Z1.toList == Z2.toList) = false := by rw [hq2]; rfl
    clear hl1 hl2 hl3
    go_wp2_with fail
    clear x0 x1 x2 x3 x4 xz y0 y1 y2 y3 y4 yz
    refine (HCM.out _ _ _ E1.out E2.out).mono ?_
    rintro r W1 ⟨rfl, hb⟩
    have B1 := Lib.hid (B.out.trans (hb.mono B.out.size))
    have J4 := Lib.hid (K4.out.below hb K4.out.lt)
    have J5 := Lib.hid (K5.out.below hb K5.out.lt)
    have F1 := Lib.hid (E1.out.stay hb)
    have F2 := Lib.hid (E2.out.stay hb)
    clear B K4 K5 E1 E2
    have B := B1
    have K4 := J4
    have K5 := J5
    have E1 := F1
    have E2 := F2
    clear B1 J4 J5 F1 F2 hb
    rename World => W
    obtain ⟨x0, x1, x2, x3, x4, xz⟩ := K4.out.five
    obtain ⟨y0, y1, y2, y3, y4, yz⟩ := K5.out.five
    go_wp2_with fail
    clear x0 x1 x2 x3 x4 xz y0 y1 y2 y3 y4 yz
    refine (HCN.out _ _ _ E1.out E2.out).mono ?_
    rintro r W1 ⟨rfl, hb⟩
    have B1 := Lib.hid (B.out.trans (hb.mono B.out.size))
    have J4 := Lib.hid (K4.out.below hb K4.out.lt)
    have J5 := Lib.hid (K5.out.below hb K5.out.lt)
    have F1 := Lib.hid (E1.out.stay hb)
    have F2 := Lib.hid (E2.out.stay hb)
    clear B K4 K5 E1 E2
    have B := B1
    have K4 := J4
    have K5 := J5
    have E1 := F1
    have E2 := F2
    clear B1 J4 J5 F1 F2 hb
    rename World => W
    obtain ⟨x0, x1, x2, x3, x4, xz⟩ := K4.out.five
    obtain ⟨y0, y1, y2, y3, y4, yz⟩ := K5.out.five
    go_wp2_with fail
    clear x0 x1 x2 x3 x4 xz y0 y1 y2 y3 y4 yz
    refine (HSM.out _ _ _ E1.out E2.out).mono ?_
    rintro r W1 ⟨rfl, hb⟩
    have B1 := Lib.hid (B.out.trans (hb.mono B.out.size))
    have J4 := Lib.hid (K4.out.below hb K4.out.lt)
    have J5 := Lib.hid (K5.out.below hb K5.out.lt)
    have F1 := Lib.hid (E1.out.stay hb)
    have F2 := Lib.hid (E2.out.stay hb)
    clear B K4 K5 E1 E2
    have B := B1
    have K4 := J4
    have K5 := J5
    have E1 := F1
    have E2 := F2
    clear B1 J4 J5 F1 F2 hb
    rename World => W
    obtain ⟨x0, x1, x2, x3, x4, xz⟩ := K4.out.five
    obtain ⟨y0, y1, y2, y3, y4, yz⟩ := K5.out.five
    go_wp2_with fail
    clear x0 x1 x2 x3 x4 xz y0 y1 y2 y3 y4 yz
    refine (HCS.out _ _ E1.out).mono ?_
    rintro r W1 ⟨rfl, hb⟩
    have B1 := Lib.hid (B.out.trans (hb.mono B.out.size))
    have J4 := Lib.hid (K4.out.below hb K4.out.lt)
    have J5 := Lib.hid (K5.out.below hb K5.out.lt)
    have F1 := Lib.hid (E1.out.stay hb)
    have F2 := Lib.hid (E2.out.stay hb)
    clear B K4 K5 E1 E2
    have B := B1
    have K4 := J4
    have K5 := J5
    have E1 := F1
    have E2 := F2
    clear B1 J4 J5 F1 F2 hb
    rename World => W
    obtain ⟨x0, x1, x2, x3, x4, xz⟩ := K4.out.five
    obtain ⟨y0, y1, y2, y3, y4, yz⟩ := K5.out.five
    go_wp2_with fail
    refine (lives_any _).mono ?_
    rintro r W1 ⟨rfl, hb⟩
    have B1 := Lib.hid (B.out.trans (hb.mono B.out.size))
    clear hb B
    go_wp2_with fail
    go_ret
    exact ⟨rfl, B1.out⟩
  · have hq1 : Op.bytesLess Z1.toList Z2.toList = false := by rw [hl1]; decide
    have hq2 : (Z1.toList == Z2.toList) = false := by rw [hl3]; decide
    have hq3 : (!Z1.toList == Z2.toList) = true := by rw [hq2]; rfl
    clear hl1 hl2 hl3
    go_wp2_with fail
    clear x0 x1 x2 x3 x4 xz y0 y1 y2 y3 y4 yz
    refine (HCM.out _ _ _ E1.out E2.out).mono ?_
    rintro r W1 ⟨rfl, hb⟩
    have B1 := Lib.hid (B.out.trans (hb.mono B.out.size))
    have J4 := Lib.hid (K4.out.below hb K4.out.lt)
    have J5 := Lib.hid (K5.out.below hb K5.out.lt)
    have F1 := Lib.hid (E1.out.stay hb)
    have F2 := Lib.hid (E2.out.stay hb)
    clear B K4 K5 E1 E2
    have B := B1
    have K4 := J4
    have K5 := J5
    have E1 := F1
    have E2 := F2
    clear B1 J4 J5 F1 F2 hb
    rename World => W
    obtain ⟨x0, x1, x2, x3, x4, xz⟩ := K4.out.five
    obtain ⟨y0, y1, y2, y3, y4, yz⟩ := K5.out.five
    go_wp2_with fail
    clear x0 x1 x2 x3 x4 xz y0 y1 y2 y3 y4 yz
    refine (HCN.out _ _ _ E1.out E2.out).mono ?_
    rintro r W1 ⟨rfl, hb⟩
    have B1 := Lib.hid (B.out.trans (hb.mono B.out.size))
    have J4 := Lib.hid (K4.out.below hb K4.out.lt)
    have J5 := Lib.hid (K5.out.below hb K5.out.lt)
    have F1 := Lib.hid (E1.out.stay hb)
    have F2 := Lib.hid (E2.out.stay hb)
    clear B K4 K5 E1 E2
    have B := B1
    have K4 := J4
    have K5 := J5
    have E1 := F1
    have E2 := F2
    clear B1 J4 J5 F1 F2 hb
    rename World => W
    obtain ⟨x0, x1, x2, x3, x4, xz⟩ := K4.out.five
    obtain ⟨y0, y1, y2, y3, y4, yz⟩ := K5.out.five
    go_wp2_with fail
    clear x0 x1 x2 x3 x4 xz y0 y1 y2 y3 y4 yz
    refine (HSM.out _ _ _ E1.out E2.out).mono ?_
    rintro r W1 ⟨rfl, hb⟩
    have B1 := Lib.hid (B.out.trans (hb.mono B.out.size))
    have J4 := Lib.hid (K4.out.below hb K4.out.lt)
    have J5 := Lib.hid (K5.out.below hb K5.out.lt)
    have F1 := Lib.hid (E1.out.stay hb)
    have F2 := Lib.hid (E2.out.stay hb)
    clear B K4 K5 E1 E2
    have B := B1
    have K4 := J4
    have K5 := J5
    have E1 := F1
    have E2 := F2
    clear B1 J4 J5 F1 F2 hb
    rename World => W
    obtain ⟨x0, x1, x2, x3, x4, xz⟩ := K4.out.five
    obtain ⟨y0, y1, y2, y3, y4, yz⟩ := K5.out.five
    go_wp2_with fail
    clear x0 x1 x2 x3 x4 xz y0 y1 y2 y3 y4 yz
    refine (HCS.out _ _ E1.out).mono ?_
    rintro r W1 ⟨rfl, hb⟩
    have B1 := Lib.hid (B.out.trans (hb.mono B.out.size))
    have J4 := Lib.hid (K4.out.below hb K4.out.lt)
    have J5 := Lib.hid (K5.out.below hb K5.out.lt)
    have F1 := Lib.hid (E1.out.stay hb)
    have F2 := Lib.hid (E2.out.stay hb)
    clear B K4 K5 E1 E2
    have B := B1
    have K4 := J4
    have K5 := J5
    have E1 := F1
    have E2 := F2
    clear B1 J4 J5 F1 F2 hb
    rename World => W
    obtain ⟨x0, x1, x2, x3, x4, xz⟩ := K4.out.five
    obtain ⟨y0, y1, y2, y3, y4, yz⟩ := K5.out.five
    go_wp2_with fail
    refine (lives_any _).mono ?_
    rintro r W1 ⟨rfl, hb⟩
    have B1 := Lib.hid (B.out.trans (hb.mono B.out.size))
    clear hb B
    go_wp2_with fail
    go_ret
    exact ⟨rfl, B1.out⟩

open Go.ChangeShapes Go.WideShapes Go.ChangeAt
set_option maxRecDepth 100000 in
theorem elementsOrder_lifted (os : Os) (started : os.Started) (H : Type) (enc : TypeId × Value → H) :
    ReturnsInHanded {} Try.checked os 7 .any (Rows.elementsOrderSpec.pre6 enc Try.prog Try.f7 Rows.elementsOrderRow.domain false) (Rows.elementsOrderSpec.post enc Try.prog Try.f7 false true false false) := by
  refine returnsInHanded_of_change (C := Try.checked) x_own started (by kernel_rfl) Try.func7
    (ChangeSpec.witness6 (enc := enc) (C := Try.checked) false ⟨#[], #[.agg #[.slice none 0 0], .agg #[.slice none 0 0]], []⟩ 8 (by kernel_rfl) (by kernel_rfl) (by kernel_rfl) (by kernel_rfl)) ?_
  intro W base args ds gs before hval0 hW hcnd _
  have hval : ∀ (j : Nat) t v, Try.f7.params[j]? = some t → args[j]? = some v → Value.okWide Try.prog W .any base t v := hval0
  have hW' := hW
  obtain ⟨p, q, hA0, hV, rfl, hfz, hnd⟩ := hW
  have hA : DataW.TrodAll enc Try.prog W 0 (fun _ => true) true Try.f7.params.toList args.toList ds p := hA0
  rw [Try.params7] at hA hval
  obtain ⟨v0, v1, d0, d1, p0, p1, rfl, rfl, rfl, h0, h1⟩ := trodAll_two hA
  obtain ⟨rfl, rfl⟩ := trodVars_none hV
  obtain ⟨A1, gs1, c1, rfl, hA1, hc1, hm1⟩ := open_E (hval 0 _ v0 rfl rfl) h0
  obtain ⟨A2, gs2, c2, rfl, hA2, hc2, hm2⟩ := open_E (hval 1 _ v1 rfl rfl) h1
  clear hA0 hval0
  refine (order_walk A1 gs1 gs1.length c1 A2 gs2 gs2.length c2 W hA1 rfl hc1 hm1 hA2 rfl hc2 hm2).mono fun e W' ⟨he, hb⟩ => ?_
  subst he
  exact ⟨_, rfl, law_post (tb := 4) x_laid (by decide +kernel) rfl rfl (by kernel_rfl) Try.underlying4 hW' hb⟩

/-- The statement. -/
theorem elementsOrder_holds : Rows.ElementsOrderSaid :=
  OpenClaim.holds_of_wide 7 Try.f7 rfl rfl rfl rfl rfl rfl rfl ⟨rfl, rfl, rfl, rfl, rfl⟩ rfl rfl rfl rfl rfl (by kernel_rfl) Try.func7 (by kernel_rfl)
    (of_decide_eq_true (by kernel_rfl)) (by unfold Func.isWrapper; first | (rw [if_pos (by decide +kernel)]; kernel_rfl) | (rw [if_neg (by decide +kernel)]; exact ⟨rfl, rfl⟩))
    (fun os started H enc _ => elementsOrder_lifted os started H enc)
end Go.Proofs.Ytgdjgahmnnjeeaa
