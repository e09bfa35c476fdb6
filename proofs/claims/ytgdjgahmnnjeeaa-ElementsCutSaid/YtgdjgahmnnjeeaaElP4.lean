/-
  Layer 4, the statement ElementsCut: a proper prefix of an encoding is ErrShort at its end; the examples of the chapter hold.
  Conditions: none.
-/
import Derived.Test.YtgdjgahmnnjeeaaElOh
import Derived.Test.YtgdjgahmnnjeeaaElPu
namespace Go.Proofs.Ytgdjgahmnnjeeaa
open Go.ChangeShapes Go.WideShapes Go.ChangeAt Go.RowKit

theorem sl8 (A : Option Addr) (n c k : Nat) (h : k ≤ c) (W : World) : (Instr.slice 26 (.slice A n c) none (some (.int .i64 (k : Int))) none).run Try.prog W = .ok (.slice A k c) W := by
  have hsz : (sizeOf (Try.prog.elem 26)).run Try.prog W = .ok 1 W := by kernel_rfl
  rw [run_slice_h (P := Try.prog) W 26 A n c (by kernel_rfl) .i64 (k : Int) (by omega) (by omega), hsz]
  simp only [Result.andThen, Int.toNat_natCast, sl0]
set_option maxRecDepth 100000 in
theorem open_u16 {H : Type} {enc : TypeId × Value → H} {W : World} {base : Nat} {d : DataW H} {v : Value} {ps : List MemPlace} {r : Reach} (hval : Value.okWide Try.prog W r base 56 v) (hd : DataW.Trod enc Try.prog W 0 (fun _ => true) true 56 v d ps) : ∃ n : Nat, v = .int .u16 (n : Int) ∧ n < 65536 := by
  obtain ⟨z, rfl, _, _, hw⟩ := open_int Try.underlying56 hval hd
  have hr : 0 ≤ z ∧ z < 65536 := by
    revert hw
    simp [Lit.wf, IntKind.min, IntKind.max, IntKind.signed, IntKind.bits]
    omega
  exact ⟨z.toNat, by rw [Int.toNat_of_nonneg hr.1], by omega⟩
theorem cut_get {e : El} (hv : valE e) (hl : (encE e).length ≤ 12540) {k : Nat} (hk : k < (encE e).length) : nextX ((encE e).take k) = .err 7 k ∧ getX ((encE e).take k) = .err 7 k := by
  have h1 : nextX ((encE e).take k) = .err 7 k := by
    unfold nextX
    rw [if_neg (by rw [List.length_take]; omega)]
    exact nx_cut e 16 1 0 k hv (by omega) (by omega) (by omega) hk
  exact ⟨h1, by unfold getX; rw [h1]⟩

set_option maxHeartbeats 4000000 in
set_option maxRecDepth 100000 in
theorem cut_walk (A : Option Addr) (gs : List Gd) (N c left : Nat) (w : World) (hA : RdG w A gs) (hN : gs.length = N) (hc : N ≤ c) (hm : c ≤ maxLen) (hleft : left < 65536) :
    Calls Try.prog 6 #[.agg #[.slice A N c], .int .u16 (left : Int)] w fun e w' => e = .returned (.bool true) ∧ Below w.heap.size w w' := by
  obtain ⟨W0, hW0⟩ : ∃ W0, w.alloc (.cells #[.slice A N c] 47) = W0 := ⟨_, rfl⟩
  have hb0 : Below w.heap.size w W0 := by rw [← hW0]; exact bel1 w _
  have k0 : Bk W0 w.heap.size 47 [.slice A N c] := by rw [← hW0]; exact Bk.new w _ [_]
  obtain ⟨G, hG⟩ : ∃ G, w.heap.size = G := ⟨_, rfl⟩
  have HC := Lib.hid (of_E A gs N c W0 (hA.stay hb0) hN hc hm)
  have HB0 := Lib.hid hb0
  have HW0 := Lib.hid hW0
  have HG := Lib.hid hG
  rw [hG] at k0
  have c0 := k0.cell 0
  simp only [List.getElem?_cons_zero] at c0
  have cz := k0.lt
  clear hA hN hc hm hW0 hG hb0 k0
  go_enter Try.func6, Try.ntmps6
  go_upto_region 1 with fail
  rw [HW0.out, HG.out]
  go_wp2_with fail
  refine HC.out.mono ?_
  rintro r w1 ⟨e, u, rfl, hv, hd, hbd, hcn, hE, hb⟩
  have HB1 := Lib.hid (HB0.out.trans (hb.mono HB0.out.size))
  obtain ⟨he1, he2, he3, he4⟩ := val_enc hv hd hbd
  have hput := eput_any e u w1 (by omega) hE (bnd_con hbd)
  rw [he1] at hput
  have HP := Lib.hid hput
  obtain ⟨L, hL⟩ : ∃ L, (encE e).length = L := ⟨_, rfl⟩
  have hLt : (left : Int).tmod (L : Int) = ((left % L : Nat) : Int) := by rw [Int.tmod_eq_emod_of_nonneg (by omega)]; rfl
  have hLe : (left : Int) % (L : Int) = ((left % L : Nat) : Int) := rfl
  have hk : left % L < L := Nat.mod_lt _ (by omega)
  obtain ⟨k, hkk⟩ : ∃ k, left % L = k := ⟨_, rfl⟩
  rw [hkk] at hLt hLe hk
  obtain ⟨hn, hg⟩ := cut_get hv he4 (k := k) (by omega)
  have hlk : ((encE e).take k).length = k := by rw [List.length_take]; omega
  have HN := Lib.hid hn
  have HGT := Lib.hid hg
  have HLK := Lib.hid hlk
  have HLL := Lib.hid hL
  have hL0 : 0 < L := by omega
  have hLm : L ≤ 12540 := by omega
  clear hb hv hd hbd hcn hE he1 he2 he3 he4 hput hkk hn hg hlk hL HC HB0
  go_wp2_with fail
  refine HP.out.mono ?_
  rintro r w2 ⟨P, rfl, hP, h8, hb⟩
  have HB2 := Lib.hid (HB1.out.trans (hb.mono HB1.out.size))
  have hPs := hP (by intro h; have := congrArg List.length h; rw [cs8_len, HLL.out] at this; simp at this; omega)
  obtain ⟨pb, po, rfl, hpl, _, _⟩ := hPs
  have HR := Lib.hid (show Rb w2 (some ⟨pb, po, none⟩) ((encE e).take k) from (show Rb w2 (some ⟨pb, po, none⟩) (encE e) from ⟨hP.rd, h8⟩).take_ k)
  have hnx := next_any (cap := L) w2 HR.out HLK.out (by omega) (by unfold maxLen; omega) (.inr ⟨pb, po, rfl, hpl⟩)
  rw [HN.out] at hnx
  have HNX := Lib.hid hnx
  have HPL := Lib.hid hpl
  have hsl := sl8 (some ⟨pb, po, none⟩) L L k (by omega)
  rw [HLL.out]
  have hL00 : ((L : Int) == 0) = false := by simp; omega
  clear hP h8 hb hnx hpl HP HB1
  go_wp2_with fail
  refine HNX.out.mono ?_
  rintro r w3 ⟨_, rfl, hb⟩
  have HB3 := Lib.hid (HB2.out.trans (hb.mono HB2.out.size))
  have HR3 := Lib.hid (HR.out.below hb)
  have HPL3 := Lib.hid (Nat.lt_of_lt_of_le HPL.out hb.size)
  obtain ⟨D, hD⟩ : ∃ D, w3.heap.size = D := ⟨_, rfl⟩
  obtain ⟨wz, hwz⟩ : ∃ wz, w3.alloc (.cells #[.int .u8 0, .bool false, .int .u32 0, .slice none 0 0, .slice none 0 0] 29) = wz := ⟨_, rfl⟩
  have hkz : Bk wz D 29 elZ := by rw [← hwz, ← hD]; exact Bk.new w3 _ elZ
  have hbz : Below D w3 wz := by rw [← hwz, ← hD]; exact bel1 w3 _
  obtain ⟨z0, z1, z2, z3, z4, zz⟩ := hkz.five
  obtain ⟨g0, g1, g2, g3, g4⟩ := hkz.free5
  obtain ⟨w4, hw4⟩ : ∃ w4, (((((wz.setCell ⟨D, 0, none⟩ (.int .u8 0)).setCell ⟨D, 1, none⟩ (.bool false)).setCell ⟨D, 2, none⟩ (.int .u32 0)).setCell ⟨D, 3, none⟩ (.slice none 0 0)).setCell ⟨D, 4, none⟩ (.slice none 0 0)) = w4 := ⟨_, rfl⟩
  have hk4 : Bk w4 D 29 elZ := by rw [← hw4]; exact ((((hkz.store 0 (.int .u8 0)).store 1 (.bool false)).store 2 (.int .u32 0)).store 3 (.slice none 0 0)).store 4 (.slice none 0 0)
  have hl := Nat.le_refl D
  have hb4 : Below w3.heap.size w3 w4 := by rw [hD, ← hw4]; exact ((((hbz.setCell (p := ⟨D, 0, none⟩) hl _).setCell (p := ⟨D, 1, none⟩) hl _).setCell (p := ⟨D, 2, none⟩) hl _).setCell (p := ⟨D, 3, none⟩) hl _).setCell (p := ⟨D, 4, none⟩) hl _
  have HB4 := Lib.hid (HB3.out.trans (hb4.mono HB3.out.size))
  have HK4 := Lib.hid hk4
  have hgot := got_any (cap := L) w4 (HR3.out.below hb4) HLK.out (by omega) (by unfold maxLen; omega) (.inr ⟨pb, po, rfl, Nat.lt_of_lt_of_le HPL3.out hb4.size⟩) (x := zE) (a := k) (f := 7) (by rw [HGT.out]; rfl) (by decide +kernel) (rd_zero false (fun _ => True) w4)
  have HGOT := Lib.hid hgot
  obtain ⟨x0, x1, x2, x3, x4, xz⟩ := hk4.five
  clear hb hkz hbz hk4 hb4 hgot hl HNX HR HR3 HB2 HB3 HPL HPL3
  go_wp2_with fail
  clear z0 z1 z2 z3 z4 zz g0 g1 g2 g3 g4 hw4 hwz hD x0 x1 x2 x3 x4 xz
  refine HGOT.out.mono ?_
  rintro r w5 ⟨rfl, hb⟩
  have HB5 := Lib.hid (HB4.out.trans (hb.mono HB4.out.size))
  have HK5 := Lib.hid (HK4.out.below hb HK4.out.lt)
  obtain ⟨x0, x1, x2, x3, x4, xz⟩ := HK5.out.five
  clear hb HB4 HK4 HGOT
  go_wp2_with fail
  clear x0 x1 x2 x3 x4 xz
  refine (rsame_any zE _ _ w5 (rd_zero false (fun _ => True) w5) (rd_zero false (fun _ => True) w5)).mono ?_
  rintro r w6 ⟨rfl, hb⟩
  have HB6 := Lib.hid (HB5.out.trans (hb.mono HB5.out.size))
  clear hb HB5 HK5
  have hkk : ((k : Int) == (k : Int)) = true := by simp
  go_wp2_with fail
  refine (lives_any w6).mono ?_
  rintro r w7 ⟨rfl, hb⟩
  have HB7 := Lib.hid (HB6.out.trans (hb.mono HB6.out.size))
  clear hb HB6
  go_wp2_with fail
  go_ret
  exact ⟨rfl, HB7.out⟩

open Go.ChangeShapes Go.WideShapes Go.ChangeAt
set_option maxRecDepth 100000 in
theorem elementsCut_lifted (os : Os) (started : os.Started) (H : Type) (enc : TypeId × Value → H) :
    ReturnsInHanded {} Try.checked os 6 .any (Rows.elementsCutSpec.pre6 enc Try.prog Try.f6 Rows.elementsCutRow.domain false) (Rows.elementsCutSpec.post enc Try.prog Try.f6 false true false false) := by
  refine returnsInHanded_of_change (C := Try.checked) x_own started (by kernel_rfl) Try.func6
    (ChangeSpec.witness6 (enc := enc) (C := Try.checked) false ⟨#[], #[.agg #[.slice none 0 0], .int .u16 0], []⟩ 8 (by kernel_rfl) (by kernel_rfl) (by kernel_rfl) (by kernel_rfl)) ?_
  intro W base args ds gs before hval0 hW hcnd _
  have hval : ∀ (j : Nat) t v, Try.f6.params[j]? = some t → args[j]? = some v → Value.okWide Try.prog W .any base t v := hval0
  have hW' := hW
  obtain ⟨p, q, hA0, hV, rfl, hfz, hnd⟩ := hW
  have hA : DataW.TrodAll enc Try.prog W 0 (fun _ => true) true Try.f6.params.toList args.toList ds p := hA0
  rw [Try.params6] at hA hval
  obtain ⟨v0, v1, d0, d1, p0, p1, rfl, rfl, rfl, h0, h1⟩ := trodAll_two hA
  obtain ⟨rfl, rfl⟩ := trodVars_none hV
  obtain ⟨A, gs, c, rfl, hA2, hlc, hm⟩ := open_E (hval 0 _ v0 rfl rfl) h0
  obtain ⟨left, rfl, hleft⟩ := open_u16 (hval 1 _ v1 rfl rfl) h1
  clear hA0 hval0
  refine (cut_walk A gs gs.length c left W hA2 rfl hlc hm hleft).mono fun e W' ⟨he, hb⟩ => ?_
  subst he
  exact ⟨_, rfl, law_post (tb := 4) x_laid (by decide +kernel) rfl rfl (by kernel_rfl) Try.underlying4 hW' hb⟩

/-- The statement. -/
theorem elementsCut_holds : Rows.ElementsCutSaid :=
  OpenClaim.holds_of_wide 6 Try.f6 rfl rfl rfl rfl rfl rfl rfl ⟨rfl, rfl, rfl, rfl, rfl⟩ rfl rfl rfl rfl rfl (by kernel_rfl) Try.func6 (by kernel_rfl)
    (of_decide_eq_true (by kernel_rfl)) (by unfold Func.isWrapper; first | (rw [if_pos (by decide +kernel)]; kernel_rfl) | (rw [if_neg (by decide +kernel)]; exact ⟨rfl, rfl⟩))
    (fun os started H enc _ => elementsCut_lifted os started H enc)
end Go.Proofs.Ytgdjgahmnnjeeaa
