/-
  Layer 12: FieldsKnown: the examples of the chapter; the greatest number of fields; offsets behind long lengths.
  Conditions: none.
-/
import Derived.Test.YtfbdeefeagednaaFlKa
import Derived.Deep.CutBlock
namespace Go.Proofs.Ytfbdeefeagednaa.Fl
open Go.RowKit

set_option linter.unusedSimpArgs false in
set_option maxHeartbeats 8000000 in
set_option maxRecDepth 100000 in
theorem known_law (w : World) :
    Calls Try.prog 4 #[] w fun e w' => e = .returned (.bool true) ∧ Below w.heap.size w w' := by
  have B := Lib.hid (Below.refl w.heap.size w)
  obtain ⟨L0, hL0, hmk⟩ := make_F w
  obtain ⟨w1, hw1⟩ : ∃ v, w.alloc (.cells L0.toArray 54) = v := ⟨_, rfl⟩
  obtain ⟨gL, hgL⟩ : ∃ g, w.heap.size = g := ⟨_, rfl⟩
  have KL := Lib.hid (show Bk w1 gL 54 L0 by rw [← hw1, ← hgL]; exact Bk.new w _ _)
  replace B := Lib.hid (show Below w.heap.size w w1 by rw [← hw1]; exact bel1 _ _)
  rw [hw1] at hmk
  have HGL := Lib.hid hgL
  have HL0 := Lib.hid hL0
  clear hw1 hgL hL0
  go_enter Try.func4, Try.ntmps4
  go_upto_block 0 with fail
  rw [HGL.out]
  clear hmk
  go_cut [] (fun wx => Bk wx gL 54 (csF (List.replicate 257 aFd)) ∧ Below w.heap.size w wx)
  case first =>
    go_wp2_with fail
    go_loopw [2] (fun z wr => ∃ (q : Nat) (R : List Value), z = .int .i64 (q : Int) ∧ q ≤ 257 ∧ R.length = (257 - q) * 5 ∧ Bk wr gL 54 (csF (List.replicate q aFd) ++ R) ∧ Below w.heap.size w wr) (fun z _ => 257 - (intOf z).toNat)
    case atStart => exact ⟨0, L0, rfl, Nat.zero_le _, HL0.out, KL.out, B.out⟩
    case round =>
      obtain ⟨q, R, rfl, hq, hRl, hk, hb⟩ := hrel
      clear KL B
      by_cases hlt : q < 257
      · have hlb : decide ((q : Int) < 257) = true := by simp; omega
        obtain ⟨a0, a1, a2, a3, a4, R', rfl, hR'⟩ := five_of (n := 256 - q) (R := R) (by rw [hRl]; omega)
        have hcl : (csF (List.replicate q aFd)).length = q * 5 := by rw [csF_len, List.length_replicate]
        have kS := fun j => hk.cell (q * 5 + j)
        have y0 : wr.cell? ⟨gL, q * 5, none⟩ = some a0 := by have := kS 0; rw [List.getElem?_append_right (by omega), show q * 5 + 0 - (csF (List.replicate q aFd)).length = 0 by omega] at this; exact this
        have y1 : wr.cell? ⟨gL, q * 5 + 1, none⟩ = some a1 := by have := kS 1; rw [List.getElem?_append_right (by omega), show q * 5 + 1 - (csF (List.replicate q aFd)).length = 1 by omega] at this; exact this
        have y2 : wr.cell? ⟨gL, q * 5 + 2, none⟩ = some a2 := by have := kS 2; rw [List.getElem?_append_right (by omega), show q * 5 + 2 - (csF (List.replicate q aFd)).length = 2 by omega] at this; exact this
        have y3 : wr.cell? ⟨gL, q * 5 + 3, none⟩ = some a3 := by have := kS 3; rw [List.getElem?_append_right (by omega), show q * 5 + 3 - (csF (List.replicate q aFd)).length = 3 by omega] at this; exact this
        have y4 : wr.cell? ⟨gL, q * 5 + 4, none⟩ = some a4 := by have := kS 4; rw [List.getElem?_append_right (by omega), show q * 5 + 4 - (csF (List.replicate q aFd)).length = 4 by omega] at this; exact this
        have x0 : wr.frozen? ⟨gL, q * 5, none⟩ = false := hk.free (q * 5)
        have x1 : wr.frozen? ⟨gL, q * 5 + 1, none⟩ = false := hk.free (q * 5 + 1)
        have x2 : wr.frozen? ⟨gL, q * 5 + 2, none⟩ = false := hk.free (q * 5 + 2)
        have x3 : wr.frozen? ⟨gL, q * 5 + 3, none⟩ = false := hk.free (q * 5 + 3)
        have x4 : wr.frozen? ⟨gL, q * 5 + 4, none⟩ = false := hk.free (q * 5 + 4)
        have hst := st5 (w0 := w) (o := q * 5) (v0 := .int .u8 0) (v1 := .bool false) (v2 := .int .u32 0) (v3 := .bool true) (v4 := .bool true) hk hb (by rw [HGL.out]; exact Nat.le_refl _)
        rw [set5 hcl, csF_snoc] at hst
        have HST := Lib.hid hst
        have HRL := Lib.hid hR'
        clear hst hk hb kS hcl hR' hRl
        go_wp2_with fail
        exact ⟨⟨q + 1, R', by go_num, hlt, by rw [HRL.out]; omega, HST.out.1, HST.out.2⟩, by simp [intOf]; omega⟩
      · obtain rfl : q = 257 := by omega
        have hR0 : R = [] := List.eq_nil_of_length_eq_zero (by omega)
        subst hR0
        rw [List.append_nil] at hk
        have HK := Lib.hid hk
        have HB := Lib.hid hb
        clear hk hb hRl
        go_wp2_with fail
        go_meet
        exact ⟨HK.out, HB.out⟩
  case rest =>
    obtain ⟨hk, hb⟩ := hcut
    generalize wc = wx at *
    have KLx := Lib.hid hk
    have RF0 := Lib.hid (show Rd wx (some ⟨gL, 0, none⟩) (csF (List.replicate 257 aFd)) from by have := hk.rd 0; simpa using this)
    replace B := Lib.hid hb
    clear hk hb KL KLx HL0
    go_upto_region 6 with fail
    go_cut [3, 4] (fun z3 z4 wy => ∃ A5 A6 D, z3 = .slice A5 256 256 ∧ z4 = .pointer (some ⟨D, 0, none⟩) ∧ Bk wy D 38 [.slice A6 0 0, .int .i64 0] ∧ Rd wy A5 (csZ iL) ∧ Below wx.heap.size wx wy)
    case first =>
      obtain ⟨hsl, hrs⟩ := l256 gL
      have HSR := Lib.hid (show ∀ W, Below wx.heap.size wx W → Below wx.heap.size wx W from fun W hW => hW)
      refine wp_region_held_drew (S := fun W => Below wx.heap.size wx W) (by kernel_rfl) (HSR.out _ (Below.refl wx.heap.size wx).drew) (fun hS => ?_)
      obtain ⟨wd, hwd⟩ : ∃ v, wx.drew = v := ⟨_, rfl⟩
      have d0 : Below wx.heap.size wx wd := by rw [← hwd]; exact (Below.refl wx.heap.size wx).drew
      have RFx := Lib.hid (RF0.out.below d0)
      have RFs := Lib.hid (hrs _ (RF0.out.below d0))
      rw [hwd] at hS ⊢
      clear hwd
      refine wpAnyH_take (i := 2) (oi := ⟨some 23, _, _, _, _, _⟩) (v := .slice (some ⟨gL, 0, none⟩) 257 257) rfl (by kernel_rfl) (by kernel_rfl) (by kernel_rfl) (fun _ _ _ h => h) (Or.inl ⟨by rfl, fun w _ => by go_simp⟩) hS ?_
      (try simp only [Act.put, List.setIfInBounds_toArray, List.set_cons_zero, List.set_cons_succ])
      refine wpAnyH_take (i := 3) (oi := ⟨some 24, _, _, _, _, _⟩) (v := .slice (some ⟨gL, 0, none⟩) 256 257) rfl (by kernel_rfl) (by kernel_rfl) (by kernel_rfl) (fun _ _ _ h => h) (Or.inl ⟨by rfl, fun w _ => by go_simp⟩) hS ?_
      (try simp only [Act.put, List.setIfInBounds_toArray, List.set_cons_zero, List.set_cons_succ])
      refine wpAnyH_ready (rs := [0, 8]) (by kernel_rfl) (by simp) ?_
      refine AllReadyH.cons (o := _) rfl (fun K hK => ?_) (AllReadyH.cons (o := _) rfl (fun K hK => ?_) (AllReadyH.nil))
      · go_simp
        refine (known_any _).mono ?_
        rintro e wC0 ⟨BK, rfl, hkn, hv⟩
        have KN := Lib.hid (show RdE false (fun _ => True) _ knE (elV 0 16 true (.slice none 0 0) (.slice BK 2 2)) from anyE hkn)
        have d1 : Below wx.heap.size wx wC0 := d0.trans (hv.mono d0.size)
        replace RFx := Lib.hid (RFx.out.below hv)
        replace RFs := Lib.hid (RFs.out.below hv)
        clear hv hkn
        refine hK.out _ _ (HSR.out _ d1) (fun hS9 => ?_)
        clear hK K hS
        have hS := hS9
        clear hS9
        (try simp only [Act.put, List.setIfInBounds_toArray, List.set_cons_zero, List.set_cons_succ])
        refine wpAnyH_ready (rs := [1, 8]) (by kernel_rfl) (by simp) ?_
        refine AllReadyH.cons (o := _) rfl (fun K hK => ?_) (AllReadyH.cons (o := _) rfl (fun K hK => ?_) (AllReadyH.nil))
        · go_simp
          refine (tag_any 0 0 16 true _ (by decide) rfl).mono ?_
          rintro e wC1 ⟨rfl, hv⟩
          have d2 : Below wx.heap.size wx wC1 := d1.trans (hv.mono d1.size)
          replace RFx := Lib.hid (RFx.out.below hv)
          replace RFs := Lib.hid (RFs.out.below hv)
          replace KN := Lib.hid (KN.out.stay hv)
          clear hv
          refine hK.out _ _ (HSR.out _ d2) (fun hS9 => ?_)
          clear hK K hS
          have hS := hS9
          clear hS9
          (try simp only [Act.put, List.setIfInBounds_toArray, List.set_cons_zero, List.set_cons_succ])
          refine wpAnyH_ready (rs := [4, 8]) (by kernel_rfl) (by simp) ?_
          refine AllReadyH.cons (o := _) rfl (fun K hK => ?_) (AllReadyH.cons (o := _) rfl (fun K hK => ?_) (AllReadyH.nil))
          · go_simp
            refine (seq_kn _ BK 0 16 true (List.replicate 256 aFd) (some ⟨gL, 0, none⟩) 256 257 KN.out RFs.out (by rw [List.length_replicate]) (by decide) iL [] 0 sq256).mono ?_
            rintro e wC4 ⟨A5, n5, c5, A6, m6, d6, rfl, hI, _, hcm, hrI, hP, _, _, hrP, hx, hv⟩
            obtain ⟨hx1, hx2⟩ := hx rfl
            subst hx1 hx2
            obtain rfl : c5 = 256 := by rw [← hI]; decide +kernel
            obtain rfl : d6 = 0 := by rw [← hP]; rfl
            have RI := Lib.hid hrI
            have d3 : Below wx.heap.size wx wC4 := d2.trans (hv.mono d2.size)
            replace RFx := Lib.hid (RFx.out.below hv)
            replace RFs := Lib.hid (RFs.out.below hv)
            replace KN := Lib.hid (KN.out.stay hv)
            clear hv hrI hI hcm hP hrP hx
            refine hK.out _ _ (HSR.out _ d3) (fun hS9 => ?_)
            clear hK K hS
            have hS := hS9
            clear hS9
            (try simp only [Act.put, List.setIfInBounds_toArray, List.set_cons_zero, List.set_cons_succ])
            refine wpAnyH_take (i := 5) (oi := ⟨some 20, _, _, _, _, _⟩) (v := .tuple #[.slice A5 256 256, fvV A6 0 0 0]) rfl (by kernel_rfl) (by kernel_rfl) (by kernel_rfl) (fun _ _ _ h => h) (Or.inl ⟨by rfl, fun w _ => by go_simp⟩) hS ?_
            (try simp only [Act.put, List.setIfInBounds_toArray, List.set_cons_zero, List.set_cons_succ])
            refine wpAnyH_take (i := 6) (oi := ⟨some 26, _, _, _, _, _⟩) (v := .slice A5 256 256) rfl (by kernel_rfl) (by kernel_rfl) (by kernel_rfl) (fun _ _ _ h => h) (Or.inl ⟨by rfl, fun w _ => by go_simp⟩) hS ?_
            (try simp only [Act.put, List.setIfInBounds_toArray, List.set_cons_zero, List.set_cons_succ])
            refine wpAnyH_take (i := 7) (oi := ⟨some 27, _, _, _, _, _⟩) (v := fvV A6 0 0 0) rfl (by kernel_rfl) (by kernel_rfl) (by kernel_rfl) (fun _ _ _ h => h) (Or.inl ⟨by rfl, fun w _ => by go_simp⟩) hS ?_
            (try simp only [Act.put, List.setIfInBounds_toArray, List.set_cons_zero, List.set_cons_succ])
            refine wpAnyH_ready (rs := [8]) (by kernel_rfl) (by simp) ?_
            refine AllReadyH.cons (o := _) rfl (fun K hK => ?_) (AllReadyH.nil)
            go_simp
            obtain ⟨wA8, hwwA8⟩ : ∃ v, wC4.alloc (.cells #[.slice none 0 0, .int .i64 0] 38) = v := ⟨_, rfl⟩
            have hA8 : Below wC4.heap.size wC4 wA8 := by rw [← hwwA8]; exact bel1 _ _
            obtain ⟨D, hD⟩ : ∃ g, wC4.heap.size = g := ⟨_, rfl⟩
            have KD := Lib.hid (show Bk wA8 D 38 [.slice none 0 0, .int .i64 0] by rw [← hwwA8, ← hD]; exact Bk.new wC4 _ [_, _])
            have GD := Lib.hid (show wx.heap.size ≤ D by rw [← hD]; exact d3.size)
            rw [hwwA8, hD]
            have LRID := Lib.hid (show RdX (fun i => i ≠ D) wC4 _ _ from fun hn => by obtain ⟨b, off, e, hb, _, hc⟩ := RI.out hn; exact ⟨b, off, e, hb, by rw [← hD]; omega, hc⟩)
            have d4 : Below wx.heap.size wx wA8 := d3.trans (hA8.mono d3.size)
            replace RFx := Lib.hid (RFx.out.below hA8)
            replace RFs := Lib.hid (RFs.out.below hA8)
            replace RI := Lib.hid (RdX.belowX RI.out hA8)
            replace KN := Lib.hid (KN.out.stay hA8)
            replace LRID := Lib.hid (RdX.belowX LRID.out hA8)
            clear hwwA8 hD hA8
            refine hK.out _ _ (HSR.out _ d4) (fun hS9 => ?_)
            clear hK K hS
            have hS := hS9
            clear hS9
            (try simp only [Act.put, List.setIfInBounds_toArray, List.set_cons_zero, List.set_cons_succ])
            refine wpAnyH_take (i := 9) (oi := ⟨some 3, _, _, _, _, _⟩) (v := .slice A5 256 256) rfl (by kernel_rfl) (by kernel_rfl) (by kernel_rfl) (fun _ _ _ h => h) (Or.inl ⟨by rfl, fun w _ => by go_simp⟩) hS ?_
            (try simp only [Act.put, List.setIfInBounds_toArray, List.set_cons_zero, List.set_cons_succ])
            refine wpAnyH_ready (rs := [10]) (by kernel_rfl) (by simp) ?_
            refine AllReadyH.cons (o := _) rfl (fun K hK => ?_) (AllReadyH.nil)
            have k0 := KD.out.cell 0
            have k1 := KD.out.cell 1
            simp only [List.getElem?_cons_zero, List.getElem?_cons_succ] at k0 k1
            have y0 := KD.out.free 0
            have y1 := KD.out.free 1
            go_simp
            have hst := st2 (v0 := .slice A6 0 0) (v1 := .int .i64 0) KD.out d4 GD.out
            refine hK.out _ _ (HSR.out _ hst.2) (fun hS9 => ?_)
            clear hK K hS
            have hS := hS9
            clear hS9
            (try simp only [Act.put, List.setIfInBounds_toArray, List.set_cons_zero, List.set_cons_succ])
            refine wpAnyH_done (by kernel_rfl) ?_ _
            clear hS
            clear k0 k1 y0 y1
            have HST := Lib.hid hst
            clear hst
            go_wp2_with fail
            go_meet
            exact ⟨A5, A6, D, rfl, rfl, HST.out.1, rx2 LRID.out, HST.out.2⟩
          · go_simp
            obtain ⟨wA8, hwwA8⟩ : ∃ v, wC1.alloc (.cells #[.slice none 0 0, .int .i64 0] 38) = v := ⟨_, rfl⟩
            have hA8 : Below wC1.heap.size wC1 wA8 := by rw [← hwwA8]; exact bel1 _ _
            obtain ⟨D, hD⟩ : ∃ g, wC1.heap.size = g := ⟨_, rfl⟩
            have KD := Lib.hid (show Bk wA8 D 38 [.slice none 0 0, .int .i64 0] by rw [← hwwA8, ← hD]; exact Bk.new wC1 _ [_, _])
            have GD := Lib.hid (show wx.heap.size ≤ D by rw [← hD]; exact d2.size)
            rw [hwwA8, hD]
            have d3 : Below wx.heap.size wx wA8 := d2.trans (hA8.mono d2.size)
            replace RFx := Lib.hid (RFx.out.below hA8)
            replace RFs := Lib.hid (RFs.out.below hA8)
            replace KN := Lib.hid (KN.out.stay hA8)
            clear hwwA8 hD hA8
            refine hK.out _ _ (HSR.out _ d3) (fun hS9 => ?_)
            clear hK K hS
            have hS := hS9
            clear hS9
            (try simp only [Act.put, List.setIfInBounds_toArray, List.set_cons_zero, List.set_cons_succ])
            refine wpAnyH_ready (rs := [4]) (by kernel_rfl) (by simp) ?_
            refine AllReadyH.cons (o := _) rfl (fun K hK => ?_) (AllReadyH.nil)
            go_simp
            refine (seq_kn _ BK 0 16 true (List.replicate 256 aFd) (some ⟨gL, 0, none⟩) 256 257 KN.out RFs.out (by rw [List.length_replicate]) (by decide) iL [] 0 sq256).mono ?_
            rintro e wC4 ⟨A5, n5, c5, A6, m6, d6, rfl, hI, _, hcm, hrI, hP, _, _, hrP, hx, hv⟩
            obtain ⟨hx1, hx2⟩ := hx rfl
            subst hx1 hx2
            obtain rfl : c5 = 256 := by rw [← hI]; decide +kernel
            obtain rfl : d6 = 0 := by rw [← hP]; rfl
            have RI := Lib.hid hrI
            have LRID := Lib.hid (show RdX (fun i => i ≠ D) wC4 _ _ from fun hn => by obtain ⟨b, off, e, hb, hs, hc⟩ := hrI hn; exact ⟨b, off, e, hb, by have := KD.out.lt; omega, hc⟩)
            have d4 : Below wx.heap.size wx wC4 := d3.trans (hv.mono d3.size)
            replace RFx := Lib.hid (RFx.out.below hv)
            replace RFs := Lib.hid (RFs.out.below hv)
            replace KD := Lib.hid (KD.out.below hv KD.out.lt)
            replace KN := Lib.hid (KN.out.stay hv)
            clear hv hrI hI hcm hP hrP hx
            refine hK.out _ _ (HSR.out _ d4) (fun hS9 => ?_)
            clear hK K hS
            have hS := hS9
            clear hS9
            (try simp only [Act.put, List.setIfInBounds_toArray, List.set_cons_zero, List.set_cons_succ])
            refine wpAnyH_take (i := 5) (oi := ⟨some 20, _, _, _, _, _⟩) (v := .tuple #[.slice A5 256 256, fvV A6 0 0 0]) rfl (by kernel_rfl) (by kernel_rfl) (by kernel_rfl) (fun _ _ _ h => h) (Or.inl ⟨by rfl, fun w _ => by go_simp⟩) hS ?_
            (try simp only [Act.put, List.setIfInBounds_toArray, List.set_cons_zero, List.set_cons_succ])
            refine wpAnyH_take (i := 6) (oi := ⟨some 26, _, _, _, _, _⟩) (v := .slice A5 256 256) rfl (by kernel_rfl) (by kernel_rfl) (by kernel_rfl) (fun _ _ _ h => h) (Or.inl ⟨by rfl, fun w _ => by go_simp⟩) hS ?_
            (try simp only [Act.put, List.setIfInBounds_toArray, List.set_cons_zero, List.set_cons_succ])
            refine wpAnyH_take (i := 7) (oi := ⟨some 27, _, _, _, _, _⟩) (v := fvV A6 0 0 0) rfl (by kernel_rfl) (by kernel_rfl) (by kernel_rfl) (fun _ _ _ h => h) (Or.inl ⟨by rfl, fun w _ => by go_simp⟩) hS ?_
            (try simp only [Act.put, List.setIfInBounds_toArray, List.set_cons_zero, List.set_cons_succ])
            refine wpAnyH_take (i := 9) (oi := ⟨some 3, _, _, _, _, _⟩) (v := .slice A5 256 256) rfl (by kernel_rfl) (by kernel_rfl) (by kernel_rfl) (fun _ _ _ h => h) (Or.inl ⟨by rfl, fun w _ => by go_simp⟩) hS ?_
            (try simp only [Act.put, List.setIfInBounds_toArray, List.set_cons_zero, List.set_cons_succ])
            refine wpAnyH_ready (rs := [10]) (by kernel_rfl) (by simp) ?_
            refine AllReadyH.cons (o := _) rfl (fun K hK => ?_) (AllReadyH.nil)
            have k0 := KD.out.cell 0
            have k1 := KD.out.cell 1
            simp only [List.getElem?_cons_zero, List.getElem?_cons_succ] at k0 k1
            have y0 := KD.out.free 0
            have y1 := KD.out.free 1
            go_simp
            have hst := st2 (v0 := .slice A6 0 0) (v1 := .int .i64 0) KD.out d4 GD.out
            refine hK.out _ _ (HSR.out _ hst.2) (fun hS9 => ?_)
            clear hK K hS
            have hS := hS9
            clear hS9
            (try simp only [Act.put, List.setIfInBounds_toArray, List.set_cons_zero, List.set_cons_succ])
            refine wpAnyH_done (by kernel_rfl) ?_ _
            clear hS
            clear k0 k1 y0 y1
            have HST := Lib.hid hst
            clear hst
            go_wp2_with fail
            go_meet
            exact ⟨A5, A6, D, rfl, rfl, HST.out.1, rx2 LRID.out, HST.out.2⟩
        · go_simp
          obtain ⟨wA8, hwwA8⟩ : ∃ v, wC0.alloc (.cells #[.slice none 0 0, .int .i64 0] 38) = v := ⟨_, rfl⟩
          have hA8 : Below wC0.heap.size wC0 wA8 := by rw [← hwwA8]; exact bel1 _ _
          obtain ⟨D, hD⟩ : ∃ g, wC0.heap.size = g := ⟨_, rfl⟩
          have KD := Lib.hid (show Bk wA8 D 38 [.slice none 0 0, .int .i64 0] by rw [← hwwA8, ← hD]; exact Bk.new wC0 _ [_, _])
          have GD := Lib.hid (show wx.heap.size ≤ D by rw [← hD]; exact d1.size)
          rw [hwwA8, hD]
          have d2 : Below wx.heap.size wx wA8 := d1.trans (hA8.mono d1.size)
          replace RFx := Lib.hid (RFx.out.below hA8)
          replace RFs := Lib.hid (RFs.out.below hA8)
          replace KN := Lib.hid (KN.out.stay hA8)
          clear hwwA8 hD hA8
          refine hK.out _ _ (HSR.out _ d2) (fun hS9 => ?_)
          clear hK K hS
          have hS := hS9
          clear hS9
          (try simp only [Act.put, List.setIfInBounds_toArray, List.set_cons_zero, List.set_cons_succ])
          refine wpAnyH_ready (rs := [1]) (by kernel_rfl) (by simp) ?_
          refine AllReadyH.cons (o := _) rfl (fun K hK => ?_) (AllReadyH.nil)
          go_simp
          refine (tag_any 0 0 16 true _ (by decide) rfl).mono ?_
          rintro e wC1 ⟨rfl, hv⟩
          have d3 : Below wx.heap.size wx wC1 := d2.trans (hv.mono d2.size)
          replace RFx := Lib.hid (RFx.out.below hv)
          replace RFs := Lib.hid (RFs.out.below hv)
          replace KD := Lib.hid (KD.out.below hv KD.out.lt)
          replace KN := Lib.hid (KN.out.stay hv)
          clear hv
          refine hK.out _ _ (HSR.out _ d3) (fun hS9 => ?_)
          clear hK K hS
          have hS := hS9
          clear hS9
          (try simp only [Act.put, List.setIfInBounds_toArray, List.set_cons_zero, List.set_cons_succ])
          refine wpAnyH_ready (rs := [4]) (by kernel_rfl) (by simp) ?_
          refine AllReadyH.cons (o := _) rfl (fun K hK => ?_) (AllReadyH.nil)
          go_simp
          refine (seq_kn _ BK 0 16 true (List.replicate 256 aFd) (some ⟨gL, 0, none⟩) 256 257 KN.out RFs.out (by rw [List.length_replicate]) (by decide) iL [] 0 sq256).mono ?_
          rintro e wC4 ⟨A5, n5, c5, A6, m6, d6, rfl, hI, _, hcm, hrI, hP, _, _, hrP, hx, hv⟩
          obtain ⟨hx1, hx2⟩ := hx rfl
          subst hx1 hx2
          obtain rfl : c5 = 256 := by rw [← hI]; decide +kernel
          obtain rfl : d6 = 0 := by rw [← hP]; rfl
          have RI := Lib.hid hrI
          have LRID := Lib.hid (show RdX (fun i => i ≠ D) wC4 _ _ from fun hn => by obtain ⟨b, off, e, hb, hs, hc⟩ := hrI hn; exact ⟨b, off, e, hb, by have := KD.out.lt; omega, hc⟩)
          have d4 : Below wx.heap.size wx wC4 := d3.trans (hv.mono d3.size)
          replace RFx := Lib.hid (RFx.out.below hv)
          replace RFs := Lib.hid (RFs.out.below hv)
          replace KD := Lib.hid (KD.out.below hv KD.out.lt)
          replace KN := Lib.hid (KN.out.stay hv)
          clear hv hrI hI hcm hP hrP hx
          refine hK.out _ _ (HSR.out _ d4) (fun hS9 => ?_)
          clear hK K hS
          have hS := hS9
          clear hS9
          (try simp only [Act.put, List.setIfInBounds_toArray, List.set_cons_zero, List.set_cons_succ])
          refine wpAnyH_take (i := 5) (oi := ⟨some 20, _, _, _, _, _⟩) (v := .tuple #[.slice A5 256 256, fvV A6 0 0 0]) rfl (by kernel_rfl) (by kernel_rfl) (by kernel_rfl) (fun _ _ _ h => h) (Or.inl ⟨by rfl, fun w _ => by go_simp⟩) hS ?_
          (try simp only [Act.put, List.setIfInBounds_toArray, List.set_cons_zero, List.set_cons_succ])
          refine wpAnyH_take (i := 6) (oi := ⟨some 26, _, _, _, _, _⟩) (v := .slice A5 256 256) rfl (by kernel_rfl) (by kernel_rfl) (by kernel_rfl) (fun _ _ _ h => h) (Or.inl ⟨by rfl, fun w _ => by go_simp⟩) hS ?_
          (try simp only [Act.put, List.setIfInBounds_toArray, List.set_cons_zero, List.set_cons_succ])
          refine wpAnyH_take (i := 7) (oi := ⟨some 27, _, _, _, _, _⟩) (v := fvV A6 0 0 0) rfl (by kernel_rfl) (by kernel_rfl) (by kernel_rfl) (fun _ _ _ h => h) (Or.inl ⟨by rfl, fun w _ => by go_simp⟩) hS ?_
          (try simp only [Act.put, List.setIfInBounds_toArray, List.set_cons_zero, List.set_cons_succ])
          refine wpAnyH_take (i := 9) (oi := ⟨some 3, _, _, _, _, _⟩) (v := .slice A5 256 256) rfl (by kernel_rfl) (by kernel_rfl) (by kernel_rfl) (fun _ _ _ h => h) (Or.inl ⟨by rfl, fun w _ => by go_simp⟩) hS ?_
          (try simp only [Act.put, List.setIfInBounds_toArray, List.set_cons_zero, List.set_cons_succ])
          refine wpAnyH_ready (rs := [10]) (by kernel_rfl) (by simp) ?_
          refine AllReadyH.cons (o := _) rfl (fun K hK => ?_) (AllReadyH.nil)
          have k0 := KD.out.cell 0
          have k1 := KD.out.cell 1
          simp only [List.getElem?_cons_zero, List.getElem?_cons_succ] at k0 k1
          have y0 := KD.out.free 0
          have y1 := KD.out.free 1
          go_simp
          have hst := st2 (v0 := .slice A6 0 0) (v1 := .int .i64 0) KD.out d4 GD.out
          refine hK.out _ _ (HSR.out _ hst.2) (fun hS9 => ?_)
          clear hK K hS
          have hS := hS9
          clear hS9
          (try simp only [Act.put, List.setIfInBounds_toArray, List.set_cons_zero, List.set_cons_succ])
          refine wpAnyH_done (by kernel_rfl) ?_ _
          clear hS
          clear k0 k1 y0 y1
          have HST := Lib.hid hst
          clear hst
          go_wp2_with fail
          go_meet
          exact ⟨A5, A6, D, rfl, rfl, HST.out.1, rx2 LRID.out, HST.out.2⟩
      · go_simp
        obtain ⟨wA8, hwwA8⟩ : ∃ v, wd.alloc (.cells #[.slice none 0 0, .int .i64 0] 38) = v := ⟨_, rfl⟩
        have hA8 : Below wd.heap.size wd wA8 := by rw [← hwwA8]; exact bel1 _ _
        obtain ⟨D, hD⟩ : ∃ g, wd.heap.size = g := ⟨_, rfl⟩
        have KD := Lib.hid (show Bk wA8 D 38 [.slice none 0 0, .int .i64 0] by rw [← hwwA8, ← hD]; exact Bk.new wd _ [_, _])
        have GD := Lib.hid (show wx.heap.size ≤ D by rw [← hD]; exact d0.size)
        rw [hwwA8, hD]
        have d1 : Below wx.heap.size wx wA8 := d0.trans (hA8.mono d0.size)
        replace RFx := Lib.hid (RFx.out.below hA8)
        replace RFs := Lib.hid (RFs.out.below hA8)
        clear hwwA8 hD hA8
        refine hK.out _ _ (HSR.out _ d1) (fun hS9 => ?_)
        clear hK K hS
        have hS := hS9
        clear hS9
        (try simp only [Act.put, List.setIfInBounds_toArray, List.set_cons_zero, List.set_cons_succ])
        refine wpAnyH_ready (rs := [0]) (by kernel_rfl) (by simp) ?_
        refine AllReadyH.cons (o := _) rfl (fun K hK => ?_) (AllReadyH.nil)
        go_simp
        refine (known_any _).mono ?_
        rintro e wC0 ⟨BK, rfl, hkn, hv⟩
        have KN := Lib.hid (show RdE false (fun _ => True) _ knE (elV 0 16 true (.slice none 0 0) (.slice BK 2 2)) from anyE hkn)
        have d2 : Below wx.heap.size wx wC0 := d1.trans (hv.mono d1.size)
        replace RFx := Lib.hid (RFx.out.below hv)
        replace RFs := Lib.hid (RFs.out.below hv)
        replace KD := Lib.hid (KD.out.below hv KD.out.lt)
        clear hv hkn
        refine hK.out _ _ (HSR.out _ d2) (fun hS9 => ?_)
        clear hK K hS
        have hS := hS9
        clear hS9
        (try simp only [Act.put, List.setIfInBounds_toArray, List.set_cons_zero, List.set_cons_succ])
        refine wpAnyH_ready (rs := [1]) (by kernel_rfl) (by simp) ?_
        refine AllReadyH.cons (o := _) rfl (fun K hK => ?_) (AllReadyH.nil)
        go_simp
        refine (tag_any 0 0 16 true _ (by decide) rfl).mono ?_
        rintro e wC1 ⟨rfl, hv⟩
        have d3 : Below wx.heap.size wx wC1 := d2.trans (hv.mono d2.size)
        replace RFx := Lib.hid (RFx.out.below hv)
        replace RFs := Lib.hid (RFs.out.below hv)
        replace KD := Lib.hid (KD.out.below hv KD.out.lt)
        replace KN := Lib.hid (KN.out.stay hv)
        clear hv
        refine hK.out _ _ (HSR.out _ d3) (fun hS9 => ?_)
        clear hK K hS
        have hS := hS9
        clear hS9
        (try simp only [Act.put, List.setIfInBounds_toArray, List.set_cons_zero, List.set_cons_succ])
        refine wpAnyH_ready (rs := [4]) (by kernel_rfl) (by simp) ?_
        refine AllReadyH.cons (o := _) rfl (fun K hK => ?_) (AllReadyH.nil)
        go_simp
        refine (seq_kn _ BK 0 16 true (List.replicate 256 aFd) (some ⟨gL, 0, none⟩) 256 257 KN.out RFs.out (by rw [List.length_replicate]) (by decide) iL [] 0 sq256).mono ?_
        rintro e wC4 ⟨A5, n5, c5, A6, m6, d6, rfl, hI, _, hcm, hrI, hP, _, _, hrP, hx, hv⟩
        obtain ⟨hx1, hx2⟩ := hx rfl
        subst hx1 hx2
        obtain rfl : c5 = 256 := by rw [← hI]; decide +kernel
        obtain rfl : d6 = 0 := by rw [← hP]; rfl
        have RI := Lib.hid hrI
        have LRID := Lib.hid (show RdX (fun i => i ≠ D) wC4 _ _ from fun hn => by obtain ⟨b, off, e, hb, hs, hc⟩ := hrI hn; exact ⟨b, off, e, hb, by have := KD.out.lt; omega, hc⟩)
        have d4 : Below wx.heap.size wx wC4 := d3.trans (hv.mono d3.size)
        replace RFx := Lib.hid (RFx.out.below hv)
        replace RFs := Lib.hid (RFs.out.below hv)
        replace KD := Lib.hid (KD.out.below hv KD.out.lt)
        replace KN := Lib.hid (KN.out.stay hv)
        clear hv hrI hI hcm hP hrP hx
        refine hK.out _ _ (HSR.out _ d4) (fun hS9 => ?_)
        clear hK K hS
        have hS := hS9
        clear hS9
        (try simp only [Act.put, List.setIfInBounds_toArray, List.set_cons_zero, List.set_cons_succ])
        refine wpAnyH_take (i := 5) (oi := ⟨some 20, _, _, _, _, _⟩) (v := .tuple #[.slice A5 256 256, fvV A6 0 0 0]) rfl (by kernel_rfl) (by kernel_rfl) (by kernel_rfl) (fun _ _ _ h => h) (Or.inl ⟨by rfl, fun w _ => by go_simp⟩) hS ?_
        (try simp only [Act.put, List.setIfInBounds_toArray, List.set_cons_zero, List.set_cons_succ])
        refine wpAnyH_take (i := 6) (oi := ⟨some 26, _, _, _, _, _⟩) (v := .slice A5 256 256) rfl (by kernel_rfl) (by kernel_rfl) (by kernel_rfl) (fun _ _ _ h => h) (Or.inl ⟨by rfl, fun w _ => by go_simp⟩) hS ?_
        (try simp only [Act.put, List.setIfInBounds_toArray, List.set_cons_zero, List.set_cons_succ])
        refine wpAnyH_take (i := 7) (oi := ⟨some 27, _, _, _, _, _⟩) (v := fvV A6 0 0 0) rfl (by kernel_rfl) (by kernel_rfl) (by kernel_rfl) (fun _ _ _ h => h) (Or.inl ⟨by rfl, fun w _ => by go_simp⟩) hS ?_
        (try simp only [Act.put, List.setIfInBounds_toArray, List.set_cons_zero, List.set_cons_succ])
        refine wpAnyH_take (i := 9) (oi := ⟨some 3, _, _, _, _, _⟩) (v := .slice A5 256 256) rfl (by kernel_rfl) (by kernel_rfl) (by kernel_rfl) (fun _ _ _ h => h) (Or.inl ⟨by rfl, fun w _ => by go_simp⟩) hS ?_
        (try simp only [Act.put, List.setIfInBounds_toArray, List.set_cons_zero, List.set_cons_succ])
        refine wpAnyH_ready (rs := [10]) (by kernel_rfl) (by simp) ?_
        refine AllReadyH.cons (o := _) rfl (fun K hK => ?_) (AllReadyH.nil)
        have k0 := KD.out.cell 0
        have k1 := KD.out.cell 1
        simp only [List.getElem?_cons_zero, List.getElem?_cons_succ] at k0 k1
        have y0 := KD.out.free 0
        have y1 := KD.out.free 1
        go_simp
        have hst := st2 (v0 := .slice A6 0 0) (v1 := .int .i64 0) KD.out d4 GD.out
        refine hK.out _ _ (HSR.out _ hst.2) (fun hS9 => ?_)
        clear hK K hS
        have hS := hS9
        clear hS9
        (try simp only [Act.put, List.setIfInBounds_toArray, List.set_cons_zero, List.set_cons_succ])
        refine wpAnyH_done (by kernel_rfl) ?_ _
        clear hS
        clear k0 k1 y0 y1
        have HST := Lib.hid hst
        clear hst
        go_wp2_with fail
        go_meet
        exact ⟨A5, A6, D, rfl, rfl, HST.out.1, rx2 LRID.out, HST.out.2⟩
    case rest =>
      obtain ⟨AI6, AP6, g6, rfl, rfl, hkf, hri, hby⟩ := hcut
      generalize wc = wz6 at *
      have hbh := Lib.hid hby
      replace B := bt B hbh
      replace RF0 := rt RF0 hbh
      have KF6 := Lib.hid hkf
      have RI6 := Lib.hid hri
      clear hbh hby hkf hri
      go_wp2_with fail
      refine (known_any _).mono ?_
      rintro e w3 ⟨BJ, rfl, hkn, hb⟩
      have hkn2 := anyE hkn
      have hbh := Lib.hid hb
      replace B := bt B hbh
      replace RF0 := rt RF0 hbh
      replace KF6 := kt KF6 hbh
      replace RI6 := rt RI6 hbh
      have KN := Lib.hid hkn2
      clear hbh hb hkn hkn2
      go_wp2_with fail
      refine (tag_any 1 0 17 true _ (by decide) rfl).mono ?_
      rintro e w4 ⟨rfl, hb⟩
      have hbh := Lib.hid hb
      replace B := bt B hbh
      replace RF0 := rt RF0 hbh
      replace KF6 := kt KF6 hbh
      replace RI6 := rt RI6 hbh
      replace KN := Lib.hid (KN.out.stay hbh.out)
      clear hbh hb 
      go_wp2_with fail
      refine (seq_kn _ BJ 0 17 true (List.replicate 257 aFd) (some ⟨gL, 0, none⟩) 257 257 KN.out RF0.out (by rw [List.length_replicate]) (by decide) [] [] 3 sq257).mono ?_
      rintro e w5 ⟨AI7, n5, c5, AP7, m6, d6, rfl, hI, _, hcm, hrI, hP, _, _, hrP, hx, hb⟩
      obtain ⟨hx1, hx2⟩ := hx rfl
      subst hx1 hx2
      obtain rfl : c5 = 0 := by rw [← hI]; rfl
      obtain rfl : d6 = 0 := by rw [← hP]; rfl
      have hbh := Lib.hid hb
      replace B := bt B hbh
      replace RF0 := rt RF0 hbh
      replace KF6 := kt KF6 hbh
      replace RI6 := rt RI6 hbh
      replace KN := Lib.hid (KN.out.stay hbh.out)
      clear hbh hb hI hcm hrI hP hrP hx
      clear KN
      go_upto_region 8 with fail
      obtain ⟨g7, hg7⟩ : ∃ g, w5.heap.size = g := ⟨_, rfl⟩
      obtain ⟨w6, hw⟩ : ∃ v, w5.alloc (.cells #[.slice AP7 0 0, .int .i64 3] 38) = v := ⟨_, rfl⟩
      have hbh := Lib.hid (show Below w5.heap.size w5 w6 by rw [← hw]; exact bel1 _ _)
      have KF7n := Lib.hid (show Bk w6 g7 38 [.slice AP7 0 0, .int .i64 3] by rw [← hw, ← hg7]; exact Bk.new w5 _ [_, _])
      rw [hw, hg7]
      replace B := bt B hbh
      replace RF0 := rt RF0 hbh
      replace KF6 := kt KF6 hbh
      replace RI6 := rt RI6 hbh
      have KF7 := KF7n
      clear hbh hw KF7n
      clear RF0
      obtain ⟨bi, oi, hAI, hbi, ci0, ci1, ci2⟩ := iL_at RI6.out
      subst hAI
      have hw1 : IntKind.i64.wrap 1 = 1 := by rw [IntKind.wrap_i64]; omega
      have HSR := Lib.hid (show ∀ W, Below w6.heap.size w6 W → W.cell? ⟨g6, 1, none⟩ = some (.int .i64 0) ∧ W.cell? ⟨bi, oi, none⟩ = some (.int .i64 0) ∧ W.cell? ⟨bi, oi + 1, none⟩ = some (.int .i64 1) ∧ W.cell? ⟨bi, oi + 255, none⟩ = some (.int .i64 (-1)) ∧ W.cell? ⟨g7, 0, none⟩ = some (.slice AP7 0 0) ∧ W.cell? ⟨g7, 1, none⟩ = some (.int .i64 3) ∧ Below w6.heap.size w6 W from fun W hW => ⟨(hW.cell (p := ⟨g6, 1, none⟩) KF6.out.lt).trans (KF6.out.cell 1), (hW.cell (p := ⟨bi, oi, none⟩) hbi).trans ci0, (hW.cell (p := ⟨bi, oi + 1, none⟩) hbi).trans ci1, (hW.cell (p := ⟨bi, oi + 255, none⟩) hbi).trans ci2, (hW.cell (p := ⟨g7, 0, none⟩) KF7.out.lt).trans (KF7.out.cell 0), (hW.cell (p := ⟨g7, 1, none⟩) KF7.out.lt).trans (KF7.out.cell 1), hW⟩)
      have d0 : Below w6.heap.size w6 w6.drew := (Below.refl w6.heap.size w6).drew
      go_region_held3 (fun W => W.cell? ⟨g6, 1, none⟩ = some (.int .i64 0) ∧ W.cell? ⟨bi, oi, none⟩ = some (.int .i64 0) ∧ W.cell? ⟨bi, oi + 1, none⟩ = some (.int .i64 1) ∧ W.cell? ⟨bi, oi + 255, none⟩ = some (.int .i64 (-1)) ∧ W.cell? ⟨g7, 0, none⟩ = some (.slice AP7 0 0) ∧ W.cell? ⟨g7, 1, none⟩ = some (.int .i64 3) ∧ Below w6.heap.size w6 W)
        (first | exact HSR.out _ d2 | exact HSR.out _ d1 | exact HSR.out _ d0)
        (first | (have dz := d1; go_at_call 11; refine (lfault_eq [] 3 AP7 X3 0 y3 _ Rd.nil Rd.nil rfl (Nat.zero_le _)).mono ?_; rintro e v2 ⟨rfl, hv2⟩; have d2 : Below w6.heap.size w6 v2 := d1.trans (hv2.mono d1.size); clear dz) | (go_at_call 9; refine (rf_neg 3 _).mono ?_; rintro e v1 ⟨X3, y3, rfl, hr3, hv1⟩; have d1 : Below w6.heap.size w6 v1 := d0.trans (hv1.mono d0.size)))
      have hbh := Lib.hid d2
      clear HSR d0 d1 d2 hr3 ci0 ci1 ci2 hbi
      clear KF6 RI6 KF7
      replace B := bt B hbh
      clear hbh
      go_wp2_with fail
      refine (tag_any 1 0 17 true _ (by decide) rfl).mono ?_
      rintro e w8 ⟨rfl, hb⟩
      have hbh := Lib.hid hb
      replace B := bt B hbh
      clear hbh hb 
      go_wp2_with fail
      refine (tag_any 1 0 17 true _ (by decide) rfl).mono ?_
      rintro e w9 ⟨rfl, hb⟩
      have hbh := Lib.hid hb
      replace B := bt B hbh
      clear hbh hb 
      go_wp2_with fail
      refine (list_any 0 17 true (.slice none 0 0) [] [] none 0 0 0 17 true 1 4 _ rfl [] 17 (by decide +kernel) (by decide) (by decide)).mono ?_
      rintro e w10 ⟨Aa, na, ca, rfl, hl, _, _, hx, hr, hb⟩
      obtain rfl := hx rfl
      obtain rfl : ca = 0 := by rw [← hl]; rfl
      have hbh := Lib.hid hb
      replace B := bt B hbh
      clear hbh hb hl hx hr
      go_wp2_with fail
      refine (rf_neg 17 _).mono ?_
      rintro e w11 ⟨Xa, ya, rfl, hr, hb⟩
      have hbh := Lib.hid hb
      replace B := bt B hbh
      clear hbh hb hr
      go_wp2_with fail
      refine (lfault_eq [] 17 Aa Xa 0 ya _ Rd.nil Rd.nil rfl (Nat.zero_le _)).mono ?_
      rintro e w12 ⟨rfl, hb⟩
      have hbh := Lib.hid hb
      replace B := bt B hbh
      clear hbh hb 
      go_wp2_with fail
      refine (tag_any 1 0 17 true _ (by decide) rfl).mono ?_
      rintro e w13 ⟨rfl, hb⟩
      have hbh := Lib.hid hb
      replace B := bt B hbh
      clear hbh hb 
      go_wp2_with fail
      refine (tag_any 1 0 17 true _ (by decide) rfl).mono ?_
      rintro e w14 ⟨rfl, hb⟩
      have hbh := Lib.hid hb
      replace B := bt B hbh
      clear hbh hb 
      go_wp2_with fail
      refine (list_any 0 17 true (.slice none 0 0) [] [] none 0 0 0 17 true 0 0 _ rfl [] 0 (by decide +kernel) (by decide) (by decide)).mono ?_
      rintro e w15 ⟨Ab, nb, cb, rfl, hl, _, _, hx, hr, hb⟩
      obtain rfl := hx rfl
      obtain rfl : cb = 0 := by rw [← hl]; rfl
      have hbh := Lib.hid hb
      replace B := bt B hbh
      clear hbh hb hl hx hr
      go_wp2_with fail
      refine (lfault_eq [] 0 Ab none 0 0 _ Rd.nil Rd.nil rfl (Nat.zero_le _)).mono ?_
      rintro e w16 ⟨rfl, hb⟩
      have hbh := Lib.hid hb
      replace B := bt B hbh
      clear hbh hb 
      go_wp2_with fail
      refine (known_any _).mono ?_
      rintro e w17 ⟨Bc, rfl, hkn, hb⟩
      have hbh := Lib.hid hb
      replace B := bt B hbh
      clear hbh hb hkn
      go_wp2_with fail
      refine (tag_any 1 0 17 true _ (by decide) rfl).mono ?_
      rintro e w18 ⟨rfl, hb⟩
      have hbh := Lib.hid hb
      replace B := bt B hbh
      clear hbh hb 
      go_wp2_with fail
      refine (list_any 0 16 true (.slice none 0 0) [] [.mk 0 2 false [5] [], .mk 0 1 false [255] []] Bc 2 2 0 17 true 2 1 _ rfl [] 1 (by decide +kernel) (by decide) (by decide)).mono ?_
      rintro e w19 ⟨Ac, nc, cc, rfl, hl, _, _, hx, hr, hb⟩
      obtain rfl := hx rfl
      obtain rfl : cc = 0 := by rw [← hl]; rfl
      have hbh := Lib.hid hb
      replace B := bt B hbh
      clear hbh hb hl hx hr
      go_wp2_with fail
      refine (rf_neg 1 _).mono ?_
      rintro e w20 ⟨Xc, yc, rfl, hr, hb⟩
      have hbh := Lib.hid hb
      replace B := bt B hbh
      clear hbh hb hr
      go_wp2_with fail
      refine (lfault_eq [] 1 Ac Xc 0 yc _ Rd.nil Rd.nil rfl (Nat.zero_le _)).mono ?_
      rintro e w21 ⟨rfl, hb⟩
      have hbh := Lib.hid hb
      replace B := bt B hbh
      clear hbh hb 
      go_wp2_with fail
      refine (known_any _).mono ?_
      rintro e w22 ⟨Bd, rfl, hkn, hb⟩
      have hbh := Lib.hid hb
      replace B := bt B hbh
      clear hbh hb hkn
      go_wp2_with fail
      refine (tag_any 0 0 16 true _ (by decide) rfl).mono ?_
      rintro e w23 ⟨rfl, hb⟩
      have hbh := Lib.hid hb
      replace B := bt B hbh
      clear hbh hb 
      go_wp2_with fail
      refine (list_any 0 16 true (.slice none 0 0) [] [.mk 0 2 false [5] [], .mk 0 1 false [255] []] Bd 2 2 0 16 true (-1) 9 _ rfl [] 1 (by decide +kernel) (by decide) (by decide)).mono ?_
      rintro e w24 ⟨Ad, nd, cd, rfl, hl, _, _, hx, hr, hb⟩
      obtain rfl := hx rfl
      obtain rfl : cd = 0 := by rw [← hl]; rfl
      have hbh := Lib.hid hb
      replace B := bt B hbh
      clear hbh hb hl hx hr
      go_wp2_with fail
      refine (rf_neg 1 _).mono ?_
      rintro e w25 ⟨Xd, yd, rfl, hr, hb⟩
      have hbh := Lib.hid hb
      replace B := bt B hbh
      clear hbh hb hr
      go_wp2_with fail
      refine (lfault_eq [] 1 Ad Xd 0 yd _ Rd.nil Rd.nil rfl (Nat.zero_le _)).mono ?_
      rintro e w26 ⟨rfl, hb⟩
      have hbh := Lib.hid hb
      replace B := bt B hbh
      clear hbh hb 
      go_upto_region 12 with fail
      go_cut [7] (fun z7 wy => ∃ A D, z7 = .pointer (some ⟨D, 0, none⟩) ∧ Bk wy D 29 [.int .u8 0, .bool false, .int .u32 4, .slice A 200 200, .slice none 0 0] ∧ Rb wy A (List.replicate 200 0) ∧ Below w26.heap.size w26 wy)
      case first =>
        have HSR := Lib.hid (show ∀ W, Below w26.heap.size w26 W → Below w26.heap.size w26 W from fun W hW => hW)
        refine wp_region_held_drew (S := fun W => Below w26.heap.size w26 W) (by kernel_rfl) (HSR.out _ (Below.refl w26.heap.size w26).drew) (fun hS => ?_)
        obtain ⟨wd, hwd⟩ : ∃ v, w26.drew = v := ⟨_, rfl⟩
        have d0 : Below w26.heap.size w26 wd := by rw [← hwd]; exact (Below.refl w26.heap.size w26).drew
        rw [hwd] at hS ⊢
        clear hwd
        refine wpAnyH_ready (rs := [0, 1, 3]) (by kernel_rfl) (by simp) ?_
        refine AllReadyH.cons (o := _) rfl (fun K hK => ?_) (AllReadyH.cons (o := _) rfl (fun K hK => ?_) (AllReadyH.cons (o := _) rfl (fun K hK => ?_) (AllReadyH.nil)))
        · go_simp
          refine (tag_any 5 0 4 false _ (by decide) rfl).mono ?_
          rintro e wC0 ⟨rfl, hv⟩
          have d1 : Below w26.heap.size w26 wC0 := d0.trans (hv.mono d0.size)
          clear hv
          refine hK.out _ _ (HSR.out _ d1) (fun hS9 => ?_)
          clear hK K hS
          have hS := hS9
          clear hS9
          (try simp only [Act.put, List.setIfInBounds_toArray, List.set_cons_zero, List.set_cons_succ])
          refine wpAnyH_ready (rs := [1, 3]) (by kernel_rfl) (by simp) ?_
          refine AllReadyH.cons (o := _) rfl (fun K hK => ?_) (AllReadyH.cons (o := _) rfl (fun K hK => ?_) (AllReadyH.nil))
          · go_simp
            obtain ⟨wM, hwM⟩ : ∃ v, wC0.alloc (.cells (cs8 (List.replicate 200 0)).toArray 5) = v := ⟨_, rfl⟩
            obtain ⟨gM, hgM⟩ : ∃ g, wC0.heap.size = g := ⟨_, rfl⟩
            have hmk : (Instr.makeSlice 26 (.int .i64 200) (.int .i64 200)).run Try.prog wC0 = .ok (.slice (some ⟨gM, 0, none⟩) 200 200) wM := by have h := make_bytes 200 (by decide) wC0; rw [hwM, hgM] at h; exact h
            have hv : Below wC0.heap.size wC0 wM := by rw [← hwM]; exact bel1 _ _
            have km : Bk wM gM 5 (cs8 (List.replicate 200 0)) := by rw [← hwM, ← hgM]; exact Bk.new wC0 _ _
            have RM := Lib.hid (show RdX (fun _ => True) wM (some ⟨gM, 0, none⟩) (cs8 (List.replicate 200 0)) from fun _ => ⟨gM, 0, rfl, km.lt, trivial, fun j u hu => by rw [Nat.zero_add, km.cell]; exact hu⟩)
            clear hwM km
            (try rw [hmk])
            (try go_simp)
            have d2 : Below w26.heap.size w26 wM := d1.trans (hv.mono d1.size)
            clear hv hgM hmk
            refine hK.out _ _ (HSR.out _ d2) (fun hS9 => ?_)
            clear hK K hS
            have hS := hS9
            clear hS9
            (try simp only [Act.put, List.setIfInBounds_toArray, List.set_cons_zero, List.set_cons_succ])
            refine wpAnyH_take (i := 2) (oi := ⟨some 95, _, _, _, _, _⟩) (v := .agg #[.int .u8 0, .bool false, .int .u32 4, .slice (some ⟨gM, 0, none⟩) 200 200, .slice none 0 0]) rfl (by kernel_rfl) (by kernel_rfl) (by kernel_rfl) (fun _ _ _ h => h) (Or.inl ⟨by rfl, fun w _ => by go_simp⟩) hS ?_
            (try simp only [Act.put, List.setIfInBounds_toArray, List.set_cons_zero, List.set_cons_succ])
            refine wpAnyH_ready (rs := [3]) (by kernel_rfl) (by simp) ?_
            refine AllReadyH.cons (o := _) rfl (fun K hK => ?_) (AllReadyH.nil)
            go_simp
            obtain ⟨wA3, hwwA3⟩ : ∃ v, wM.alloc (.cells #[.int .u8 0, .bool false, .int .u32 0, .slice none 0 0, .slice none 0 0] 29) = v := ⟨_, rfl⟩
            have hA3 : Below wM.heap.size wM wA3 := by rw [← hwwA3]; exact bel1 _ _
            obtain ⟨D, hD⟩ : ∃ g, wM.heap.size = g := ⟨_, rfl⟩
            have KD := Lib.hid (show Bk wA3 D 29 [.int .u8 0, .bool false, .int .u32 0, .slice none 0 0, .slice none 0 0] by rw [← hwwA3, ← hD]; exact Bk.new wM _ [_, _, _, _, _])
            have GD := Lib.hid (show w26.heap.size ≤ D by rw [← hD]; exact d2.size)
            rw [hwwA3, hD]
            have LRMD := Lib.hid (show RdX (fun i => i ≠ D) wM _ _ from fun hn => by obtain ⟨b, off, e, hb, _, hc⟩ := RM.out hn; exact ⟨b, off, e, hb, by rw [← hD]; omega, hc⟩)
            have d3 : Below w26.heap.size w26 wA3 := d2.trans (hA3.mono d2.size)
            replace RM := Lib.hid (RdX.belowX RM.out hA3)
            replace LRMD := Lib.hid (RdX.belowX LRMD.out hA3)
            clear hwwA3 hD hA3
            refine hK.out _ _ (HSR.out _ d3) (fun hS9 => ?_)
            clear hK K hS
            have hS := hS9
            clear hS9
            (try simp only [Act.put, List.setIfInBounds_toArray, List.set_cons_zero, List.set_cons_succ])
            refine wpAnyH_ready (rs := [4]) (by kernel_rfl) (by simp) ?_
            refine AllReadyH.cons (o := _) rfl (fun K hK => ?_) (AllReadyH.nil)
            obtain ⟨k0, k1, k2, k3, k4, kz⟩ := KD.out.five
            obtain ⟨y0, y1, y2, y3, y4⟩ := KD.out.free5
            go_simp
            have hst := st5 (o := 0) (v0 := .int .u8 0) (v1 := .bool false) (v2 := .int .u32 4) (v3 := .slice (some ⟨gM, 0, none⟩) 200 200) (v4 := .slice none 0 0) KD.out d3 GD.out
            refine hK.out _ _ (HSR.out _ hst.2) (fun hS9 => ?_)
            clear hK K hS
            have hS := hS9
            clear hS9
            (try simp only [Act.put, List.setIfInBounds_toArray, List.set_cons_zero, List.set_cons_succ])
            refine wpAnyH_done (by kernel_rfl) ?_ _
            clear hS
            clear k0 k1 k2 k3 k4 kz y0 y1 y2 y3 y4
            have HST := Lib.hid hst
            clear hst
            go_wp2_with fail
            go_meet
            exact ⟨_, D, rfl, HST.out.1, ⟨rx5k LRMD.out, by intro y hy; have := (List.mem_replicate.1 hy).2; omega⟩, HST.out.2⟩
          · go_simp
            obtain ⟨wA3, hwwA3⟩ : ∃ v, wC0.alloc (.cells #[.int .u8 0, .bool false, .int .u32 0, .slice none 0 0, .slice none 0 0] 29) = v := ⟨_, rfl⟩
            have hA3 : Below wC0.heap.size wC0 wA3 := by rw [← hwwA3]; exact bel1 _ _
            obtain ⟨D, hD⟩ : ∃ g, wC0.heap.size = g := ⟨_, rfl⟩
            have KD := Lib.hid (show Bk wA3 D 29 [.int .u8 0, .bool false, .int .u32 0, .slice none 0 0, .slice none 0 0] by rw [← hwwA3, ← hD]; exact Bk.new wC0 _ [_, _, _, _, _])
            have GD := Lib.hid (show w26.heap.size ≤ D by rw [← hD]; exact d1.size)
            rw [hwwA3, hD]
            have d2 : Below w26.heap.size w26 wA3 := d1.trans (hA3.mono d1.size)
            clear hwwA3 hD hA3
            refine hK.out _ _ (HSR.out _ d2) (fun hS9 => ?_)
            clear hK K hS
            have hS := hS9
            clear hS9
            (try simp only [Act.put, List.setIfInBounds_toArray, List.set_cons_zero, List.set_cons_succ])
            refine wpAnyH_ready (rs := [1]) (by kernel_rfl) (by simp) ?_
            refine AllReadyH.cons (o := _) rfl (fun K hK => ?_) (AllReadyH.nil)
            go_simp
            obtain ⟨wM, hwM⟩ : ∃ v, wA3.alloc (.cells (cs8 (List.replicate 200 0)).toArray 5) = v := ⟨_, rfl⟩
            obtain ⟨gM, hgM⟩ : ∃ g, wA3.heap.size = g := ⟨_, rfl⟩
            have hmk : (Instr.makeSlice 26 (.int .i64 200) (.int .i64 200)).run Try.prog wA3 = .ok (.slice (some ⟨gM, 0, none⟩) 200 200) wM := by have h := make_bytes 200 (by decide) wA3; rw [hwM, hgM] at h; exact h
            have hv : Below wA3.heap.size wA3 wM := by rw [← hwM]; exact bel1 _ _
            have km : Bk wM gM 5 (cs8 (List.replicate 200 0)) := by rw [← hwM, ← hgM]; exact Bk.new wA3 _ _
            have RM := Lib.hid (show RdX (fun _ => True) wM (some ⟨gM, 0, none⟩) (cs8 (List.replicate 200 0)) from fun _ => ⟨gM, 0, rfl, km.lt, trivial, fun j u hu => by rw [Nat.zero_add, km.cell]; exact hu⟩)
            have LRMD := Lib.hid (show RdX (fun i => i ≠ D) wM (some ⟨gM, 0, none⟩) (cs8 (List.replicate 200 0)) from fun _ => ⟨gM, 0, rfl, km.lt, (show gM ≠ D by have := KD.out.lt; omega), fun j u hu => by rw [Nat.zero_add, km.cell]; exact hu⟩)
            clear km hwM
            (try rw [hmk])
            (try go_simp)
            have d3 : Below w26.heap.size w26 wM := d2.trans (hv.mono d2.size)
            replace KD := Lib.hid (KD.out.below hv KD.out.lt)
            clear hv hgM hmk
            refine hK.out _ _ (HSR.out _ d3) (fun hS9 => ?_)
            clear hK K hS
            have hS := hS9
            clear hS9
            (try simp only [Act.put, List.setIfInBounds_toArray, List.set_cons_zero, List.set_cons_succ])
            refine wpAnyH_take (i := 2) (oi := ⟨some 95, _, _, _, _, _⟩) (v := .agg #[.int .u8 0, .bool false, .int .u32 4, .slice (some ⟨gM, 0, none⟩) 200 200, .slice none 0 0]) rfl (by kernel_rfl) (by kernel_rfl) (by kernel_rfl) (fun _ _ _ h => h) (Or.inl ⟨by rfl, fun w _ => by go_simp⟩) hS ?_
            (try simp only [Act.put, List.setIfInBounds_toArray, List.set_cons_zero, List.set_cons_succ])
            refine wpAnyH_ready (rs := [4]) (by kernel_rfl) (by simp) ?_
            refine AllReadyH.cons (o := _) rfl (fun K hK => ?_) (AllReadyH.nil)
            obtain ⟨k0, k1, k2, k3, k4, kz⟩ := KD.out.five
            obtain ⟨y0, y1, y2, y3, y4⟩ := KD.out.free5
            go_simp
            have hst := st5 (o := 0) (v0 := .int .u8 0) (v1 := .bool false) (v2 := .int .u32 4) (v3 := .slice (some ⟨gM, 0, none⟩) 200 200) (v4 := .slice none 0 0) KD.out d3 GD.out
            refine hK.out _ _ (HSR.out _ hst.2) (fun hS9 => ?_)
            clear hK K hS
            have hS := hS9
            clear hS9
            (try simp only [Act.put, List.setIfInBounds_toArray, List.set_cons_zero, List.set_cons_succ])
            refine wpAnyH_done (by kernel_rfl) ?_ _
            clear hS
            clear k0 k1 k2 k3 k4 kz y0 y1 y2 y3 y4
            have HST := Lib.hid hst
            clear hst
            go_wp2_with fail
            go_meet
            exact ⟨_, D, rfl, HST.out.1, ⟨rx5k LRMD.out, by intro y hy; have := (List.mem_replicate.1 hy).2; omega⟩, HST.out.2⟩
        · go_simp
          obtain ⟨wM, hwM⟩ : ∃ v, wd.alloc (.cells (cs8 (List.replicate 200 0)).toArray 5) = v := ⟨_, rfl⟩
          obtain ⟨gM, hgM⟩ : ∃ g, wd.heap.size = g := ⟨_, rfl⟩
          have hmk : (Instr.makeSlice 26 (.int .i64 200) (.int .i64 200)).run Try.prog wd = .ok (.slice (some ⟨gM, 0, none⟩) 200 200) wM := by have h := make_bytes 200 (by decide) wd; rw [hwM, hgM] at h; exact h
          have hv : Below wd.heap.size wd wM := by rw [← hwM]; exact bel1 _ _
          have km : Bk wM gM 5 (cs8 (List.replicate 200 0)) := by rw [← hwM, ← hgM]; exact Bk.new wd _ _
          have RM := Lib.hid (show RdX (fun _ => True) wM (some ⟨gM, 0, none⟩) (cs8 (List.replicate 200 0)) from fun _ => ⟨gM, 0, rfl, km.lt, trivial, fun j u hu => by rw [Nat.zero_add, km.cell]; exact hu⟩)
          clear hwM km
          (try rw [hmk])
          (try go_simp)
          have d1 : Below w26.heap.size w26 wM := d0.trans (hv.mono d0.size)
          clear hv hgM hmk
          refine hK.out _ _ (HSR.out _ d1) (fun hS9 => ?_)
          clear hK K hS
          have hS := hS9
          clear hS9
          (try simp only [Act.put, List.setIfInBounds_toArray, List.set_cons_zero, List.set_cons_succ])
          refine wpAnyH_ready (rs := [0, 3]) (by kernel_rfl) (by simp) ?_
          refine AllReadyH.cons (o := _) rfl (fun K hK => ?_) (AllReadyH.cons (o := _) rfl (fun K hK => ?_) (AllReadyH.nil))
          · go_simp
            refine (tag_any 5 0 4 false _ (by decide) rfl).mono ?_
            rintro e wC0 ⟨rfl, hv⟩
            have d2 : Below w26.heap.size w26 wC0 := d1.trans (hv.mono d1.size)
            replace RM := Lib.hid (RdX.belowX RM.out hv)
            clear hv
            refine hK.out _ _ (HSR.out _ d2) (fun hS9 => ?_)
            clear hK K hS
            have hS := hS9
            clear hS9
            (try simp only [Act.put, List.setIfInBounds_toArray, List.set_cons_zero, List.set_cons_succ])
            refine wpAnyH_take (i := 2) (oi := ⟨some 95, _, _, _, _, _⟩) (v := .agg #[.int .u8 0, .bool false, .int .u32 4, .slice (some ⟨gM, 0, none⟩) 200 200, .slice none 0 0]) rfl (by kernel_rfl) (by kernel_rfl) (by kernel_rfl) (fun _ _ _ h => h) (Or.inl ⟨by rfl, fun w _ => by go_simp⟩) hS ?_
            (try simp only [Act.put, List.setIfInBounds_toArray, List.set_cons_zero, List.set_cons_succ])
            refine wpAnyH_ready (rs := [3]) (by kernel_rfl) (by simp) ?_
            refine AllReadyH.cons (o := _) rfl (fun K hK => ?_) (AllReadyH.nil)
            go_simp
            obtain ⟨wA3, hwwA3⟩ : ∃ v, wC0.alloc (.cells #[.int .u8 0, .bool false, .int .u32 0, .slice none 0 0, .slice none 0 0] 29) = v := ⟨_, rfl⟩
            have hA3 : Below wC0.heap.size wC0 wA3 := by rw [← hwwA3]; exact bel1 _ _
            obtain ⟨D, hD⟩ : ∃ g, wC0.heap.size = g := ⟨_, rfl⟩
            have KD := Lib.hid (show Bk wA3 D 29 [.int .u8 0, .bool false, .int .u32 0, .slice none 0 0, .slice none 0 0] by rw [← hwwA3, ← hD]; exact Bk.new wC0 _ [_, _, _, _, _])
            have GD := Lib.hid (show w26.heap.size ≤ D by rw [← hD]; exact d2.size)
            rw [hwwA3, hD]
            have LRMD := Lib.hid (show RdX (fun i => i ≠ D) wC0 _ _ from fun hn => by obtain ⟨b, off, e, hb, _, hc⟩ := RM.out hn; exact ⟨b, off, e, hb, by rw [← hD]; omega, hc⟩)
            have d3 : Below w26.heap.size w26 wA3 := d2.trans (hA3.mono d2.size)
            replace RM := Lib.hid (RdX.belowX RM.out hA3)
            replace LRMD := Lib.hid (RdX.belowX LRMD.out hA3)
            clear hwwA3 hD hA3
            refine hK.out _ _ (HSR.out _ d3) (fun hS9 => ?_)
            clear hK K hS
            have hS := hS9
            clear hS9
            (try simp only [Act.put, List.setIfInBounds_toArray, List.set_cons_zero, List.set_cons_succ])
            refine wpAnyH_ready (rs := [4]) (by kernel_rfl) (by simp) ?_
            refine AllReadyH.cons (o := _) rfl (fun K hK => ?_) (AllReadyH.nil)
            obtain ⟨k0, k1, k2, k3, k4, kz⟩ := KD.out.five
            obtain ⟨y0, y1, y2, y3, y4⟩ := KD.out.free5
            go_simp
            have hst := st5 (o := 0) (v0 := .int .u8 0) (v1 := .bool false) (v2 := .int .u32 4) (v3 := .slice (some ⟨gM, 0, none⟩) 200 200) (v4 := .slice none 0 0) KD.out d3 GD.out
            refine hK.out _ _ (HSR.out _ hst.2) (fun hS9 => ?_)
            clear hK K hS
            have hS := hS9
            clear hS9
            (try simp only [Act.put, List.setIfInBounds_toArray, List.set_cons_zero, List.set_cons_succ])
            refine wpAnyH_done (by kernel_rfl) ?_ _
            clear hS
            clear k0 k1 k2 k3 k4 kz y0 y1 y2 y3 y4
            have HST := Lib.hid hst
            clear hst
            go_wp2_with fail
            go_meet
            exact ⟨_, D, rfl, HST.out.1, ⟨rx5k LRMD.out, by intro y hy; have := (List.mem_replicate.1 hy).2; omega⟩, HST.out.2⟩
          · go_simp
            obtain ⟨wA3, hwwA3⟩ : ∃ v, wM.alloc (.cells #[.int .u8 0, .bool false, .int .u32 0, .slice none 0 0, .slice none 0 0] 29) = v := ⟨_, rfl⟩
            have hA3 : Below wM.heap.size wM wA3 := by rw [← hwwA3]; exact bel1 _ _
            obtain ⟨D, hD⟩ : ∃ g, wM.heap.size = g := ⟨_, rfl⟩
            have KD := Lib.hid (show Bk wA3 D 29 [.int .u8 0, .bool false, .int .u32 0, .slice none 0 0, .slice none 0 0] by rw [← hwwA3, ← hD]; exact Bk.new wM _ [_, _, _, _, _])
            have GD := Lib.hid (show w26.heap.size ≤ D by rw [← hD]; exact d1.size)
            rw [hwwA3, hD]
            have LRMD := Lib.hid (show RdX (fun i => i ≠ D) wM _ _ from fun hn => by obtain ⟨b, off, e, hb, _, hc⟩ := RM.out hn; exact ⟨b, off, e, hb, by rw [← hD]; omega, hc⟩)
            have d2 : Below w26.heap.size w26 wA3 := d1.trans (hA3.mono d1.size)
            replace RM := Lib.hid (RdX.belowX RM.out hA3)
            replace LRMD := Lib.hid (RdX.belowX LRMD.out hA3)
            clear hwwA3 hD hA3
            refine hK.out _ _ (HSR.out _ d2) (fun hS9 => ?_)
            clear hK K hS
            have hS := hS9
            clear hS9
            (try simp only [Act.put, List.setIfInBounds_toArray, List.set_cons_zero, List.set_cons_succ])
            refine wpAnyH_ready (rs := [0]) (by kernel_rfl) (by simp) ?_
            refine AllReadyH.cons (o := _) rfl (fun K hK => ?_) (AllReadyH.nil)
            go_simp
            refine (tag_any 5 0 4 false _ (by decide) rfl).mono ?_
            rintro e wC0 ⟨rfl, hv⟩
            have d3 : Below w26.heap.size w26 wC0 := d2.trans (hv.mono d2.size)
            replace RM := Lib.hid (RdX.belowX RM.out hv)
            replace LRMD := Lib.hid (RdX.belowX LRMD.out hv)
            replace KD := Lib.hid (KD.out.below hv KD.out.lt)
            clear hv
            refine hK.out _ _ (HSR.out _ d3) (fun hS9 => ?_)
            clear hK K hS
            have hS := hS9
            clear hS9
            (try simp only [Act.put, List.setIfInBounds_toArray, List.set_cons_zero, List.set_cons_succ])
            refine wpAnyH_take (i := 2) (oi := ⟨some 95, _, _, _, _, _⟩) (v := .agg #[.int .u8 0, .bool false, .int .u32 4, .slice (some ⟨gM, 0, none⟩) 200 200, .slice none 0 0]) rfl (by kernel_rfl) (by kernel_rfl) (by kernel_rfl) (fun _ _ _ h => h) (Or.inl ⟨by rfl, fun w _ => by go_simp⟩) hS ?_
            (try simp only [Act.put, List.setIfInBounds_toArray, List.set_cons_zero, List.set_cons_succ])
            refine wpAnyH_ready (rs := [4]) (by kernel_rfl) (by simp) ?_
            refine AllReadyH.cons (o := _) rfl (fun K hK => ?_) (AllReadyH.nil)
            obtain ⟨k0, k1, k2, k3, k4, kz⟩ := KD.out.five
            obtain ⟨y0, y1, y2, y3, y4⟩ := KD.out.free5
            go_simp
            have hst := st5 (o := 0) (v0 := .int .u8 0) (v1 := .bool false) (v2 := .int .u32 4) (v3 := .slice (some ⟨gM, 0, none⟩) 200 200) (v4 := .slice none 0 0) KD.out d3 GD.out
            refine hK.out _ _ (HSR.out _ hst.2) (fun hS9 => ?_)
            clear hK K hS
            have hS := hS9
            clear hS9
            (try simp only [Act.put, List.setIfInBounds_toArray, List.set_cons_zero, List.set_cons_succ])
            refine wpAnyH_done (by kernel_rfl) ?_ _
            clear hS
            clear k0 k1 k2 k3 k4 kz y0 y1 y2 y3 y4
            have HST := Lib.hid hst
            clear hst
            go_wp2_with fail
            go_meet
            exact ⟨_, D, rfl, HST.out.1, ⟨rx5k LRMD.out, by intro y hy; have := (List.mem_replicate.1 hy).2; omega⟩, HST.out.2⟩
        · go_simp
          obtain ⟨wA3, hwwA3⟩ : ∃ v, wd.alloc (.cells #[.int .u8 0, .bool false, .int .u32 0, .slice none 0 0, .slice none 0 0] 29) = v := ⟨_, rfl⟩
          have hA3 : Below wd.heap.size wd wA3 := by rw [← hwwA3]; exact bel1 _ _
          obtain ⟨D, hD⟩ : ∃ g, wd.heap.size = g := ⟨_, rfl⟩
          have KD := Lib.hid (show Bk wA3 D 29 [.int .u8 0, .bool false, .int .u32 0, .slice none 0 0, .slice none 0 0] by rw [← hwwA3, ← hD]; exact Bk.new wd _ [_, _, _, _, _])
          have GD := Lib.hid (show w26.heap.size ≤ D by rw [← hD]; exact d0.size)
          rw [hwwA3, hD]
          have d1 : Below w26.heap.size w26 wA3 := d0.trans (hA3.mono d0.size)
          clear hwwA3 hD hA3
          refine hK.out _ _ (HSR.out _ d1) (fun hS9 => ?_)
          clear hK K hS
          have hS := hS9
          clear hS9
          (try simp only [Act.put, List.setIfInBounds_toArray, List.set_cons_zero, List.set_cons_succ])
          refine wpAnyH_ready (rs := [0, 1]) (by kernel_rfl) (by simp) ?_
          refine AllReadyH.cons (o := _) rfl (fun K hK => ?_) (AllReadyH.cons (o := _) rfl (fun K hK => ?_) (AllReadyH.nil))
          · go_simp
            refine (tag_any 5 0 4 false _ (by decide) rfl).mono ?_
            rintro e wC0 ⟨rfl, hv⟩
            have d2 : Below w26.heap.size w26 wC0 := d1.trans (hv.mono d1.size)
            replace KD := Lib.hid (KD.out.below hv KD.out.lt)
            clear hv
            refine hK.out _ _ (HSR.out _ d2) (fun hS9 => ?_)
            clear hK K hS
            have hS := hS9
            clear hS9
            (try simp only [Act.put, List.setIfInBounds_toArray, List.set_cons_zero, List.set_cons_succ])
            refine wpAnyH_ready (rs := [1]) (by kernel_rfl) (by simp) ?_
            refine AllReadyH.cons (o := _) rfl (fun K hK => ?_) (AllReadyH.nil)
            go_simp
            obtain ⟨wM, hwM⟩ : ∃ v, wC0.alloc (.cells (cs8 (List.replicate 200 0)).toArray 5) = v := ⟨_, rfl⟩
            obtain ⟨gM, hgM⟩ : ∃ g, wC0.heap.size = g := ⟨_, rfl⟩
            have hmk : (Instr.makeSlice 26 (.int .i64 200) (.int .i64 200)).run Try.prog wC0 = .ok (.slice (some ⟨gM, 0, none⟩) 200 200) wM := by have h := make_bytes 200 (by decide) wC0; rw [hwM, hgM] at h; exact h
            have hv : Below wC0.heap.size wC0 wM := by rw [← hwM]; exact bel1 _ _
            have km : Bk wM gM 5 (cs8 (List.replicate 200 0)) := by rw [← hwM, ← hgM]; exact Bk.new wC0 _ _
            have RM := Lib.hid (show RdX (fun _ => True) wM (some ⟨gM, 0, none⟩) (cs8 (List.replicate 200 0)) from fun _ => ⟨gM, 0, rfl, km.lt, trivial, fun j u hu => by rw [Nat.zero_add, km.cell]; exact hu⟩)
            have LRMD := Lib.hid (show RdX (fun i => i ≠ D) wM (some ⟨gM, 0, none⟩) (cs8 (List.replicate 200 0)) from fun _ => ⟨gM, 0, rfl, km.lt, (show gM ≠ D by have := KD.out.lt; omega), fun j u hu => by rw [Nat.zero_add, km.cell]; exact hu⟩)
            clear km hwM
            (try rw [hmk])
            (try go_simp)
            have d3 : Below w26.heap.size w26 wM := d2.trans (hv.mono d2.size)
            replace KD := Lib.hid (KD.out.below hv KD.out.lt)
            clear hv hgM hmk
            refine hK.out _ _ (HSR.out _ d3) (fun hS9 => ?_)
            clear hK K hS
            have hS := hS9
            clear hS9
            (try simp only [Act.put, List.setIfInBounds_toArray, List.set_cons_zero, List.set_cons_succ])
            refine wpAnyH_take (i := 2) (oi := ⟨some 95, _, _, _, _, _⟩) (v := .agg #[.int .u8 0, .bool false, .int .u32 4, .slice (some ⟨gM, 0, none⟩) 200 200, .slice none 0 0]) rfl (by kernel_rfl) (by kernel_rfl) (by kernel_rfl) (fun _ _ _ h => h) (Or.inl ⟨by rfl, fun w _ => by go_simp⟩) hS ?_
            (try simp only [Act.put, List.setIfInBounds_toArray, List.set_cons_zero, List.set_cons_succ])
            refine wpAnyH_ready (rs := [4]) (by kernel_rfl) (by simp) ?_
            refine AllReadyH.cons (o := _) rfl (fun K hK => ?_) (AllReadyH.nil)
            obtain ⟨k0, k1, k2, k3, k4, kz⟩ := KD.out.five
            obtain ⟨y0, y1, y2, y3, y4⟩ := KD.out.free5
            go_simp
            have hst := st5 (o := 0) (v0 := .int .u8 0) (v1 := .bool false) (v2 := .int .u32 4) (v3 := .slice (some ⟨gM, 0, none⟩) 200 200) (v4 := .slice none 0 0) KD.out d3 GD.out
            refine hK.out _ _ (HSR.out _ hst.2) (fun hS9 => ?_)
            clear hK K hS
            have hS := hS9
            clear hS9
            (try simp only [Act.put, List.setIfInBounds_toArray, List.set_cons_zero, List.set_cons_succ])
            refine wpAnyH_done (by kernel_rfl) ?_ _
            clear hS
            clear k0 k1 k2 k3 k4 kz y0 y1 y2 y3 y4
            have HST := Lib.hid hst
            clear hst
            go_wp2_with fail
            go_meet
            exact ⟨_, D, rfl, HST.out.1, ⟨rx5k LRMD.out, by intro y hy; have := (List.mem_replicate.1 hy).2; omega⟩, HST.out.2⟩
          · go_simp
            obtain ⟨wM, hwM⟩ : ∃ v, wA3.alloc (.cells (cs8 (List.replicate 200 0)).toArray 5) = v := ⟨_, rfl⟩
            obtain ⟨gM, hgM⟩ : ∃ g, wA3.heap.size = g := ⟨_, rfl⟩
            have hmk : (Instr.makeSlice 26 (.int .i64 200) (.int .i64 200)).run Try.prog wA3 = .ok (.slice (some ⟨gM, 0, none⟩) 200 200) wM := by have h := make_bytes 200 (by decide) wA3; rw [hwM, hgM] at h; exact h
            have hv : Below wA3.heap.size wA3 wM := by rw [← hwM]; exact bel1 _ _
            have km : Bk wM gM 5 (cs8 (List.replicate 200 0)) := by rw [← hwM, ← hgM]; exact Bk.new wA3 _ _
            have RM := Lib.hid (show RdX (fun _ => True) wM (some ⟨gM, 0, none⟩) (cs8 (List.replicate 200 0)) from fun _ => ⟨gM, 0, rfl, km.lt, trivial, fun j u hu => by rw [Nat.zero_add, km.cell]; exact hu⟩)
            have LRMD := Lib.hid (show RdX (fun i => i ≠ D) wM (some ⟨gM, 0, none⟩) (cs8 (List.replicate 200 0)) from fun _ => ⟨gM, 0, rfl, km.lt, (show gM ≠ D by have := KD.out.lt; omega), fun j u hu => by rw [Nat.zero_add, km.cell]; exact hu⟩)
            clear km hwM
            (try rw [hmk])
            (try go_simp)
            have d2 : Below w26.heap.size w26 wM := d1.trans (hv.mono d1.size)
            replace KD := Lib.hid (KD.out.below hv KD.out.lt)
            clear hv hgM hmk
            refine hK.out _ _ (HSR.out _ d2) (fun hS9 => ?_)
            clear hK K hS
            have hS := hS9
            clear hS9
            (try simp only [Act.put, List.setIfInBounds_toArray, List.set_cons_zero, List.set_cons_succ])
            refine wpAnyH_ready (rs := [0]) (by kernel_rfl) (by simp) ?_
            refine AllReadyH.cons (o := _) rfl (fun K hK => ?_) (AllReadyH.nil)
            go_simp
            refine (tag_any 5 0 4 false _ (by decide) rfl).mono ?_
            rintro e wC0 ⟨rfl, hv⟩
            have d3 : Below w26.heap.size w26 wC0 := d2.trans (hv.mono d2.size)
            replace KD := Lib.hid (KD.out.below hv KD.out.lt)
            replace RM := Lib.hid (RdX.belowX RM.out hv)
            replace LRMD := Lib.hid (RdX.belowX LRMD.out hv)
            clear hv
            refine hK.out _ _ (HSR.out _ d3) (fun hS9 => ?_)
            clear hK K hS
            have hS := hS9
            clear hS9
            (try simp only [Act.put, List.setIfInBounds_toArray, List.set_cons_zero, List.set_cons_succ])
            refine wpAnyH_take (i := 2) (oi := ⟨some 95, _, _, _, _, _⟩) (v := .agg #[.int .u8 0, .bool false, .int .u32 4, .slice (some ⟨gM, 0, none⟩) 200 200, .slice none 0 0]) rfl (by kernel_rfl) (by kernel_rfl) (by kernel_rfl) (fun _ _ _ h => h) (Or.inl ⟨by rfl, fun w _ => by go_simp⟩) hS ?_
            (try simp only [Act.put, List.setIfInBounds_toArray, List.set_cons_zero, List.set_cons_succ])
            refine wpAnyH_ready (rs := [4]) (by kernel_rfl) (by simp) ?_
            refine AllReadyH.cons (o := _) rfl (fun K hK => ?_) (AllReadyH.nil)
            obtain ⟨k0, k1, k2, k3, k4, kz⟩ := KD.out.five
            obtain ⟨y0, y1, y2, y3, y4⟩ := KD.out.free5
            go_simp
            have hst := st5 (o := 0) (v0 := .int .u8 0) (v1 := .bool false) (v2 := .int .u32 4) (v3 := .slice (some ⟨gM, 0, none⟩) 200 200) (v4 := .slice none 0 0) KD.out d3 GD.out
            refine hK.out _ _ (HSR.out _ hst.2) (fun hS9 => ?_)
            clear hK K hS
            have hS := hS9
            clear hS9
            (try simp only [Act.put, List.setIfInBounds_toArray, List.set_cons_zero, List.set_cons_succ])
            refine wpAnyH_done (by kernel_rfl) ?_ _
            clear hS
            clear k0 k1 k2 k3 k4 kz y0 y1 y2 y3 y4
            have HST := Lib.hid hst
            clear hst
            go_wp2_with fail
            go_meet
            exact ⟨_, D, rfl, HST.out.1, ⟨rx5k LRMD.out, by intro y hy; have := (List.mem_replicate.1 hy).2; omega⟩, HST.out.2⟩
      case rest =>
        obtain ⟨AL, gl, rfl, hkl, hrl, hby⟩ := hcut
        generalize wc = wz12 at *
        have hbh := Lib.hid hby
        replace B := bt B hbh
        have KG := Lib.hid hkl
        have RL := Lib.hid hrl
        clear hbh hby hkl hrl
        go_upto_region 13 with fail
        go_cut [8] (fun z8 wy => ∃ BS D, z8 = .pointer (some ⟨D, 0, none⟩) ∧ Bk wy D 29 [.int .u8 2, .bool true, .int .u32 31, .slice none 0 0, .slice BS 2 2] ∧ RdS false (fun _ => True) wy BS [loE, miE] ∧ Below wz12.heap.size wz12 wy)
        case first =>
          have HSR := Lib.hid (show ∀ W, Below wz12.heap.size wz12 W → W.cell? ⟨gl, 0, none⟩ = some (.int .u8 0) ∧ W.cell? ⟨gl, 1, none⟩ = some (.bool false) ∧ W.cell? ⟨gl, 2, none⟩ = some (.int .u32 4) ∧ W.cell? ⟨gl, 3, none⟩ = some (.slice AL 200 200) ∧ W.cell? ⟨gl, 4, none⟩ = some (.slice none 0 0) ∧ Below wz12.heap.size wz12 W from fun W hW => ⟨(hW.cell (p := ⟨gl, 0, none⟩) KG.out.lt).trans (KG.out.cell 0), (hW.cell (p := ⟨gl, 1, none⟩) KG.out.lt).trans (KG.out.cell 1), (hW.cell (p := ⟨gl, 2, none⟩) KG.out.lt).trans (KG.out.cell 2), (hW.cell (p := ⟨gl, 3, none⟩) KG.out.lt).trans (KG.out.cell 3), (hW.cell (p := ⟨gl, 4, none⟩) KG.out.lt).trans (KG.out.cell 4), hW⟩)
          refine wp_region_held_drew (S := fun W => W.cell? ⟨gl, 0, none⟩ = some (.int .u8 0) ∧ W.cell? ⟨gl, 1, none⟩ = some (.bool false) ∧ W.cell? ⟨gl, 2, none⟩ = some (.int .u32 4) ∧ W.cell? ⟨gl, 3, none⟩ = some (.slice AL 200 200) ∧ W.cell? ⟨gl, 4, none⟩ = some (.slice none 0 0) ∧ Below wz12.heap.size wz12 W) (by kernel_rfl) (HSR.out _ (Below.refl wz12.heap.size wz12).drew) (fun hS => ?_)
          obtain ⟨wd, hwd⟩ : ∃ v, wz12.drew = v := ⟨_, rfl⟩
          have d0 : Below wz12.heap.size wz12 wd := by rw [← hwd]; exact (Below.refl wz12.heap.size wz12).drew
          have LOx := Lib.hid (show RdE false (fun _ => True) wd loE (elV 0 4 false (.slice AL 200 200) (.slice none 0 0)) from lo_rd (RL.out.below d0))
          rw [hwd] at hS ⊢
          clear hwd
          refine wpAnyH_take (i := 0) (oi := ⟨some 96, _, _, _, _, _⟩) (v := .agg #[.int .u8 2, .bool true, .int .u32 31]) rfl (by kernel_rfl) (by kernel_rfl) (by kernel_rfl) (fun _ _ _ h => h) (Or.inl ⟨by rfl, fun w _ => by go_simp⟩) hS ?_
          (try simp only [Act.put, List.setIfInBounds_toArray, List.set_cons_zero, List.set_cons_succ])
          refine wpAnyH_take (i := 1) (oi := ⟨some 97, _, _, _, _, _⟩) (v := .agg #[.int .u8 0, .bool false, .int .u32 4, .slice AL 200 200, .slice none 0 0]) rfl (by kernel_rfl) (by kernel_rfl) (by kernel_rfl) (fun _ _ _ h => h) (Or.inl ⟨by rfl, fun w hSw => by (try obtain ⟨s1, s2, s3, s4, s5, s6⟩ := hSw); go_simp⟩) hS ?_
          (try simp only [Act.put, List.setIfInBounds_toArray, List.set_cons_zero, List.set_cons_succ])
          refine wpAnyH_take (i := 3) (oi := ⟨some 99, _, _, _, _, _⟩) (v := .agg #[.int .u8 0, .bool false, .int .u32 4, .slice AL 200 200, .slice none 0 0]) rfl (by kernel_rfl) (by kernel_rfl) (by kernel_rfl) (fun _ _ _ h => h) (Or.inl ⟨by rfl, fun w hSw => by (try obtain ⟨s1, s2, s3, s4, s5, s6⟩ := hSw); go_simp⟩) hS ?_
          (try simp only [Act.put, List.setIfInBounds_toArray, List.set_cons_zero, List.set_cons_succ])
          refine wpAnyH_ready (rs := [2, 9]) (by kernel_rfl) (by simp) ?_
          refine AllReadyH.cons (o := _) rfl (fun K hK => ?_) (AllReadyH.cons (o := _) rfl (fun K hK => ?_) (AllReadyH.nil))
          · go_simp
            refine (tag_any 0 0 16 true _ (by decide) rfl).mono ?_
            rintro e wC2 ⟨rfl, hv⟩
            have d1 : Below wz12.heap.size wz12 wC2 := d0.trans (hv.mono d0.size)
            replace LOx := Lib.hid (LOx.out.stay hv)
            clear hv
            refine hK.out _ _ (HSR.out _ d1) (fun hS9 => ?_)
            clear hK K hS
            have hS := hS9
            clear hS9
            (try simp only [Act.put, List.setIfInBounds_toArray, List.set_cons_zero, List.set_cons_succ])
            refine wpAnyH_ready (rs := [4, 9]) (by kernel_rfl) (by simp) ?_
            refine AllReadyH.cons (o := _) rfl (fun K hK => ?_) (AllReadyH.cons (o := _) rfl (fun K hK => ?_) (AllReadyH.nil))
            · go_simp
              refine (known_any _).mono ?_
              rintro e wC4 ⟨BK, rfl, hkn, hv⟩
              have KN := Lib.hid (show RdE false (fun _ => True) wC4 knE (elV 0 16 true (.slice none 0 0) (.slice BK 2 2)) from anyE hkn)
              have d2 : Below wz12.heap.size wz12 wC4 := d1.trans (hv.mono d1.size)
              replace LOx := Lib.hid (LOx.out.stay hv)
              clear hv hkn
              refine hK.out _ _ (HSR.out _ d2) (fun hS9 => ?_)
              clear hK K hS
              have hS := hS9
              clear hS9
              (try simp only [Act.put, List.setIfInBounds_toArray, List.set_cons_zero, List.set_cons_succ])
              refine wpAnyH_ready (rs := [5, 9]) (by kernel_rfl) (by simp) ?_
              refine AllReadyH.cons (o := _) rfl (fun K hK => ?_) (AllReadyH.cons (o := _) rfl (fun K hK => ?_) (AllReadyH.nil))
              · go_simp
                obtain ⟨wTa, hwwTa⟩ : ∃ v, wC4.alloc (.cells #[.int .u8 0, .bool false, .int .u32 4, .slice AL 200 200, .slice none 0 0, .int .u8 0, .bool true, .int .u32 16, .slice none 0 0, .slice BK 2 2] 29) = v := ⟨_, rfl⟩
                obtain ⟨ga, hga⟩ : ∃ g, wC4.heap.size = g := ⟨_, rfl⟩
                have hv : Below wC4.heap.size wC4 wTa := by rw [← hwwTa]; exact bel1 _ _
                have km : Bk wTa ga 29 [.int .u8 0, .bool false, .int .u32 4, .slice AL 200 200, .slice none 0 0, .int .u8 0, .bool true, .int .u32 16, .slice none 0 0, .slice BK 2 2] := by rw [← hwwTa, ← hga]; exact Bk.new wC4 _ [_, _, _, _, _, _, _, _, _, _]
                have RTa := Lib.hid (two_rd (S := (fun _ => True)) (a := loE) (b := knE) km trivial (LOx.out.stay hv) (KN.out.stay hv))
                rw [hwwTa, hga]
                have RMI := Lib.hid (show RdE false (fun _ => True) wTa miE (elV 0 16 true (.slice none 0 0) (.slice (some ⟨ga, 0, none⟩) 2 2)) from rdE_parts (by decide) (by decide) rfl (Nat.le_refl _) (by unfold maxLen; decide) (fun h => by cases h) RTa.out)
                have d3 : Below wz12.heap.size wz12 wTa := d2.trans (hv.mono d2.size)
                replace LOx := Lib.hid (LOx.out.stay hv)
                replace KN := Lib.hid (KN.out.stay hv)
                clear hwwTa hga km hv
                refine hK.out _ _ (HSR.out _ d3) (fun hS9 => ?_)
                clear hK K hS
                have hS := hS9
                clear hS9
                (try simp only [Act.put, List.setIfInBounds_toArray, List.set_cons_zero, List.set_cons_succ])
                refine wpAnyH_take (i := 6) (oi := ⟨some 102, _, _, _, _, _⟩) (v := .agg #[.int .u8 0, .bool true, .int .u32 16, .slice none 0 0, .slice (some ⟨ga, 0, none⟩) 2 2]) rfl (by kernel_rfl) (by kernel_rfl) (by kernel_rfl) (fun _ _ _ h => h) (Or.inl ⟨by rfl, fun w _ => by go_simp⟩) hS ?_
                (try simp only [Act.put, List.setIfInBounds_toArray, List.set_cons_zero, List.set_cons_succ])
                refine wpAnyH_ready (rs := [7, 9]) (by kernel_rfl) (by simp) ?_
                refine AllReadyH.cons (o := _) rfl (fun K hK => ?_) (AllReadyH.cons (o := _) rfl (fun K hK => ?_) (AllReadyH.nil))
                · go_simp
                  obtain ⟨wTb, hwwTb⟩ : ∃ v, wTa.alloc (.cells #[.int .u8 0, .bool false, .int .u32 4, .slice AL 200 200, .slice none 0 0, .int .u8 0, .bool true, .int .u32 16, .slice none 0 0, .slice (some ⟨ga, 0, none⟩) 2 2] 29) = v := ⟨_, rfl⟩
                  obtain ⟨gb, hgb⟩ : ∃ g, wTa.heap.size = g := ⟨_, rfl⟩
                  have hv : Below wTa.heap.size wTa wTb := by rw [← hwwTb]; exact bel1 _ _
                  have km : Bk wTb gb 29 [.int .u8 0, .bool false, .int .u32 4, .slice AL 200 200, .slice none 0 0, .int .u8 0, .bool true, .int .u32 16, .slice none 0 0, .slice (some ⟨ga, 0, none⟩) 2 2] := by rw [← hwwTb, ← hgb]; exact Bk.new wTa _ [_, _, _, _, _, _, _, _, _, _]
                  have RTb := Lib.hid (two_rd (S := (fun _ => True)) (a := loE) (b := miE) km trivial (LOx.out.stay hv) (RMI.out.stay hv))
                  rw [hwwTb, hgb]
                  have d4 : Below wz12.heap.size wz12 wTb := d3.trans (hv.mono d3.size)
                  replace LOx := Lib.hid (LOx.out.stay hv)
                  replace KN := Lib.hid (KN.out.stay hv)
                  replace RTa := Lib.hid (RTa.out.stay hv)
                  replace RMI := Lib.hid (RMI.out.stay hv)
                  clear hwwTb hgb km hv
                  refine hK.out _ _ (HSR.out _ d4) (fun hS9 => ?_)
                  clear hK K hS
                  have hS := hS9
                  clear hS9
                  (try simp only [Act.put, List.setIfInBounds_toArray, List.set_cons_zero, List.set_cons_succ])
                  refine wpAnyH_take (i := 8) (oi := ⟨some 104, _, _, _, _, _⟩) (v := .agg #[.int .u8 2, .bool true, .int .u32 31, .slice none 0 0, .slice (some ⟨gb, 0, none⟩) 2 2]) rfl (by kernel_rfl) (by kernel_rfl) (by kernel_rfl) (fun _ _ _ h => h) (Or.inl ⟨by rfl, fun w _ => by go_simp⟩) hS ?_
                  (try simp only [Act.put, List.setIfInBounds_toArray, List.set_cons_zero, List.set_cons_succ])
                  refine wpAnyH_ready (rs := [9]) (by kernel_rfl) (by simp) ?_
                  refine AllReadyH.cons (o := _) rfl (fun K hK => ?_) (AllReadyH.nil)
                  go_simp
                  obtain ⟨wA13, hwwA13⟩ : ∃ v, wTb.alloc (.cells #[.int .u8 0, .bool false, .int .u32 0, .slice none 0 0, .slice none 0 0] 29) = v := ⟨_, rfl⟩
                  have hv : Below wTb.heap.size wTb wA13 := by rw [← hwwA13]; exact bel1 _ _
                  obtain ⟨D, hD⟩ : ∃ g, wTb.heap.size = g := ⟨_, rfl⟩
                  have KD := Lib.hid (show Bk wA13 D 29 [.int .u8 0, .bool false, .int .u32 0, .slice none 0 0, .slice none 0 0] by rw [← hwwA13, ← hD]; exact Bk.new wTb _ [_, _, _, _, _])
                  have GD := Lib.hid (show wz12.heap.size ≤ D by rw [← hD]; exact d4.size)
                  rw [hwwA13, hD]
                  replace LOx := Lib.hid (RdE.keep (T := (fun i => i ≠ D)) (w := wTb) (w' := wTb) (Nat.le_refl _) (fun _ _ _ => rfl) (fun i _ hi => (show i ≠ D by omega)) _ _ LOx.out)
                  replace KN := Lib.hid (RdE.keep (T := (fun i => i ≠ D)) (w := wTb) (w' := wTb) (Nat.le_refl _) (fun _ _ _ => rfl) (fun i _ hi => (show i ≠ D by omega)) _ _ KN.out)
                  replace RTa := Lib.hid (RdS.keep (T := (fun i => i ≠ D)) (w := wTb) (w' := wTb) (Nat.le_refl _) (fun _ _ _ => rfl) (fun i _ hi => (show i ≠ D by omega)) _ _ RTa.out)
                  replace RMI := Lib.hid (RdE.keep (T := (fun i => i ≠ D)) (w := wTb) (w' := wTb) (Nat.le_refl _) (fun _ _ _ => rfl) (fun i _ hi => (show i ≠ D by omega)) _ _ RMI.out)
                  replace RTb := Lib.hid (RdS.keep (T := (fun i => i ≠ D)) (w := wTb) (w' := wTb) (Nat.le_refl _) (fun _ _ _ => rfl) (fun i _ hi => (show i ≠ D by omega)) _ _ RTb.out)
                  have d5 : Below wz12.heap.size wz12 wA13 := d4.trans (hv.mono d4.size)
                  replace LOx := Lib.hid (LOx.out.stay hv)
                  replace KN := Lib.hid (KN.out.stay hv)
                  replace RTa := Lib.hid (RTa.out.stay hv)
                  replace RMI := Lib.hid (RMI.out.stay hv)
                  replace RTb := Lib.hid (RTb.out.stay hv)
                  clear hwwA13 hD hv
                  refine hK.out _ _ (HSR.out _ d5) (fun hS9 => ?_)
                  clear hK K hS
                  have hS := hS9
                  clear hS9
                  (try simp only [Act.put, List.setIfInBounds_toArray, List.set_cons_zero, List.set_cons_succ])
                  refine wpAnyH_ready (rs := [10]) (by kernel_rfl) (by simp) ?_
                  refine AllReadyH.cons (o := _) rfl (fun K hK => ?_) (AllReadyH.nil)
                  obtain ⟨k0, k1, k2, k3, k4, kz⟩ := KD.out.five
                  obtain ⟨y0, y1, y2, y3, y4⟩ := KD.out.free5
                  go_simp
                  have hst := st5 (o := 0) (v0 := .int .u8 2) (v1 := .bool true) (v2 := .int .u32 31) (v3 := .slice none 0 0) (v4 := .slice (some ⟨gb, 0, none⟩) 2 2) KD.out d5 GD.out
                  have hfin := RdS.keep (T := (fun _ => True)) (Nat.le_of_eq (siz5 wA13 D 0 (.int .u8 2) (.bool true) (.int .u32 31) (.slice none 0 0) (.slice (some ⟨gb, 0, none⟩) 2 2)).symm) (fun i hi _ => far5 wA13 D 0 _ _ _ _ _ i hi) (fun _ _ _ => trivial) _ _ RTb.out
                  refine hK.out _ _ (HSR.out _ hst.2) (fun hS9 => ?_)
                  clear hK K hS
                  have hS := hS9
                  clear hS9
                  (try simp only [Act.put, List.setIfInBounds_toArray, List.set_cons_zero, List.set_cons_succ])
                  refine wpAnyH_done (by kernel_rfl) ?_ _
                  clear hS
                  clear k0 k1 k2 k3 k4 kz y0 y1 y2 y3 y4
                  have HST := Lib.hid (And.intro hst hfin)
                  clear hst hfin
                  go_wp2_with fail
                  go_meet
                  exact ⟨_, D, rfl, HST.out.1.1, HST.out.2, HST.out.1.2⟩
                · go_simp
                  obtain ⟨wA13, hwwA13⟩ : ∃ v, wTa.alloc (.cells #[.int .u8 0, .bool false, .int .u32 0, .slice none 0 0, .slice none 0 0] 29) = v := ⟨_, rfl⟩
                  have hv : Below wTa.heap.size wTa wA13 := by rw [← hwwA13]; exact bel1 _ _
                  obtain ⟨D, hD⟩ : ∃ g, wTa.heap.size = g := ⟨_, rfl⟩
                  have KD := Lib.hid (show Bk wA13 D 29 [.int .u8 0, .bool false, .int .u32 0, .slice none 0 0, .slice none 0 0] by rw [← hwwA13, ← hD]; exact Bk.new wTa _ [_, _, _, _, _])
                  have GD := Lib.hid (show wz12.heap.size ≤ D by rw [← hD]; exact d3.size)
                  rw [hwwA13, hD]
                  replace LOx := Lib.hid (RdE.keep (T := (fun i => i ≠ D)) (w := wTa) (w' := wTa) (Nat.le_refl _) (fun _ _ _ => rfl) (fun i _ hi => (show i ≠ D by omega)) _ _ LOx.out)
                  replace KN := Lib.hid (RdE.keep (T := (fun i => i ≠ D)) (w := wTa) (w' := wTa) (Nat.le_refl _) (fun _ _ _ => rfl) (fun i _ hi => (show i ≠ D by omega)) _ _ KN.out)
                  replace RTa := Lib.hid (RdS.keep (T := (fun i => i ≠ D)) (w := wTa) (w' := wTa) (Nat.le_refl _) (fun _ _ _ => rfl) (fun i _ hi => (show i ≠ D by omega)) _ _ RTa.out)
                  replace RMI := Lib.hid (RdE.keep (T := (fun i => i ≠ D)) (w := wTa) (w' := wTa) (Nat.le_refl _) (fun _ _ _ => rfl) (fun i _ hi => (show i ≠ D by omega)) _ _ RMI.out)
                  have d4 : Below wz12.heap.size wz12 wA13 := d3.trans (hv.mono d3.size)
                  replace LOx := Lib.hid (LOx.out.stay hv)
                  replace KN := Lib.hid (KN.out.stay hv)
                  replace RTa := Lib.hid (RTa.out.stay hv)
                  replace RMI := Lib.hid (RMI.out.stay hv)
                  clear hwwA13 hD hv
                  refine hK.out _ _ (HSR.out _ d4) (fun hS9 => ?_)
                  clear hK K hS
                  have hS := hS9
                  clear hS9
                  (try simp only [Act.put, List.setIfInBounds_toArray, List.set_cons_zero, List.set_cons_succ])
                  refine wpAnyH_ready (rs := [7]) (by kernel_rfl) (by simp) ?_
                  refine AllReadyH.cons (o := _) rfl (fun K hK => ?_) (AllReadyH.nil)
                  go_simp
                  obtain ⟨wTb, hwwTb⟩ : ∃ v, wA13.alloc (.cells #[.int .u8 0, .bool false, .int .u32 4, .slice AL 200 200, .slice none 0 0, .int .u8 0, .bool true, .int .u32 16, .slice none 0 0, .slice (some ⟨ga, 0, none⟩) 2 2] 29) = v := ⟨_, rfl⟩
                  obtain ⟨gb, hgb⟩ : ∃ g, wA13.heap.size = g := ⟨_, rfl⟩
                  have hv : Below wA13.heap.size wA13 wTb := by rw [← hwwTb]; exact bel1 _ _
                  have km : Bk wTb gb 29 [.int .u8 0, .bool false, .int .u32 4, .slice AL 200 200, .slice none 0 0, .int .u8 0, .bool true, .int .u32 16, .slice none 0 0, .slice (some ⟨ga, 0, none⟩) 2 2] := by rw [← hwwTb, ← hgb]; exact Bk.new wA13 _ [_, _, _, _, _, _, _, _, _, _]
                  have RTb := Lib.hid (two_rd (S := (fun i => i ≠ D)) (a := loE) (b := miE) km (show gb ≠ D by have := KD.out.lt; omega) (LOx.out.stay hv) (RMI.out.stay hv))
                  rw [hwwTb, hgb]
                  have d5 : Below wz12.heap.size wz12 wTb := d4.trans (hv.mono d4.size)
                  replace KD := Lib.hid (KD.out.below hv KD.out.lt)
                  replace LOx := Lib.hid (LOx.out.stay hv)
                  replace KN := Lib.hid (KN.out.stay hv)
                  replace RTa := Lib.hid (RTa.out.stay hv)
                  replace RMI := Lib.hid (RMI.out.stay hv)
                  clear hwwTb hgb km hv
                  refine hK.out _ _ (HSR.out _ d5) (fun hS9 => ?_)
                  clear hK K hS
                  have hS := hS9
                  clear hS9
                  (try simp only [Act.put, List.setIfInBounds_toArray, List.set_cons_zero, List.set_cons_succ])
                  refine wpAnyH_take (i := 8) (oi := ⟨some 104, _, _, _, _, _⟩) (v := .agg #[.int .u8 2, .bool true, .int .u32 31, .slice none 0 0, .slice (some ⟨gb, 0, none⟩) 2 2]) rfl (by kernel_rfl) (by kernel_rfl) (by kernel_rfl) (fun _ _ _ h => h) (Or.inl ⟨by rfl, fun w _ => by go_simp⟩) hS ?_
                  (try simp only [Act.put, List.setIfInBounds_toArray, List.set_cons_zero, List.set_cons_succ])
                  refine wpAnyH_ready (rs := [10]) (by kernel_rfl) (by simp) ?_
                  refine AllReadyH.cons (o := _) rfl (fun K hK => ?_) (AllReadyH.nil)
                  obtain ⟨k0, k1, k2, k3, k4, kz⟩ := KD.out.five
                  obtain ⟨y0, y1, y2, y3, y4⟩ := KD.out.free5
                  go_simp
                  have hst := st5 (o := 0) (v0 := .int .u8 2) (v1 := .bool true) (v2 := .int .u32 31) (v3 := .slice none 0 0) (v4 := .slice (some ⟨gb, 0, none⟩) 2 2) KD.out d5 GD.out
                  have hfin := RdS.keep (T := (fun _ => True)) (Nat.le_of_eq (siz5 wTb D 0 (.int .u8 2) (.bool true) (.int .u32 31) (.slice none 0 0) (.slice (some ⟨gb, 0, none⟩) 2 2)).symm) (fun i hi _ => far5 wTb D 0 _ _ _ _ _ i hi) (fun _ _ _ => trivial) _ _ RTb.out
                  refine hK.out _ _ (HSR.out _ hst.2) (fun hS9 => ?_)
                  clear hK K hS
                  have hS := hS9
                  clear hS9
                  (try simp only [Act.put, List.setIfInBounds_toArray, List.set_cons_zero, List.set_cons_succ])
                  refine wpAnyH_done (by kernel_rfl) ?_ _
                  clear hS
                  clear k0 k1 k2 k3 k4 kz y0 y1 y2 y3 y4
                  have HST := Lib.hid (And.intro hst hfin)
                  clear hst hfin
                  go_wp2_with fail
                  go_meet
                  exact ⟨_, D, rfl, HST.out.1.1, HST.out.2, HST.out.1.2⟩
              · go_simp
                obtain ⟨wA13, hwwA13⟩ : ∃ v, wC4.alloc (.cells #[.int .u8 0, .bool false, .int .u32 0, .slice none 0 0, .slice none 0 0] 29) = v := ⟨_, rfl⟩
                have hv : Below wC4.heap.size wC4 wA13 := by rw [← hwwA13]; exact bel1 _ _
                obtain ⟨D, hD⟩ : ∃ g, wC4.heap.size = g := ⟨_, rfl⟩
                have KD := Lib.hid (show Bk wA13 D 29 [.int .u8 0, .bool false, .int .u32 0, .slice none 0 0, .slice none 0 0] by rw [← hwwA13, ← hD]; exact Bk.new wC4 _ [_, _, _, _, _])
                have GD := Lib.hid (show wz12.heap.size ≤ D by rw [← hD]; exact d2.size)
                rw [hwwA13, hD]
                replace LOx := Lib.hid (RdE.keep (T := (fun i => i ≠ D)) (w := wC4) (w' := wC4) (Nat.le_refl _) (fun _ _ _ => rfl) (fun i _ hi => (show i ≠ D by omega)) _ _ LOx.out)
                replace KN := Lib.hid (RdE.keep (T := (fun i => i ≠ D)) (w := wC4) (w' := wC4) (Nat.le_refl _) (fun _ _ _ => rfl) (fun i _ hi => (show i ≠ D by omega)) _ _ KN.out)
                have d3 : Below wz12.heap.size wz12 wA13 := d2.trans (hv.mono d2.size)
                replace LOx := Lib.hid (LOx.out.stay hv)
                replace KN := Lib.hid (KN.out.stay hv)
                clear hwwA13 hD hv
                refine hK.out _ _ (HSR.out _ d3) (fun hS9 => ?_)
                clear hK K hS
                have hS := hS9
                clear hS9
                (try simp only [Act.put, List.setIfInBounds_toArray, List.set_cons_zero, List.set_cons_succ])
                refine wpAnyH_ready (rs := [5]) (by kernel_rfl) (by simp) ?_
                refine AllReadyH.cons (o := _) rfl (fun K hK => ?_) (AllReadyH.nil)
                go_simp
                obtain ⟨wTa, hwwTa⟩ : ∃ v, wA13.alloc (.cells #[.int .u8 0, .bool false, .int .u32 4, .slice AL 200 200, .slice none 0 0, .int .u8 0, .bool true, .int .u32 16, .slice none 0 0, .slice BK 2 2] 29) = v := ⟨_, rfl⟩
                obtain ⟨ga, hga⟩ : ∃ g, wA13.heap.size = g := ⟨_, rfl⟩
                have hv : Below wA13.heap.size wA13 wTa := by rw [← hwwTa]; exact bel1 _ _
                have km : Bk wTa ga 29 [.int .u8 0, .bool false, .int .u32 4, .slice AL 200 200, .slice none 0 0, .int .u8 0, .bool true, .int .u32 16, .slice none 0 0, .slice BK 2 2] := by rw [← hwwTa, ← hga]; exact Bk.new wA13 _ [_, _, _, _, _, _, _, _, _, _]
                have RTa := Lib.hid (two_rd (S := (fun i => i ≠ D)) (a := loE) (b := knE) km (show ga ≠ D by have := KD.out.lt; omega) (LOx.out.stay hv) (KN.out.stay hv))
                rw [hwwTa, hga]
                have RMI := Lib.hid (show RdE false (fun i => i ≠ D) wTa miE (elV 0 16 true (.slice none 0 0) (.slice (some ⟨ga, 0, none⟩) 2 2)) from rdE_parts (by decide) (by decide) rfl (Nat.le_refl _) (by unfold maxLen; decide) (fun h => by cases h) RTa.out)
                have d4 : Below wz12.heap.size wz12 wTa := d3.trans (hv.mono d3.size)
                replace KD := Lib.hid (KD.out.below hv KD.out.lt)
                replace LOx := Lib.hid (LOx.out.stay hv)
                replace KN := Lib.hid (KN.out.stay hv)
                clear hwwTa hga km hv
                refine hK.out _ _ (HSR.out _ d4) (fun hS9 => ?_)
                clear hK K hS
                have hS := hS9
                clear hS9
                (try simp only [Act.put, List.setIfInBounds_toArray, List.set_cons_zero, List.set_cons_succ])
                refine wpAnyH_take (i := 6) (oi := ⟨some 102, _, _, _, _, _⟩) (v := .agg #[.int .u8 0, .bool true, .int .u32 16, .slice none 0 0, .slice (some ⟨ga, 0, none⟩) 2 2]) rfl (by kernel_rfl) (by kernel_rfl) (by kernel_rfl) (fun _ _ _ h => h) (Or.inl ⟨by rfl, fun w _ => by go_simp⟩) hS ?_
                (try simp only [Act.put, List.setIfInBounds_toArray, List.set_cons_zero, List.set_cons_succ])
                refine wpAnyH_ready (rs := [7]) (by kernel_rfl) (by simp) ?_
                refine AllReadyH.cons (o := _) rfl (fun K hK => ?_) (AllReadyH.nil)
                go_simp
                obtain ⟨wTb, hwwTb⟩ : ∃ v, wTa.alloc (.cells #[.int .u8 0, .bool false, .int .u32 4, .slice AL 200 200, .slice none 0 0, .int .u8 0, .bool true, .int .u32 16, .slice none 0 0, .slice (some ⟨ga, 0, none⟩) 2 2] 29) = v := ⟨_, rfl⟩
                obtain ⟨gb, hgb⟩ : ∃ g, wTa.heap.size = g := ⟨_, rfl⟩
                have hv : Below wTa.heap.size wTa wTb := by rw [← hwwTb]; exact bel1 _ _
                have km : Bk wTb gb 29 [.int .u8 0, .bool false, .int .u32 4, .slice AL 200 200, .slice none 0 0, .int .u8 0, .bool true, .int .u32 16, .slice none 0 0, .slice (some ⟨ga, 0, none⟩) 2 2] := by rw [← hwwTb, ← hgb]; exact Bk.new wTa _ [_, _, _, _, _, _, _, _, _, _]
                have RTb := Lib.hid (two_rd (S := (fun i => i ≠ D)) (a := loE) (b := miE) km (show gb ≠ D by have := KD.out.lt; omega) (LOx.out.stay hv) (RMI.out.stay hv))
                rw [hwwTb, hgb]
                have d5 : Below wz12.heap.size wz12 wTb := d4.trans (hv.mono d4.size)
                replace KD := Lib.hid (KD.out.below hv KD.out.lt)
                replace LOx := Lib.hid (LOx.out.stay hv)
                replace KN := Lib.hid (KN.out.stay hv)
                replace RTa := Lib.hid (RTa.out.stay hv)
                replace RMI := Lib.hid (RMI.out.stay hv)
                clear hwwTb hgb km hv
                refine hK.out _ _ (HSR.out _ d5) (fun hS9 => ?_)
                clear hK K hS
                have hS := hS9
                clear hS9
                (try simp only [Act.put, List.setIfInBounds_toArray, List.set_cons_zero, List.set_cons_succ])
                refine wpAnyH_take (i := 8) (oi := ⟨some 104, _, _, _, _, _⟩) (v := .agg #[.int .u8 2, .bool true, .int .u32 31, .slice none 0 0, .slice (some ⟨gb, 0, none⟩) 2 2]) rfl (by kernel_rfl) (by kernel_rfl) (by kernel_rfl) (fun _ _ _ h => h) (Or.inl ⟨by rfl, fun w _ => by go_simp⟩) hS ?_
                (try simp only [Act.put, List.setIfInBounds_toArray, List.set_cons_zero, List.set_cons_succ])
                refine wpAnyH_ready (rs := [10]) (by kernel_rfl) (by simp) ?_
                refine AllReadyH.cons (o := _) rfl (fun K hK => ?_) (AllReadyH.nil)
                obtain ⟨k0, k1, k2, k3, k4, kz⟩ := KD.out.five
                obtain ⟨y0, y1, y2, y3, y4⟩ := KD.out.free5
                go_simp
                have hst := st5 (o := 0) (v0 := .int .u8 2) (v1 := .bool true) (v2 := .int .u32 31) (v3 := .slice none 0 0) (v4 := .slice (some ⟨gb, 0, none⟩) 2 2) KD.out d5 GD.out
                have hfin := RdS.keep (T := (fun _ => True)) (Nat.le_of_eq (siz5 wTb D 0 (.int .u8 2) (.bool true) (.int .u32 31) (.slice none 0 0) (.slice (some ⟨gb, 0, none⟩) 2 2)).symm) (fun i hi _ => far5 wTb D 0 _ _ _ _ _ i hi) (fun _ _ _ => trivial) _ _ RTb.out
                refine hK.out _ _ (HSR.out _ hst.2) (fun hS9 => ?_)
                clear hK K hS
                have hS := hS9
                clear hS9
                (try simp only [Act.put, List.setIfInBounds_toArray, List.set_cons_zero, List.set_cons_succ])
                refine wpAnyH_done (by kernel_rfl) ?_ _
                clear hS
                clear k0 k1 k2 k3 k4 kz y0 y1 y2 y3 y4
                have HST := Lib.hid (And.intro hst hfin)
                clear hst hfin
                go_wp2_with fail
                go_meet
                exact ⟨_, D, rfl, HST.out.1.1, HST.out.2, HST.out.1.2⟩
            · go_simp
              obtain ⟨wA13, hwwA13⟩ : ∃ v, wC2.alloc (.cells #[.int .u8 0, .bool false, .int .u32 0, .slice none 0 0, .slice none 0 0] 29) = v := ⟨_, rfl⟩
              have hv : Below wC2.heap.size wC2 wA13 := by rw [← hwwA13]; exact bel1 _ _
              obtain ⟨D, hD⟩ : ∃ g, wC2.heap.size = g := ⟨_, rfl⟩
              have KD := Lib.hid (show Bk wA13 D 29 [.int .u8 0, .bool false, .int .u32 0, .slice none 0 0, .slice none 0 0] by rw [← hwwA13, ← hD]; exact Bk.new wC2 _ [_, _, _, _, _])
              have GD := Lib.hid (show wz12.heap.size ≤ D by rw [← hD]; exact d1.size)
              rw [hwwA13, hD]
              replace LOx := Lib.hid (RdE.keep (T := (fun i => i ≠ D)) (w := wC2) (w' := wC2) (Nat.le_refl _) (fun _ _ _ => rfl) (fun i _ hi => (show i ≠ D by omega)) _ _ LOx.out)
              have d2 : Below wz12.heap.size wz12 wA13 := d1.trans (hv.mono d1.size)
              replace LOx := Lib.hid (LOx.out.stay hv)
              clear hwwA13 hD hv
              refine hK.out _ _ (HSR.out _ d2) (fun hS9 => ?_)
              clear hK K hS
              have hS := hS9
              clear hS9
              (try simp only [Act.put, List.setIfInBounds_toArray, List.set_cons_zero, List.set_cons_succ])
              refine wpAnyH_ready (rs := [4]) (by kernel_rfl) (by simp) ?_
              refine AllReadyH.cons (o := _) rfl (fun K hK => ?_) (AllReadyH.nil)
              go_simp
              refine (known_any _).mono ?_
              rintro e wC4 ⟨BK, rfl, hkn, hv⟩
              have KN := Lib.hid (show RdE false (fun i => i ≠ D) wC4 knE (elV 0 16 true (.slice none 0 0) (.slice BK 2 2)) from RdE.keep (Nat.le_refl _) (fun _ _ _ => rfl) (fun i hi _ => (show i ≠ D by have := KD.out.lt; omega)) _ _ (loosE _ _ hkn))
              have d3 : Below wz12.heap.size wz12 wC4 := d2.trans (hv.mono d2.size)
              replace KD := Lib.hid (KD.out.below hv KD.out.lt)
              replace LOx := Lib.hid (LOx.out.stay hv)
              clear hv hkn
              refine hK.out _ _ (HSR.out _ d3) (fun hS9 => ?_)
              clear hK K hS
              have hS := hS9
              clear hS9
              (try simp only [Act.put, List.setIfInBounds_toArray, List.set_cons_zero, List.set_cons_succ])
              refine wpAnyH_ready (rs := [5]) (by kernel_rfl) (by simp) ?_
              refine AllReadyH.cons (o := _) rfl (fun K hK => ?_) (AllReadyH.nil)
              go_simp
              obtain ⟨wTa, hwwTa⟩ : ∃ v, wC4.alloc (.cells #[.int .u8 0, .bool false, .int .u32 4, .slice AL 200 200, .slice none 0 0, .int .u8 0, .bool true, .int .u32 16, .slice none 0 0, .slice BK 2 2] 29) = v := ⟨_, rfl⟩
              obtain ⟨ga, hga⟩ : ∃ g, wC4.heap.size = g := ⟨_, rfl⟩
              have hv : Below wC4.heap.size wC4 wTa := by rw [← hwwTa]; exact bel1 _ _
              have km : Bk wTa ga 29 [.int .u8 0, .bool false, .int .u32 4, .slice AL 200 200, .slice none 0 0, .int .u8 0, .bool true, .int .u32 16, .slice none 0 0, .slice BK 2 2] := by rw [← hwwTa, ← hga]; exact Bk.new wC4 _ [_, _, _, _, _, _, _, _, _, _]
              have RTa := Lib.hid (two_rd (S := (fun i => i ≠ D)) (a := loE) (b := knE) km (show ga ≠ D by have := KD.out.lt; omega) (LOx.out.stay hv) (KN.out.stay hv))
              rw [hwwTa, hga]
              have RMI := Lib.hid (show RdE false (fun i => i ≠ D) wTa miE (elV 0 16 true (.slice none 0 0) (.slice (some ⟨ga, 0, none⟩) 2 2)) from rdE_parts (by decide) (by decide) rfl (Nat.le_refl _) (by unfold maxLen; decide) (fun h => by cases h) RTa.out)
              have d4 : Below wz12.heap.size wz12 wTa := d3.trans (hv.mono d3.size)
              replace KD := Lib.hid (KD.out.below hv KD.out.lt)
              replace LOx := Lib.hid (LOx.out.stay hv)
              replace KN := Lib.hid (KN.out.stay hv)
              clear hwwTa hga km hv
              refine hK.out _ _ (HSR.out _ d4) (fun hS9 => ?_)
              clear hK K hS
              have hS := hS9
              clear hS9
              (try simp only [Act.put, List.setIfInBounds_toArray, List.set_cons_zero, List.set_cons_succ])
              refine wpAnyH_take (i := 6) (oi := ⟨some 102, _, _, _, _, _⟩) (v := .agg #[.int .u8 0, .bool true, .int .u32 16, .slice none 0 0, .slice (some ⟨ga, 0, none⟩) 2 2]) rfl (by kernel_rfl) (by kernel_rfl) (by kernel_rfl) (fun _ _ _ h => h) (Or.inl ⟨by rfl, fun w _ => by go_simp⟩) hS ?_
              (try simp only [Act.put, List.setIfInBounds_toArray, List.set_cons_zero, List.set_cons_succ])
              refine wpAnyH_ready (rs := [7]) (by kernel_rfl) (by simp) ?_
              refine AllReadyH.cons (o := _) rfl (fun K hK => ?_) (AllReadyH.nil)
              go_simp
              obtain ⟨wTb, hwwTb⟩ : ∃ v, wTa.alloc (.cells #[.int .u8 0, .bool false, .int .u32 4, .slice AL 200 200, .slice none 0 0, .int .u8 0, .bool true, .int .u32 16, .slice none 0 0, .slice (some ⟨ga, 0, none⟩) 2 2] 29) = v := ⟨_, rfl⟩
              obtain ⟨gb, hgb⟩ : ∃ g, wTa.heap.size = g := ⟨_, rfl⟩
              have hv : Below wTa.heap.size wTa wTb := by rw [← hwwTb]; exact bel1 _ _
              have km : Bk wTb gb 29 [.int .u8 0, .bool false, .int .u32 4, .slice AL 200 200, .slice none 0 0, .int .u8 0, .bool true, .int .u32 16, .slice none 0 0, .slice (some ⟨ga, 0, none⟩) 2 2] := by rw [← hwwTb, ← hgb]; exact Bk.new wTa _ [_, _, _, _, _, _, _, _, _, _]
              have RTb := Lib.hid (two_rd (S := (fun i => i ≠ D)) (a := loE) (b := miE) km (show gb ≠ D by have := KD.out.lt; omega) (LOx.out.stay hv) (RMI.out.stay hv))
              rw [hwwTb, hgb]
              have d5 : Below wz12.heap.size wz12 wTb := d4.trans (hv.mono d4.size)
              replace KD := Lib.hid (KD.out.below hv KD.out.lt)
              replace LOx := Lib.hid (LOx.out.stay hv)
              replace KN := Lib.hid (KN.out.stay hv)
              replace RTa := Lib.hid (RTa.out.stay hv)
              replace RMI := Lib.hid (RMI.out.stay hv)
              clear hwwTb hgb km hv
              refine hK.out _ _ (HSR.out _ d5) (fun hS9 => ?_)
              clear hK K hS
              have hS := hS9
              clear hS9
              (try simp only [Act.put, List.setIfInBounds_toArray, List.set_cons_zero, List.set_cons_succ])
              refine wpAnyH_take (i := 8) (oi := ⟨some 104, _, _, _, _, _⟩) (v := .agg #[.int .u8 2, .bool true, .int .u32 31, .slice none 0 0, .slice (some ⟨gb, 0, none⟩) 2 2]) rfl (by kernel_rfl) (by kernel_rfl) (by kernel_rfl) (fun _ _ _ h => h) (Or.inl ⟨by rfl, fun w _ => by go_simp⟩) hS ?_
              (try simp only [Act.put, List.setIfInBounds_toArray, List.set_cons_zero, List.set_cons_succ])
              refine wpAnyH_ready (rs := [10]) (by kernel_rfl) (by simp) ?_
              refine AllReadyH.cons (o := _) rfl (fun K hK => ?_) (AllReadyH.nil)
              obtain ⟨k0, k1, k2, k3, k4, kz⟩ := KD.out.five
              obtain ⟨y0, y1, y2, y3, y4⟩ := KD.out.free5
              go_simp
              have hst := st5 (o := 0) (v0 := .int .u8 2) (v1 := .bool true) (v2 := .int .u32 31) (v3 := .slice none 0 0) (v4 := .slice (some ⟨gb, 0, none⟩) 2 2) KD.out d5 GD.out
              have hfin := RdS.keep (T := (fun _ => True)) (Nat.le_of_eq (siz5 wTb D 0 (.int .u8 2) (.bool true) (.int .u32 31) (.slice none 0 0) (.slice (some ⟨gb, 0, none⟩) 2 2)).symm) (fun i hi _ => far5 wTb D 0 _ _ _ _ _ i hi) (fun _ _ _ => trivial) _ _ RTb.out
              refine hK.out _ _ (HSR.out _ hst.2) (fun hS9 => ?_)
              clear hK K hS
              have hS := hS9
              clear hS9
              (try simp only [Act.put, List.setIfInBounds_toArray, List.set_cons_zero, List.set_cons_succ])
              refine wpAnyH_done (by kernel_rfl) ?_ _
              clear hS
              clear k0 k1 k2 k3 k4 kz y0 y1 y2 y3 y4
              have HST := Lib.hid (And.intro hst hfin)
              clear hst hfin
              go_wp2_with fail
              go_meet
              exact ⟨_, D, rfl, HST.out.1.1, HST.out.2, HST.out.1.2⟩
          · go_simp
            obtain ⟨wA13, hwwA13⟩ : ∃ v, wd.alloc (.cells #[.int .u8 0, .bool false, .int .u32 0, .slice none 0 0, .slice none 0 0] 29) = v := ⟨_, rfl⟩
            have hv : Below wd.heap.size wd wA13 := by rw [← hwwA13]; exact bel1 _ _
            obtain ⟨D, hD⟩ : ∃ g, wd.heap.size = g := ⟨_, rfl⟩
            have KD := Lib.hid (show Bk wA13 D 29 [.int .u8 0, .bool false, .int .u32 0, .slice none 0 0, .slice none 0 0] by rw [← hwwA13, ← hD]; exact Bk.new wd _ [_, _, _, _, _])
            have GD := Lib.hid (show wz12.heap.size ≤ D by rw [← hD]; exact d0.size)
            rw [hwwA13, hD]
            replace LOx := Lib.hid (RdE.keep (T := (fun i => i ≠ D)) (w := wd) (w' := wd) (Nat.le_refl _) (fun _ _ _ => rfl) (fun i _ hi => (show i ≠ D by omega)) _ _ LOx.out)
            have d1 : Below wz12.heap.size wz12 wA13 := d0.trans (hv.mono d0.size)
            replace LOx := Lib.hid (LOx.out.stay hv)
            clear hwwA13 hD hv
            refine hK.out _ _ (HSR.out _ d1) (fun hS9 => ?_)
            clear hK K hS
            have hS := hS9
            clear hS9
            (try simp only [Act.put, List.setIfInBounds_toArray, List.set_cons_zero, List.set_cons_succ])
            refine wpAnyH_ready (rs := [2]) (by kernel_rfl) (by simp) ?_
            refine AllReadyH.cons (o := _) rfl (fun K hK => ?_) (AllReadyH.nil)
            go_simp
            refine (tag_any 0 0 16 true _ (by decide) rfl).mono ?_
            rintro e wC2 ⟨rfl, hv⟩
            have d2 : Below wz12.heap.size wz12 wC2 := d1.trans (hv.mono d1.size)
            replace KD := Lib.hid (KD.out.below hv KD.out.lt)
            replace LOx := Lib.hid (LOx.out.stay hv)
            clear hv
            refine hK.out _ _ (HSR.out _ d2) (fun hS9 => ?_)
            clear hK K hS
            have hS := hS9
            clear hS9
            (try simp only [Act.put, List.setIfInBounds_toArray, List.set_cons_zero, List.set_cons_succ])
            refine wpAnyH_ready (rs := [4]) (by kernel_rfl) (by simp) ?_
            refine AllReadyH.cons (o := _) rfl (fun K hK => ?_) (AllReadyH.nil)
            go_simp
            refine (known_any _).mono ?_
            rintro e wC4 ⟨BK, rfl, hkn, hv⟩
            have KN := Lib.hid (show RdE false (fun i => i ≠ D) wC4 knE (elV 0 16 true (.slice none 0 0) (.slice BK 2 2)) from RdE.keep (Nat.le_refl _) (fun _ _ _ => rfl) (fun i hi _ => (show i ≠ D by have := KD.out.lt; omega)) _ _ (loosE _ _ hkn))
            have d3 : Below wz12.heap.size wz12 wC4 := d2.trans (hv.mono d2.size)
            replace KD := Lib.hid (KD.out.below hv KD.out.lt)
            replace LOx := Lib.hid (LOx.out.stay hv)
            clear hv hkn
            refine hK.out _ _ (HSR.out _ d3) (fun hS9 => ?_)
            clear hK K hS
            have hS := hS9
            clear hS9
            (try simp only [Act.put, List.setIfInBounds_toArray, List.set_cons_zero, List.set_cons_succ])
            refine wpAnyH_ready (rs := [5]) (by kernel_rfl) (by simp) ?_
            refine AllReadyH.cons (o := _) rfl (fun K hK => ?_) (AllReadyH.nil)
            go_simp
            obtain ⟨wTa, hwwTa⟩ : ∃ v, wC4.alloc (.cells #[.int .u8 0, .bool false, .int .u32 4, .slice AL 200 200, .slice none 0 0, .int .u8 0, .bool true, .int .u32 16, .slice none 0 0, .slice BK 2 2] 29) = v := ⟨_, rfl⟩
            obtain ⟨ga, hga⟩ : ∃ g, wC4.heap.size = g := ⟨_, rfl⟩
            have hv : Below wC4.heap.size wC4 wTa := by rw [← hwwTa]; exact bel1 _ _
            have km : Bk wTa ga 29 [.int .u8 0, .bool false, .int .u32 4, .slice AL 200 200, .slice none 0 0, .int .u8 0, .bool true, .int .u32 16, .slice none 0 0, .slice BK 2 2] := by rw [← hwwTa, ← hga]; exact Bk.new wC4 _ [_, _, _, _, _, _, _, _, _, _]
            have RTa := Lib.hid (two_rd (S := (fun i => i ≠ D)) (a := loE) (b := knE) km (show ga ≠ D by have := KD.out.lt; omega) (LOx.out.stay hv) (KN.out.stay hv))
            rw [hwwTa, hga]
            have RMI := Lib.hid (show RdE false (fun i => i ≠ D) wTa miE (elV 0 16 true (.slice none 0 0) (.slice (some ⟨ga, 0, none⟩) 2 2)) from rdE_parts (by decide) (by decide) rfl (Nat.le_refl _) (by unfold maxLen; decide) (fun h => by cases h) RTa.out)
            have d4 : Below wz12.heap.size wz12 wTa := d3.trans (hv.mono d3.size)
            replace KD := Lib.hid (KD.out.below hv KD.out.lt)
            replace LOx := Lib.hid (LOx.out.stay hv)
            replace KN := Lib.hid (KN.out.stay hv)
            clear hwwTa hga km hv
            refine hK.out _ _ (HSR.out _ d4) (fun hS9 => ?_)
            clear hK K hS
            have hS := hS9
            clear hS9
            (try simp only [Act.put, List.setIfInBounds_toArray, List.set_cons_zero, List.set_cons_succ])
            refine wpAnyH_take (i := 6) (oi := ⟨some 102, _, _, _, _, _⟩) (v := .agg #[.int .u8 0, .bool true, .int .u32 16, .slice none 0 0, .slice (some ⟨ga, 0, none⟩) 2 2]) rfl (by kernel_rfl) (by kernel_rfl) (by kernel_rfl) (fun _ _ _ h => h) (Or.inl ⟨by rfl, fun w _ => by go_simp⟩) hS ?_
            (try simp only [Act.put, List.setIfInBounds_toArray, List.set_cons_zero, List.set_cons_succ])
            refine wpAnyH_ready (rs := [7]) (by kernel_rfl) (by simp) ?_
            refine AllReadyH.cons (o := _) rfl (fun K hK => ?_) (AllReadyH.nil)
            go_simp
            obtain ⟨wTb, hwwTb⟩ : ∃ v, wTa.alloc (.cells #[.int .u8 0, .bool false, .int .u32 4, .slice AL 200 200, .slice none 0 0, .int .u8 0, .bool true, .int .u32 16, .slice none 0 0, .slice (some ⟨ga, 0, none⟩) 2 2] 29) = v := ⟨_, rfl⟩
            obtain ⟨gb, hgb⟩ : ∃ g, wTa.heap.size = g := ⟨_, rfl⟩
            have hv : Below wTa.heap.size wTa wTb := by rw [← hwwTb]; exact bel1 _ _
            have km : Bk wTb gb 29 [.int .u8 0, .bool false, .int .u32 4, .slice AL 200 200, .slice none 0 0, .int .u8 0, .bool true, .int .u32 16, .slice none 0 0, .slice (some ⟨ga, 0, none⟩) 2 2] := by rw [← hwwTb, ← hgb]; exact Bk.new wTa _ [_, _, _, _, _, _, _, _, _, _]
            have RTb := Lib.hid (two_rd (S := (fun i => i ≠ D)) (a := loE) (b := miE) km (show gb ≠ D by have := KD.out.lt; omega) (LOx.out.stay hv) (RMI.out.stay hv))
            rw [hwwTb, hgb]
            have d5 : Below wz12.heap.size wz12 wTb := d4.trans (hv.mono d4.size)
            replace KD := Lib.hid (KD.out.below hv KD.out.lt)
            replace LOx := Lib.hid (LOx.out.stay hv)
            replace KN := Lib.hid (KN.out.stay hv)
            replace RTa := Lib.hid (RTa.out.stay hv)
            replace RMI := Lib.hid (RMI.out.stay hv)
            clear hwwTb hgb km hv
            refine hK.out _ _ (HSR.out _ d5) (fun hS9 => ?_)
            clear hK K hS
            have hS := hS9
            clear hS9
            (try simp only [Act.put, List.setIfInBounds_toArray, List.set_cons_zero, List.set_cons_succ])
            refine wpAnyH_take (i := 8) (oi := ⟨some 104, _, _, _, _, _⟩) (v := .agg #[.int .u8 2, .bool true, .int .u32 31, .slice none 0 0, .slice (some ⟨gb, 0, none⟩) 2 2]) rfl (by kernel_rfl) (by kernel_rfl) (by kernel_rfl) (fun _ _ _ h => h) (Or.inl ⟨by rfl, fun w _ => by go_simp⟩) hS ?_
            (try simp only [Act.put, List.setIfInBounds_toArray, List.set_cons_zero, List.set_cons_succ])
            refine wpAnyH_ready (rs := [10]) (by kernel_rfl) (by simp) ?_
            refine AllReadyH.cons (o := _) rfl (fun K hK => ?_) (AllReadyH.nil)
            obtain ⟨k0, k1, k2, k3, k4, kz⟩ := KD.out.five
            obtain ⟨y0, y1, y2, y3, y4⟩ := KD.out.free5
            go_simp
            have hst := st5 (o := 0) (v0 := .int .u8 2) (v1 := .bool true) (v2 := .int .u32 31) (v3 := .slice none 0 0) (v4 := .slice (some ⟨gb, 0, none⟩) 2 2) KD.out d5 GD.out
            have hfin := RdS.keep (T := (fun _ => True)) (Nat.le_of_eq (siz5 wTb D 0 (.int .u8 2) (.bool true) (.int .u32 31) (.slice none 0 0) (.slice (some ⟨gb, 0, none⟩) 2 2)).symm) (fun i hi _ => far5 wTb D 0 _ _ _ _ _ i hi) (fun _ _ _ => trivial) _ _ RTb.out
            refine hK.out _ _ (HSR.out _ hst.2) (fun hS9 => ?_)
            clear hK K hS
            have hS := hS9
            clear hS9
            (try simp only [Act.put, List.setIfInBounds_toArray, List.set_cons_zero, List.set_cons_succ])
            refine wpAnyH_done (by kernel_rfl) ?_ _
            clear hS
            clear k0 k1 k2 k3 k4 kz y0 y1 y2 y3 y4
            have HST := Lib.hid (And.intro hst hfin)
            clear hst hfin
            go_wp2_with fail
            go_meet
            exact ⟨_, D, rfl, HST.out.1.1, HST.out.2, HST.out.1.2⟩
        case rest =>
          obtain ⟨BS, ge, rfl, hke, hse, hby⟩ := hcut
          generalize wc = wz13 at *
          have hbh := Lib.hid hby
          replace B := bt B hbh
          have KE := Lib.hid hke
          have RS := Lib.hid hse
          clear hbh hby hke hse KG RL
          obtain ⟨e0, e1, e2, e3, e4, ez⟩ := KE.out.five
          go_wp2_with fail
          obtain ⟨wp, hwp⟩ : ∃ v, wz13.alloc (.cells #[.int .i64 1, .int .i64 1, .int .i64 1] 3) = v := ⟨_, rfl⟩
          obtain ⟨gp, hgp⟩ : ∃ g, wz13.heap.size = g := ⟨_, rfl⟩
          have RP := Lib.hid (show Rd wp (some ⟨gp, 0, none⟩) (csZ [1, 1, 1]) from by rw [← hwp, ← hgp]; exact in_rd wz13 [1, 1, 1])
          have hbh := Lib.hid (show Below wz13.heap.size wz13 wp by rw [← hwp]; exact bel1 _ _)
          rw [hwp, hgp]
          clear hwp hgp e0 e1 e2 e3 e4 ez
          replace B := bt B hbh
          replace KE := kt KE hbh
          replace RS := Lib.hid (RS.out.stay hbh.out)
          clear hbh
          refine (off_any ouE (elV 2 31 true (.slice none 0 0) (.slice BS 2 2)) [1, 1, 1] (some ⟨gp, 0, none⟩) 3 3 _ (show RdE false (fun _ => True) _ ouE (elV 2 31 true (.slice none 0 0) (.slice BS 2 2)) from rdE_parts (by decide) (by decide) rfl (Nat.le_refl _) (by unfold maxLen; decide) (fun h => by cases h) RS.out) (by have := ou_ok.2.1; omega) ou_ok.con RP.out rfl (by decide) 419 0 off_419).mono ?_
          rintro e w30 ⟨rfl, hb⟩
          have hbh := Lib.hid hb
          replace B := bt B hbh
          replace KE := kt KE hbh
          replace RS := Lib.hid (RS.out.stay hbh.out)
          clear hbh hb RP
          obtain ⟨e0, e1, e2, e3, e4, ez⟩ := KE.out.five
          go_wp2_with fail
          refine (expl_any 2 31 true (.slice none 0 0) [] [loE, miE] BS 2 2 31 _ rfl [1] 8 (by decide +kernel)).mono ?_
          rintro e w31 ⟨Ae, ne, ce, rfl, hl, _, _, hx, hr, hb⟩
          obtain rfl := hx rfl
          obtain rfl : ce = 1 := by rw [← hl]; rfl
          have hbh := Lib.hid hb
          replace B := bt B hbh
          replace KE := kt KE hbh
          replace RS := Lib.hid (RS.out.stay hbh.out)
          have RE := Lib.hid hr.rd
          clear hbh hb hl hx hr e0 e1 e2 e3 e4 ez
          go_wp2_with fail
          refine (rf_pos 8 1 (by decide) _).mono ?_
          rintro e w32 ⟨Xe, ye, rfl, hr, hb⟩
          have hbh := Lib.hid hb
          replace B := bt B hbh
          replace KE := kt KE hbh
          replace RS := Lib.hid (RS.out.stay hbh.out)
          replace RE := rt RE hbh
          have RX := Lib.hid hr
          clear hbh hb hr
          go_wp2_with fail
          refine (lfault_eq [1] 8 Ae Xe 1 ye _ RE.out RX.out rfl (by unfold maxLen; decide)).mono ?_
          rintro e w33 ⟨rfl, hb⟩
          have hbh := Lib.hid hb
          replace B := bt B hbh
          replace KE := kt KE hbh
          replace RS := Lib.hid (RS.out.stay hbh.out)
          replace RE := rt RE hbh
          replace RX := rt RX hbh
          clear hbh hb 
          clear RE RX
          go_wp2_with fail
          obtain ⟨ga, hga⟩ : ∃ g, w33.heap.size = g := ⟨_, rfl⟩
          obtain ⟨gb, hgb⟩ : ∃ g, ga + 1 = g := ⟨_, rfl⟩
          obtain ⟨wq, hwq⟩ : ∃ v, (w33.alloc (.cells #[.int .u8 0, .int .u8 4, .int .u8 6, .int .u8 15, .int .u8 5] 5)).alloc (.cells #[.int .u8 0, .int .u8 1] 5) = v := ⟨_, rfl⟩
          have ka : Bk wq ga 5 (cs8 [0, 4, 6, 15, 5]) := by rw [← hwq, ← hga]; exact (Bk.new w33 _ [_, _, _, _, _]).alloc _
          have kb : Bk wq gb 5 (cs8 [0, 1]) := by
            have h := Bk.new (w33.alloc (.cells #[.int .u8 0, .int .u8 4, .int .u8 6, .int .u8 15, .int .u8 5] 5)) 5 [.int .u8 0, .int .u8 1]
            rw [World.size_alloc, hga, hgb] at h
            rw [← hwq]
            exact h
          have hra : Rb wq (some ⟨ga, 0, none⟩) [0, 4, 6, 15, 5] := ⟨ka.rd 0, by intro y hy; simp at hy; omega⟩
          have hrb : Rb wq (some ⟨gb, 0, none⟩) [0, 1] := ⟨kb.rd 0, by intro y hy; simp at hy; omega⟩
          have HRA := Lib.hid hra
          have HRB := Lib.hid hrb
          have hbh := Lib.hid (show Below w33.heap.size w33 wq by rw [← hwq]; exact bel2 _ _ _)
          rw [hga, hgb, hwq]
          clear hga hgb hwq ka kb hra hrb
          clear KE RS
          replace B := bt B hbh
          clear hbh
          refine (places_law [0, 4, 6, 15, 5] (some ⟨ga, 0, none⟩) 5 5 [0, 1] (some ⟨gb, 0, none⟩) 2 2 _ HRA.out rfl (by unfold maxLen; decide) HRB.out rfl (by unfold maxLen; decide)).mono ?_
          rintro e w35 ⟨rfl, hb⟩
          have hbh := Lib.hid hb
          replace B := bt B hbh
          clear hbh hb HRA HRB
          go_wp2_with fail
          refine (lives_any _).mono ?_
          rintro e w36 ⟨rfl, hb⟩
          have hbh := Lib.hid hb
          replace B := bt B hbh
          clear hbh hb 
          go_wp2_with fail
          go_ret
          exact ⟨rfl, B.out⟩
open Go.WideMaps Go.WideElems

open Go.ChangeShapes Go.WideShapes Go.ChangeAt
set_option maxRecDepth 100000 in
theorem fieldsKnown_lifted (os : Os) (started : os.Started) (H : Type) (enc : TypeId × Value → H) :
    ReturnsInHanded {} Try.checked os 4 .any (Rows.fieldsKnownSpec.pre6 enc Try.prog Try.f4 Rows.fieldsKnownRow.domain false) (Rows.fieldsKnownSpec.post enc Try.prog Try.f4 false true false false) := by
  refine returnsInHanded_of_change (C := Try.checked) x_own started (by kernel_rfl) Try.func4
    (ChangeSpec.witness6 (enc := enc) (C := Try.checked) false ⟨#[], #[], []⟩ 8 (by kernel_rfl) (by kernel_rfl) (by kernel_rfl) (by kernel_rfl)) ?_
  intro W base args ds gs before hval0 hW hcnd _
  have hval : ∀ (j : Nat) t v, Try.f4.params[j]? = some t → args[j]? = some v → Value.okWide Try.prog W .any base t v := hval0
  have hW' := hW
  obtain ⟨p, q, hA0, hV, rfl, hfz, hnd⟩ := hW
  have hA : DataW.TrodAll enc Try.prog W 0 (fun _ => true) true Try.f4.params.toList args.toList ds p := hA0
  rw [Try.params4] at hA hval
  obtain ⟨rfl, rfl, rfl⟩ := trodAll_none hA
  obtain ⟨rfl, rfl⟩ := trodVars_none hV
  clear hA0 hval0
  refine (known_law W).mono fun e W' ⟨he, hb⟩ => ?_
  subst he
  exact ⟨_, rfl, law_post (tb := 4) x_laid (by decide +kernel) rfl rfl (by kernel_rfl) Try.underlying4 hW' hb⟩

/-- The statement. -/
theorem fieldsKnown_holds : Rows.FieldsKnownSaid :=
  OpenClaim.holds_of_wide 4 Try.f4 rfl rfl rfl rfl rfl rfl rfl ⟨rfl, rfl, rfl, rfl, rfl⟩ rfl rfl rfl rfl rfl (by kernel_rfl) Try.func4 (by kernel_rfl)
    (of_decide_eq_true (by kernel_rfl)) (by unfold Func.isWrapper; first | (rw [if_pos (by decide +kernel)]; kernel_rfl) | (rw [if_neg (by decide +kernel)]; exact ⟨rfl, rfl⟩))
    (fun os started H enc _ => fieldsKnown_lifted os started H enc)
end Go.Proofs.Ytfbdeefeagednaa.Fl
