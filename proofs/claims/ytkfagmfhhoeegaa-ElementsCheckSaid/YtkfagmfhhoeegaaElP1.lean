/-
  Layer 4, the statement ElementsCheck: exactly the valid elements are accepted, with the first error in preorder; the other functions return the error, or the value that the chapter names; the examples of the chapter hold.
  Conditions: none.
-/
import Derived.Test.YtkfagmfhhoeegaaElRow
import Derived.Deep.DeepCutAuto
namespace Go.Proofs.Ytkfagmfhhoeegaa
open Go.RowKit

mutual
theorem chkE_bad : ∀ (e : El) (d b : Nat), (chkE e d b).1 ≠ 0 → (chkE e d b).2 = 0
  | .mk c n k bs ss, d, b, h => by
    rw [chkE] at h ⊢
    split
    · rfl
    · rename_i h1
      rw [if_neg h1] at h
      exact chkS_bad ss _ _ h
theorem chkS_bad : ∀ (ss : List El) (d b : Nat), (chkS ss d b).1 ≠ 0 → (chkS ss d b).2 = 0
  | [], _, _, h => by rw [chkS] at h; exact absurd rfl h
  | e :: ss, d, b, h => by
    rw [chkS] at h ⊢
    split
    · rfl
    · rename_i h1
      rw [if_neg h1] at h
      exact chkS_bad ss _ _ h
end
mutual
theorem enc_bnd : ∀ (e : El), bndE e = true → valE e → (encE e).length ≤ 209 * cntE e
  | .mk c n k bs ss, h, hv => by
    rw [bndE, Bool.and_eq_true, Bool.and_eq_true, decide_eq_true_iff, decide_eq_true_iff] at h
    obtain ⟨h1, h2, h3⟩ := h
    rw [valE] at hv
    obtain ⟨v1, _, _, v4⟩ := hv
    have h4 := encS_bnd ss h3 v4
    have h5 := tput_le (c := c) (k := k) (chk_zero v1).2
    have h6 : conL (.mk c n k bs ss) = bs.length + (encS ss).length := rfl
    have h7 := (lput_le (m := conL (.mk c n k bs ss)) (by omega)).2
    rw [encE_len, cntE]
    omega
theorem encS_bnd : ∀ (ss : List El), bndS ss = true → valS ss → (encS ss).length ≤ 209 * cntS ss
  | [], _, _ => by simp [encS]
  | e :: ss, h, hv => by
    rw [bndS, Bool.and_eq_true] at h
    rw [valS] at hv
    have h1 := enc_bnd e h.1 hv.1
    have h2 := encS_bnd ss h.2 hv.2
    rw [encS, cntS, List.length_append]
    omega
end
theorem bnd_cnt {e : El} (h : bndE e = true) : cntE e ≤ 60 := by
  obtain ⟨c, n, k, bs, ss⟩ := e
  rw [bndE, Bool.and_eq_true, decide_eq_true_iff] at h
  rw [cntE]; exact h.1
theorem bnd_con {e : El} (h : bndE e = true) : conOk e := fun hz => by
  have h1 := enc_bnd e h ((chkE_zero e 1 0).1 hz).1
  have h2 := bnd_cnt h
  have h3 := conL_le (e := e)
  omega
theorem bnd_siz {e : El} (h : bndE e = true) : sizR e = if (chkE e 1 0).1 ≠ 0 then (0, (chkE e 1 0).1) else ((encE e).length, 0) := by
  unfold sizR
  split
  · rfl
  · rename_i hz
    have h1 := enc_bnd e h ((chkE_zero e 1 0).1 (by omega)).1
    have h2 := bnd_cnt h
    rw [if_pos (by omega)]
mutual
theorem bnd_sml : ∀ (e : El), bndE e = true → smlE e
  | .mk c n k bs ss, h => by
    rw [bndE, Bool.and_eq_true, Bool.and_eq_true, decide_eq_true_iff, decide_eq_true_iff] at h
    have := cntS_len ss
    exact ⟨by omega, by omega, bndS_sml ss h.2.2⟩
theorem bndS_sml : ∀ (ss : List El), bndS ss = true → smlS ss
  | [], _ => trivial
  | e :: ss, h => by
    rw [bndS, Bool.and_eq_true] at h
    exact ⟨bnd_sml e h.1, bndS_sml ss h.2⟩
end
set_option maxHeartbeats 6400000 in
set_option maxRecDepth 100000 in
theorem check_walk (e : El) (v : Value) (w : World) (hE : RdE false (fun _ => True) w e v) :
    Calls Try.prog 3 #[v] w fun e w' => e = .returned (.bool true) ∧ Below w.heap.size w w' := by
  obtain ⟨c, n, k, bs, ss⟩ := e
  have hE' := hE
  obtain ⟨h1, h2, h3, A, ca, B, cb, rfl, h5, h6, h7, h8, h9, h10, h11⟩ := hE'
  clear h1 h2 h3 h5 h6 h7 h8 h9 h10 h11
  obtain ⟨W0, hW0⟩ : ∃ W0, w.alloc (.cells #[.int .u8 (c : Int), .bool k, .int .u32 (n : Int), .slice A bs.length ca, .slice B ss.length cb] 29) = W0 := ⟨_, rfl⟩
  have hb0 : Below w.heap.size w W0 := by rw [← hW0]; exact bel1 w _
  have k0 : Bk W0 w.heap.size 29 [.int .u8 (c : Int), .bool k, .int .u32 (n : Int), .slice A bs.length ca, .slice B ss.length cb] := by rw [← hW0]; exact Bk.new w _ [_, _, _, _, _]
  obtain ⟨g, hg⟩ : ∃ g, w.heap.size = g := ⟨_, rfl⟩
  have HW0 := Lib.hid hW0
  have HG := Lib.hid hg
  rw [hg] at k0
  obtain ⟨x0, x1, x2, x3, x4, xz⟩ := k0.five
  have HE0 := Lib.hid (hE.stay hb0)
  have HB0 := Lib.hid hb0
  have HK0 := Lib.hid k0
  clear hW0 hg hE k0 hb0
  obtain ⟨f, hf⟩ : ∃ f, (chkE (.mk c n k bs ss) 1 0).1 = f := ⟨_, rfl⟩
  have HF := Lib.hid hf
  clear hf
  cases hbd : bndE (.mk c n k bs ss) with
  | false =>
    have HBD := Lib.hid hbd
    clear hbd
    go_enter Try.func3, Try.ntmps3
    go_upto_region 1 with fail
    rw [HW0.out, HG.out]
    go_wp2_with fail
    refine (bounded_any _ _ _ HE0.out).mono ?_
    rintro e w1 ⟨rfl, hb⟩
    rw [HBD.out]
    have HB1 := Lib.hid (HB0.out.trans (hb.mono HB0.out.size))
    clear hb x0 x1 x2 x3 x4 xz HE0 HB0 HK0
    go_wp2_with fail
    refine (lives_any _).mono ?_
    rintro e w2 ⟨rfl, hb⟩
    have HB2 := Lib.hid (HB1.out.trans (hb.mono HB1.out.size))
    clear hb HB1
    go_wp2_with fail
    go_ret
    exact ⟨rfl, HB2.out⟩
  | true =>
    have hcn := bnd_cnt hbd
    have hdp := depE_le_cnt (.mk c n k bs ss)
    have HBD := Lib.hid hbd
    have HSZ := Lib.hid (bnd_siz hbd)
    have HCO := Lib.hid (bnd_con hbd)
    have HSM := Lib.hid (bnd_sml _ hbd)
    clear hbd
    go_enter Try.func3, Try.ntmps3
    go_upto_region 1 with fail
    rw [HW0.out, HG.out]
    go_wp2_with fail
    refine (bounded_any _ _ _ HE0.out).mono ?_
    rintro e w1 ⟨rfl, hb⟩
    rw [HBD.out]
    have HE1 := Lib.hid (HE0.out.stay hb)
    have HK1 := Lib.hid (HK0.out.below hb HK0.out.lt)
    have HB1 := Lib.hid (HB0.out.trans (hb.mono HB0.out.size))
    clear hb HE0 HK0 HB0 x0 x1 x2 x3 x4 xz
    obtain ⟨x0, x1, x2, x3, x4, xz⟩ := HK1.out.five

    go_wp2_with fail
    refine (rchk_any _ _ 1 0 w1 (by omega) (by decide) HE1.out).mono ?_
    rintro e w2 ⟨rfl, hb⟩
    rw [HF.out]
    have HE2 := Lib.hid (HE1.out.stay hb)
    have HK2 := Lib.hid (HK1.out.below hb HK1.out.lt)
    have HB2 := Lib.hid (HB1.out.trans (hb.mono HB1.out.size))
    clear hb HE1 HK1 HB1 x0 x1 x2 x3 x4 xz
    obtain ⟨x0, x1, x2, x3, x4, xz⟩ := HK2.out.five

    by_cases hf0 : f = 0
    · have hz : (chkE (.mk c n k bs ss) 1 0).1 = 0 := by rw [HF.out]; exact hf0
      have hsz : sizR (.mk c n k bs ss) = ((encE (.mk c n k bs ss)).length, 0) := by rw [HSZ.out, if_neg (by rw [HF.out]; omega)]
      have henc : encR (.mk c n k bs ss) = (encE (.mk c n k bs ss), 0) := by unfold encR; rw [hsz]; rfl
      have hmea := meaR_cnt hz
      have hc2 := chkE_cnt _ _ _ hz
      rw [Nat.zero_add] at hc2
      have HV := Lib.hid ((chkE_zero _ 1 0).1 hz).1
      have hel := enc_bnd _ HBD.out HV.out
      obtain ⟨C, hC⟩ : ∃ C, cntE (.mk c n k bs ss) = C := ⟨_, rfl⟩
      obtain ⟨D, hD⟩ : ∃ D, depE (.mk c n k bs ss) = D := ⟨_, rfl⟩
      obtain ⟨N, hN⟩ : ∃ N, (encE (.mk c n k bs ss)).length = N := ⟨_, rfl⟩
      rw [hN] at hsz hel
      rw [hC, hD] at hmea
      rw [hC] at hc2 hcn hel hdp
      rw [hD] at hdp
      have HENC := Lib.hid henc
      have HMEA := Lib.hid hmea
      have HC2 := Lib.hid hc2
      have HSIZ := Lib.hid hsz
      have HDD := Lib.hid hD
      have HN := Lib.hid hN
      rw [HC2.out]
      subst hf0
      clear hz hsz henc hmea hc2 hC hD hN HSZ
      go_wp2_with fail
      refine (eput_any _ _ w2 (by rw [HDD.out]; omega) HE2.out HCO.out).mono ?_
      rw [HENC.out]
      rintro e w3 ⟨A5, rfl, r5, h85, hb⟩
      dsimp only at r5 h85 ⊢
      rw [HN.out, show ((0 : Nat) : Int) = 0 from rfl]
      have R3 := Lib.hid (show Rb w3 A5 (encE (.mk c n k bs ss)) from ⟨r5.rd, h85⟩)
      clear r5 h85
      have HE3 := Lib.hid (HE2.out.stay hb)
      have HK3 := Lib.hid (HK2.out.below hb HK2.out.lt)
      have HB3 := Lib.hid (HB2.out.trans (hb.mono HB2.out.size))
      clear hb HE2 HK2 HB2 x0 x1 x2 x3 x4 xz
      obtain ⟨x0, x1, x2, x3, x4, xz⟩ := HK3.out.five

      go_wp2_with fail
      refine (echeck_any _ _ w3 (by rw [HDD.out]; omega) HE3.out).mono ?_
      rw [HMEA.out]
      rintro e w4 ⟨rfl, hb⟩
      rw [show ((0 : Nat) : Int) = 0 from rfl]
      have R4 := Lib.hid (R3.out.below hb)
      have HE4 := Lib.hid (HE3.out.stay hb)
      have HK4 := Lib.hid (HK3.out.below hb HK3.out.lt)
      have HB4 := Lib.hid (HB3.out.trans (hb.mono HB3.out.size))
      clear R3
      clear hb HE3 HK3 HB3 x0 x1 x2 x3 x4 xz
      obtain ⟨x0, x1, x2, x3, x4, xz⟩ := HK4.out.five

      go_wp2_with fail
      refine (ecount_any _ _ w4 (by rw [HDD.out]; omega) HE4.out).mono ?_
      rw [HMEA.out]
      rintro e w5 ⟨rfl, hb⟩
      have R5 := Lib.hid (R4.out.below hb)
      have HE5 := Lib.hid (HE4.out.stay hb)
      have HK5 := Lib.hid (HK4.out.below hb HK4.out.lt)
      have HB5 := Lib.hid (HB4.out.trans (hb.mono HB4.out.size))
      clear R4
      clear hb HE4 HK4 HB4 x0 x1 x2 x3 x4 xz
      obtain ⟨x0, x1, x2, x3, x4, xz⟩ := HK5.out.five

      go_wp2_with fail
      refine (esame_any _ _ _ _ w5 (by rw [HDD.out]; omega) HE5.out HE5.out).mono ?_
      rw [HF.out, (eqE_iff _ _).2 rfl]
      rintro e w6 ⟨rfl, hb⟩
      have R6 := Lib.hid (R5.out.below hb)
      have HE6 := Lib.hid (HE5.out.stay hb)
      have HK6 := Lib.hid (HK5.out.below hb HK5.out.lt)
      have HB6 := Lib.hid (HB5.out.trans (hb.mono HB5.out.size))
      clear R5
      clear hb HE5 HK5 HB5 x0 x1 x2 x3 x4 xz
      obtain ⟨x0, x1, x2, x3, x4, xz⟩ := HK6.out.five

      go_wp2_with fail
      refine (rputE_any _ _ w6 HE6.out HV.out (by rw [HN.out]; omega)).mono ?_
      rintro e w7 ⟨A7, c7, rfl, r7, hc7, hm7, hb⟩
      rw [HN.out]
      have R7 := Lib.hid (R6.out.below hb)
      have T7 := Lib.hid r7
      clear r7 hc7 hm7
      have HE7 := Lib.hid (HE6.out.stay hb)
      have HK7 := Lib.hid (HK6.out.below hb HK6.out.lt)
      have HB7 := Lib.hid (HB6.out.trans (hb.mono HB6.out.size))
      clear R6
      clear hb HE6 HK6 HB6 x0 x1 x2 x3 x4 xz
      obtain ⟨x0, x1, x2, x3, x4, xz⟩ := HK7.out.five

      go_wp2_with fail
      obtain ⟨q, hq⟩ : ∃ q, bstr (encE (.mk c n k bs ss)) = q := ⟨_, rfl⟩
      have kS : ∀ W : World, Below w7.heap.size w7 W → W.cell? ⟨g, 0, none⟩ = some (.int .u8 (c : Int)) ∧ W.cell? ⟨g, 1, none⟩ = some (.bool k) ∧ W.cell? ⟨g, 2, none⟩ = some (.int .u32 (n : Int)) ∧ W.cell? ⟨g, 3, none⟩ = some (.slice A bs.length ca) ∧ W.cell? ⟨g, 4, none⟩ = some (.slice B ss.length cb) ∧
          (convert 26 9 (.slice A5 N N)).run Try.prog W = .ok (.string q) W ∧ (convert 26 9 (.slice A7 N c7)).run Try.prog W = .ok (.string q) W := fun W hb => by
        obtain ⟨y0, y1, y2, y3, y4, _⟩ := (HK7.out.below hb HK7.out.lt).five
        refine ⟨y0, y1, y2, y3, y4, ?_, ?_⟩
        · have := Len.run_str8 (R7.out.below hb) N
          rw [HN.out, hq] at this; exact this
        · have := Len.run_str8 (T7.out.below hb) c7
          rw [HN.out, hq] at this; exact this
      have HkS := Lib.hid kS
      have b1 := Below.refl w7.heap.size w7
      have hqq : (q.toList == q.toList) = true := by simp
      have hnn : ((N : Int) == (N : Int)) = true := by simp
      have hdd : ((D : Int) == (D : Int)) = true := by simp
      have HD9 := Lib.hid (show depE (.mk c n k bs ss) ≤ 9000 by rw [HDD.out]; omega)
      have HD10 := Lib.hid (show depE (.mk c n k bs ss) ≤ 10000 by rw [HDD.out]; omega)
      clear kS hq x0 x1 x2 x3 x4 xz HK7 R7 T7
      go_region_held3 (fun w' => w'.cell? ⟨g, 0, none⟩ = some (.int .u8 (c : Int)) ∧ w'.cell? ⟨g, 1, none⟩ = some (.bool k) ∧ w'.cell? ⟨g, 2, none⟩ = some (.int .u32 (n : Int)) ∧ w'.cell? ⟨g, 3, none⟩ = some (.slice A bs.length ca) ∧ w'.cell? ⟨g, 4, none⟩ = some (.slice B ss.length cb) ∧ (convert 26 9 (.slice A5 N N)).run Try.prog w' = .ok (.string q) w' ∧ (convert 26 9 (.slice A7 N c7)).run Try.prog w' = .ok (.string q) w')
        (first | exact HkS.out _ b1.drew | exact HkS.out _ d2 | exact HkS.out _ d3 | exact HkS.out _ d4 | exact HkS.out _ d5)
        (first | (go_at_call 18; refine (esize_any _ _ _ HD10.out (HE7.out.stay b1.drew) HCO.out).mono ?_; rw [HSIZ.out]; rintro e w8 ⟨rfl, hb⟩; have d2 := b1.drew.trans (hb.mono b1.drew.size)) | (go_at_call 19; refine (edepth_any _ _ _ HD10.out (HE7.out.stay d2)).mono ?_; rw [HMEA.out]; rintro e w9 ⟨rfl, hb⟩; have d3 := d2.trans (hb.mono d2.size)) | (go_at_call 20; refine (rdep_any _ _ _ HD9.out (HE7.out.stay d3)).mono ?_; rw [HDD.out]; rintro e w10 ⟨rfl, hb⟩; have d4 := d3.trans (hb.mono d3.size)) | (go_at_call 11; refine (lives_any _).mono ?_; rintro e w11 ⟨rfl, hb⟩; have d5 := d4.trans (hb.mono d4.size)))
      have HD5 := Lib.hid (HB7.out.trans (d5.mono HB7.out.size))
      go_wp2_with fail
      go_ret
      exact ⟨rfl, HD5.out⟩
    · have hz : (chkE (.mk c n k bs ss) 1 0).1 ≠ 0 := by rw [HF.out]; exact hf0
      have hfb : ((f : Int) == 0) = false := by simp; exact hf0
      have hfn : ((f : Int) != (f : Int)) = false := by simp
      have hff : ((f : Int) == (f : Int)) = true := by simp
      have hsz : sizR (.mk c n k bs ss) = (0, f) := by rw [HSZ.out, if_pos hz, HF.out]
      have henc : encR (.mk c n k bs ss) = ([], f) := by unfold encR; rw [hsz, if_neg hf0]
      have hmea : meaR (.mk c n k bs ss) = (0, 0, f) := by rw [meaR_bad hz, HF.out]
      have hc2 := chkE_bad _ _ _ hz
      have hat : atR (.mk c n k bs ss) [] = .error f := by unfold atR; rw [hmea, if_pos hf0]
      have hdq : depE (.mk c n k bs ss) ≤ 10000 := by omega
      have HENC := Lib.hid henc
      have HMEA := Lib.hid hmea
      have HC2 := Lib.hid hc2
      have HSIZ := Lib.hid hsz
      have HAT := Lib.hid hat
      have HD10 := Lib.hid hdq
      rw [HC2.out, show ((0 : Nat) : Int) = 0 from rfl]
      clear hz hsz henc hmea hc2 hat hdq hcn hdp HSZ
      go_wp2_with fail
      refine (eput_any _ _ w2 HD10.out HE2.out HCO.out).mono ?_
      rw [HENC.out]
      rintro e w3 ⟨A5, rfl, r5, h85, hb⟩
      dsimp only [List.length_nil] at r5 h85 ⊢
      clear r5 h85
      have HE3 := Lib.hid (HE2.out.stay hb)
      have HK3 := Lib.hid (HK2.out.below hb HK2.out.lt)
      have HB3 := Lib.hid (HB2.out.trans (hb.mono HB2.out.size))
      clear hb HE2 HK2 HB2 x0 x1 x2 x3 x4 xz
      obtain ⟨x0, x1, x2, x3, x4, xz⟩ := HK3.out.five

      go_wp2_with fail
      refine (echeck_any _ _ w3 HD10.out HE3.out).mono ?_
      rw [HMEA.out]
      rintro e w4 ⟨rfl, hb⟩
      have HE4 := Lib.hid (HE3.out.stay hb)
      have HK4 := Lib.hid (HK3.out.below hb HK3.out.lt)
      have HB4 := Lib.hid (HB3.out.trans (hb.mono HB3.out.size))
      clear hb HE3 HK3 HB3 x0 x1 x2 x3 x4 xz
      obtain ⟨x0, x1, x2, x3, x4, xz⟩ := HK4.out.five

      go_wp2_with fail
      refine (ecount_any _ _ w4 HD10.out HE4.out).mono ?_
      rw [HMEA.out]
      rintro e w5 ⟨rfl, hb⟩
      rw [show ((0 : Nat) : Int) = 0 from rfl]
      have HE5 := Lib.hid (HE4.out.stay hb)
      have HK5 := Lib.hid (HK4.out.below hb HK4.out.lt)
      have HB5 := Lib.hid (HB4.out.trans (hb.mono HB4.out.size))
      clear hb HE4 HK4 HB4 x0 x1 x2 x3 x4 xz
      obtain ⟨x0, x1, x2, x3, x4, xz⟩ := HK5.out.five

      go_wp2_with fail
      refine (esame_any _ _ _ _ w5 HD10.out HE5.out HE5.out).mono ?_
      rw [HF.out, (eqE_iff _ _).2 rfl]
      have hf1 : decide (f = 0) = false := by simpa using hf0
      rw [hf1]
      rintro e w6 ⟨rfl, hb⟩
      clear hf1
      have HE6 := Lib.hid (HE5.out.stay hb)
      have HK6 := Lib.hid (HK5.out.below hb HK5.out.lt)
      have HB6 := Lib.hid (HB5.out.trans (hb.mono HB5.out.size))
      clear hb HE5 HK5 HB5 x0 x1 x2 x3 x4 xz
      obtain ⟨x0, x1, x2, x3, x4, xz⟩ := HK6.out.five

      go_wp2_with fail
      refine (at_el _ _ [] none 0 0 w6 HD10.out HE6.out HSM.out (fun hn => absurd rfl hn) rfl (by decide)).mono ?_
      rw [HAT.out]
      rintro e w7 ⟨_, rfl, hb⟩
      have HE7 := Lib.hid (HE6.out.stay hb)
      have HK7 := Lib.hid (HK6.out.below hb HK6.out.lt)
      have HB7 := Lib.hid (HB6.out.trans (hb.mono HB6.out.size))
      clear hb HE6 HK6 HB6 x0 x1 x2 x3 x4 xz
      obtain ⟨x0, x1, x2, x3, x4, xz⟩ := HK7.out.five

      obtain ⟨W8, hW8⟩ : ∃ W8, w7.alloc (.cells #[.int .u8 0, .bool false, .int .u32 0, .slice none 0 0, .slice none 0 0] 29) = W8 := ⟨_, rfl⟩
      have kz : Bk W8 w7.heap.size 29 [.int .u8 0, .bool false, .int .u32 0, .slice none 0 0, .slice none 0 0] := by rw [← hW8]; exact Bk.new w7 _ [_, _, _, _, _]
      have hb : Below w7.heap.size w7 W8 := by rw [← hW8]; exact bel1 w7 _
      have HW8 := Lib.hid hW8
      clear hW8
      have HE8 := Lib.hid (HE7.out.stay hb)
      have HK8 := Lib.hid (HK7.out.below hb HK7.out.lt)
      have HB8 := Lib.hid (HB7.out.trans (hb.mono HB7.out.size))
      clear hb HE7 HK7 HB7 x0 x1 x2 x3 x4 xz
      obtain ⟨x0, x1, x2, x3, x4, xz⟩ := HK8.out.five

      have HKZ := Lib.hid kz
      clear kz x0 x1 x2 x3 x4 xz
      go_upto_region 11 with fail
      rw [HW8.out]
      obtain ⟨z, hz⟩ : ∃ z, w7.heap.size = z := ⟨_, rfl⟩
      rw [hz] at HKZ ⊢
      have kS : ∀ W : World, Below W8.heap.size W8 W → W.cell? ⟨g, 0, none⟩ = some (.int .u8 (c : Int)) ∧ W.cell? ⟨g, 1, none⟩ = some (.bool k) ∧ W.cell? ⟨g, 2, none⟩ = some (.int .u32 (n : Int)) ∧ W.cell? ⟨g, 3, none⟩ = some (.slice A bs.length ca) ∧ W.cell? ⟨g, 4, none⟩ = some (.slice B ss.length cb) ∧
          W.cell? ⟨z, 0, none⟩ = some (.int .u8 0) ∧ W.cell? ⟨z, 1, none⟩ = some (.bool false) ∧ W.cell? ⟨z, 2, none⟩ = some (.int .u32 0) ∧ W.cell? ⟨z, 3, none⟩ = some (.slice none 0 0) ∧ W.cell? ⟨z, 4, none⟩ = some (.slice none 0 0) := fun W hb => by
        obtain ⟨y0, y1, y2, y3, y4, _⟩ := (HK8.out.below hb HK8.out.lt).five
        obtain ⟨t0, t1, t2, t3, t4, _⟩ := (HKZ.out.below hb HKZ.out.lt).five
        exact ⟨y0, y1, y2, y3, y4, t0, t1, t2, t3, t4⟩
      have HkS := Lib.hid kS
      have b1 := Below.refl W8.heap.size W8
      have HCX := Lib.hid (fun (W : World) (b : Nat) (h1 : RdE false (fun _ => True) W (.mk c n k bs ss) (elV c n k (.slice A bs.length ca) (.slice B ss.length cb))) (h2 : RdE true (fun _ => True) W exE (exV b)) => (ecmp_any _ _ _ _ W HD10.out ex_dep HCO.out ex_con h1 h2))
      have HCE := Lib.hid (fun (W : World) (h1 : RdE false (fun _ => True) W (.mk c n k bs ss) (elV c n k (.slice A bs.length ca) (.slice B ss.length cb))) => (ecmp_any _ _ _ _ W HD10.out HD10.out HCO.out HCO.out h1 h1))
      have HV1 := Lib.hid (show cmpB (encR (.mk c n k bs ss)).1 (encR exE).1 = -1 from by rw [HENC.out]; kernel_rfl)
      have HV2 := Lib.hid (show cmpB (encR (.mk c n k bs ss)).1 (encR (.mk c n k bs ss)).1 = 0 from by rw [HENC.out]; rfl)
      clear kS hz HK8 HKZ HW8
      go_region_held3 (fun w' => w'.cell? ⟨g, 0, none⟩ = some (.int .u8 (c : Int)) ∧ w'.cell? ⟨g, 1, none⟩ = some (.bool k) ∧ w'.cell? ⟨g, 2, none⟩ = some (.int .u32 (n : Int)) ∧ w'.cell? ⟨g, 3, none⟩ = some (.slice A bs.length ca) ∧ w'.cell? ⟨g, 4, none⟩ = some (.slice B ss.length cb) ∧ w'.cell? ⟨z, 0, none⟩ = some (.int .u8 0) ∧ w'.cell? ⟨z, 1, none⟩ = some (.bool false) ∧ w'.cell? ⟨z, 2, none⟩ = some (.int .u32 0) ∧ w'.cell? ⟨z, 3, none⟩ = some (.slice none 0 0) ∧ w'.cell? ⟨z, 4, none⟩ = some (.slice none 0 0))
        (first | exact HkS.out _ b1.drew | exact HkS.out _ d2 | exact HkS.out _ d3 | exact HkS.out _ d4 | exact HkS.out _ d5 | exact HkS.out _ d6 | exact HkS.out _ d7 | exact HkS.out _ d8)
        (first | (go_at_call 18; refine (esize_any _ _ _ HD10.out (HE8.out.stay b1.drew) HCO.out).mono ?_; rw [HSIZ.out]; rintro e v2 ⟨rfl, hb⟩; rw [show ((0 : Nat) : Int) = 0 from rfl]; have d2 := b1.drew.trans (hb.mono b1.drew.size)) | (go_at_call 19; refine (edepth_any _ _ _ HD10.out (HE8.out.stay d2)).mono ?_; rw [HMEA.out]; rintro e v3 ⟨rfl, hb⟩; rw [show ((0 : Nat) : Int) = 0 from rfl]; have d3 := d2.trans (hb.mono d2.size)) | (go_at_call 22; refine (rsame_any zE _ _ _ (rd_zero true (fun _ => True) _) (rd_zero true (fun _ => True) _)).mono ?_; rintro e v4 ⟨rfl, hb⟩; have d4 := d3.trans (hb.mono d3.size)) | (go_at_call 24; refine (example_any _).mono ?_; rintro e v5 ⟨_, b, _, rfl, _, hex, hb⟩; have d5 := d4.trans (hb.mono d4.size); have hex5 := RdE.keep (T := fun _ => True) (Nat.le_refl _) (fun _ _ _ => rfl) (fun _ _ _ => trivial) _ _ hex) | (go_at_call 23; refine (HCE.out _ (HE8.out.stay d6)).mono ?_; rw [HV2.out]; rintro e v7 ⟨rfl, hb⟩; have d7 := d6.trans (hb.mono d6.size)) | (go_at_call 23; refine (HCX.out _ _ (HE8.out.stay d5) hex5).mono ?_; rw [HV1.out]; rintro e v6 ⟨rfl, hb⟩; have d6 := d5.trans (hb.mono d5.size)) | (go_at_call 11; refine (lives_any _).mono ?_; rintro e v8 ⟨rfl, hb⟩; have d8 := d7.trans (hb.mono d7.size)))
      have HD5 := Lib.hid (HB8.out.trans (d8.mono HB8.out.size))
      go_wp2_with fail
      go_ret
      exact ⟨rfl, HD5.out⟩

open Go.ChangeShapes Go.WideShapes Go.ChangeAt
set_option maxRecDepth 100000 in
theorem elementsCheck_lifted (os : Os) (started : os.Started) (H : Type) (enc : TypeId × Value → H) :
    ReturnsInHanded {} Try.checked os 3 .any (Rows.elementsCheckSpec.pre6 enc Try.prog Try.f3 Rows.elementsCheckRow.domain false) (Rows.elementsCheckSpec.post enc Try.prog Try.f3 false true false false) := by
  refine returnsInHanded_of_change (C := Try.checked) x_own started (by kernel_rfl) Try.func3
    (ChangeSpec.witness6 (enc := enc) (C := Try.checked) false ⟨#[], #[.agg #[.int .u8 0, .bool false, .int .u32 0, .slice none 0 0, .slice none 0 0]], []⟩ 8 (by kernel_rfl) (by kernel_rfl) (by kernel_rfl) (by kernel_rfl)) ?_
  intro W base args ds gs before hval0 hW hcnd _
  have hval : ∀ (j : Nat) t v, Try.f3.params[j]? = some t → args[j]? = some v → Value.okWide Try.prog W .any base t v := hval0
  have hW' := hW
  obtain ⟨p, q, hA0, hV, rfl, hfz, hnd⟩ := hW
  have hA : DataW.TrodAll enc Try.prog W 0 (fun _ => true) true Try.f3.params.toList args.toList ds p := hA0
  rw [Try.params3] at hA hval
  obtain ⟨v0, d0, rfl, rfl, h0⟩ := trodAll_one hA
  obtain ⟨rfl, rfl⟩ := trodVars_none hV
  obtain ⟨e0, hE0⟩ := open_elem (hval 0 _ v0 rfl rfl) h0
  clear hA0 hval0
  refine (check_walk e0 v0 W hE0).mono fun e W' ⟨he, hb⟩ => ?_
  subst he
  exact ⟨_, rfl, law_post (tb := 4) x_laid (by decide +kernel) rfl rfl (by kernel_rfl) Try.underlying4 hW' hb⟩

/-- The statement. -/
theorem elementsCheck_holds : Rows.ElementsCheckSaid :=
  OpenClaim.holds_of_wide 3 Try.f3 rfl rfl rfl rfl rfl rfl rfl ⟨rfl, rfl, rfl, rfl, rfl⟩ rfl rfl rfl rfl rfl (by kernel_rfl) Try.func3 (by kernel_rfl)
    (of_decide_eq_true (by kernel_rfl)) (by unfold Func.isWrapper; first | (rw [if_pos (by decide +kernel)]; kernel_rfl) | (rw [if_neg (by decide +kernel)]; exact ⟨rfl, rfl⟩))
    (fun os started H enc _ => elementsCheck_lifted os started H enc)
end Go.Proofs.Ytkfagmfhhoeegaa
