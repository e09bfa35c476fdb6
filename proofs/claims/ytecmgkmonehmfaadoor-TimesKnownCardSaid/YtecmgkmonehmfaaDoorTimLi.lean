/-
  Layer 10: the examples of the chapter hold: the statements' helper 'lives' returns true; what was there has not turned.
  Conditions: the table of the months holds what the program's text lays.
-/
import Derived.Test.YtecmgkmonehmfaaDoorTimPd
namespace Go.Proofs.YtecmgkmonehmfaaDoor.Tim
open Go.RowKit Go.Shelf

theorem noU {l : List Nat} (hx : ck (numP (cen (l.getD 0 0) ++ l) 0 4) (numP (cen (l.getD 0 0) ++ l) 4 6) (numP (cen (l.getD 0 0) ++ l) 6 8) (numP (cen (l.getD 0 0) ++ l) 8 10) (numP (cen (l.getD 0 0) ++ l) 10 12) (numP (cen (l.getD 0 0) ++ l) 12 14) = 1) : AnsE 23 l (tL 0 0 0 0 0 0) 11 := by
  refine .inr ⟨fun y m d h mi s g => ?_, rfl, rfl⟩
  obtain ⟨b0, b1, b2, b3, b4, b5⟩ := g.refU
  rw [b0, b1, b2, b3, b4, b5, g.1] at hx
  cases hx
theorem noG {l : List Nat} (hx : tagN ((numP l 0 4).toNat) = 23) : AnsE 24 l (tL 0 0 0 0 0 0) 11 := by
  refine .inr ⟨fun y m d h mi s g => ?_, rfl, rfl⟩
  obtain ⟨b0, b1, b2, b3, b4, b5⟩ := g.refG
  rw [b0, Int.toNat_natCast, g.2.1] at hx
  cases hx
theorem noLen {k : Nat} {l : List Nat} (hk : k = 23 ∨ k = 24) (hx : l.length ≠ if k = 23 then 13 else 15) : AnsE k l (tL 0 0 0 0 0 0) 11 :=
  .inr ⟨fun y m d h mi s g => hx (by rw [← g.2.2]; exact len_E _ _ _ _ _ _ _ hk), rfl, rfl⟩
theorem noX {l : List Nat} (hx : ck (numP l 0 4) (numP l 5 7) (numP l 8 10) (numP l 11 13) (numP l 14 16) (numP l 17 19) = 1) : AnsX l (tL 0 0 0 0 0 0) 6 := by
  refine .inr ⟨fun y m d h mi s g => ?_, rfl, rfl⟩
  obtain ⟨b0, b1, b2, b3, b4, b5⟩ := g.ref
  rw [b0, b1, b2, b3, b4, b5, g.1] at hx
  cases hx
theorem yesE {k : Nat} {l : List Nat} (y m d h mi s : Nat) (h1 : ck y m d h mi s = 0) (h2 : tagN y = k) (h3 : txtE k y m d h mi s = l) : AnsE k l (tL y m d h mi s) 0 := .inl ⟨y, m, d, h, mi, s, ⟨h1, h2, h3⟩, rfl, rfl⟩
theorem yesX {l : List Nat} (y m d h mi s : Nat) (h1 : ck y m d h mi s = 0) (h3 : txtX y m d h mi s = l) : AnsX l (tL y m d h mi s) 0 := .inl ⟨y, m, d, h, mi, s, ⟨h1, h3⟩, rfl, rfl⟩
theorem neqTm (a0 a1 a2 a3 a4 a5 : Int) (W : World) : (binOp .neq 23 (.agg (tL a0 a1 a2 a3 a4 a5).toArray) (.agg (tL a0 a1 a2 a3 a4 a5).toArray)).run Tryd.prog W = .ok (.bool false) W := by
  show (binOp .neq 23 (.agg #[.int .i64 a0, .int .i64 a1, .int .i64 a2, .int .i64 a3, .int .i64 a4, .int .i64 a5]) (.agg #[.int .i64 a0, .int .i64 a1, .int .i64 a2, .int .i64 a3, .int .i64 a4, .int .i64 a5])).run Tryd.prog W = _
  have u0 := Tryd.underlying23
  have u1 := Tryd.underlying3
  simp [go_sem]
theorem eqlTs (a0 a1 a2 a3 a4 a5 : Int) (W : World) : (binOp .eql 23 (.agg (tL a0 a1 a2 a3 a4 a5).toArray) (.agg (tL a0 a1 a2 a3 a4 a5).toArray)).run Tryd.prog W = .ok (.bool true) W := by rw [eqlTm]; simp
set_option linter.unusedSimpArgs false in
set_option linter.unusedVariables false in
set_option maxHeartbeats 6400000 in
set_option maxRecDepth 100000 in
theorem lives10 (w : World) (hT : Env w) : Calls Tryd.prog 16 #[] w fun e w' => e = .returned (.bool true) ∧ Below w.heap.size w w' := by
  have hz : ∀ w : World, (zeroValue 23).run Tryd.prog w = .ok (.agg #[.int .i64 0, .int .i64 0, .int .i64 0, .int .i64 0, .int .i64 0, .int .i64 0]) w := zTm
  have hne : ∀ W, (binOp .neq 23 (.agg (tL 0 1 1 23 59 59).toArray) (.agg #[.int .i64 0, .int .i64 1, .int .i64 1, .int .i64 23, .int .i64 59, .int .i64 59])).run Tryd.prog W = .ok (.bool false) W := fun W => neqTm 0 1 1 23 59 59 W
  have K0 := Lib.hid (St.start hT)
  clear hT
  go_enter Tryd.func16, Tryd.ntmps16
  go_upto_region 2 with fail
  obtain ⟨g1, hg1⟩ : ∃ g, w.heap.size = g := ⟨_, rfl⟩
  obtain ⟨w1, hw1⟩ : ∃ v, w.alloc (.cells #[.int .i64 0, .int .i64 0, .int .i64 0, .int .i64 0, .int .i64 0, .int .i64 0] 23) = v := ⟨_, rfl⟩
  have hbk : Hid (Bk w1 g1 23 (tL 0 0 0 0 0 0)) := Lib.hid (by rw [← hw1, ← hg1]; exact Bk.new w _ (tL 0 0 0 0 0 0))
  have hb : Hid (Below w.heap.size w w1) := Lib.hid (by rw [← hw1]; exact bel1 w _)
  have GE_g1 : Hid (w.heap.size ≤ g1) := Lib.hid (by rw [← hg1]; exact K0.out.b.size)
  rw [hw1, hg1]
  have K1 := kp K0 hb
  clear hb K0
  have Kn := kb K1 hbk
  clear hbk K1 hg1 hw1
  have K1 := Kn
  clear Kn
  go_wp2_with fail
  refine (leap_at w1 2000 true (by decide +kernel)).mono ?_
  rintro e w2 ⟨rfl, hb⟩
  have K2 := kp K1 hb
  clear hb K1
  go_wp2_with fail
  refine (leap_at w2 1900 false (by decide +kernel)).mono ?_
  rintro e w3 ⟨rfl, hb⟩
  have K3 := kp K2 hb
  clear hb K2
  go_wp2_with fail
  refine (leap_at w3 2024 true (by decide +kernel)).mono ?_
  rintro e w4 ⟨rfl, hb⟩
  have K4 := kp K3 hb
  clear hb K3
  go_wp2_with fail
  refine (days_at w4 2023 2 (by unfold I64; omega) 28 (by decide +kernel) K4.out.t).mono ?_
  rintro e w5 ⟨rfl, hb⟩
  have K5 := kp K4 hb
  clear hb K4
  go_wp2_with fail
  refine (days_at w5 2024 2 (by unfold I64; omega) 29 (by decide +kernel) K5.out.t).mono ?_
  rintro e w6 ⟨rfl, hb⟩
  have K6 := kp K5 hb
  clear hb K5
  go_wp2_with fail
  refine (days_at w6 2024 13 (by unfold I64; omega) 0 (by decide +kernel) K6.out.t).mono ?_
  rintro e w7 ⟨rfl, hb⟩
  have K7 := kp K6 hb
  clear hb K6
  go_upto_region 5 with fail
  obtain ⟨g2, hg2⟩ : ∃ g, w7.heap.size = g := ⟨_, rfl⟩
  obtain ⟨w8, hw8⟩ : ∃ v, w7.alloc (.cells #[.int .i64 1999, .int .i64 12, .int .i64 31, .int .i64 23, .int .i64 59, .int .i64 59] 23) = v := ⟨_, rfl⟩
  have hbk : Hid (Bk w8 g2 23 (tL 1999 12 31 23 59 59)) := Lib.hid (by rw [← hw8, ← hg2]; exact Bk.new w7 _ (tL 1999 12 31 23 59 59))
  have hb : Hid (Below w7.heap.size w7 w8) := Lib.hid (by rw [← hw8]; exact bel1 w7 _)
  have GE_g2 : Hid (w.heap.size ≤ g2) := Lib.hid (by rw [← hg2]; exact K7.out.b.size)
  rw [hw8, hg2]
  have K8 := kp K7 hb
  clear hb K7
  have Kn := kb K8 hbk
  clear hbk K8 hg2 hw8
  have K8 := Kn
  clear Kn
  go_wp2_with (refine wpList_loadGg (by rfl) (.tmp 2) rfl rfl (rangeB (K8.out.k (g2, 23, tL 1999 12 31 23 59 59) (by simp))) Tryd.underlying23 rfl infoTm ?_)
  refine (elem_at w8 1999 12 31 23 59 59 (by decide +kernel) 23 (by decide +kernel) [57, 57, 49, 50, 51, 49, 50, 51, 53, 57, 53, 57, 90] (by decide +kernel) 13 rfl K8.out.t).mono ?_
  rintro e w9 ⟨A0, rfl, hr, hb⟩
  have K9 := kp K8 hb
  clear hb K8
  have Kn := ka K9 hr
  clear hr K9
  have K9 := Kn
  clear Kn
  go_upto_region 6 with fail
  obtain ⟨g3, hg3⟩ : ∃ g, w9.heap.size = g := ⟨_, rfl⟩
  obtain ⟨w10, hw10⟩ : ∃ v, w9.alloc (.cells #[.int .u8 0, .bool false, .int .u32 23, .slice A0 13 13, .slice none 0 0] 37) = v := ⟨_, rfl⟩
  have hbk : Hid (Bk w10 g3 37 (elC 23 (.slice A0 13 13))) := Lib.hid (by rw [← hw10, ← hg3]; exact Bk.new w9 _ (elC 23 (.slice A0 13 13)))
  have hb : Hid (Below w9.heap.size w9 w10) := Lib.hid (by rw [← hw10]; exact bel1 w9 _)
  have GE_g3 : Hid (w.heap.size ≤ g3) := Lib.hid (by rw [← hg3]; exact K9.out.b.size)
  rw [hw10, hg3]
  have K10 := kp K9 hb
  clear hb K9
  have Kn := kb K10 hbk
  clear hbk K10 hg3 hw10
  have K10 := Kn
  clear Kn
  go_wp2_with fail
  refine (elem_at w10 2050 1 1 0 0 0 (by decide +kernel) 24 (by decide +kernel) [50, 48, 53, 48, 48, 49, 48, 49, 48, 48, 48, 48, 48, 48, 90] (by decide +kernel) 15 rfl K10.out.t).mono ?_
  rintro e w11 ⟨A1, rfl, hr, hb⟩
  have K11 := kp K10 hb
  clear hb K10
  have Kn := ka K11 hr
  clear hr K11
  have K11 := Kn
  clear Kn
  go_upto_region 7 with fail
  obtain ⟨g5, hg5⟩ : ∃ g, w11.heap.size = g := ⟨_, rfl⟩
  obtain ⟨w12, hw12⟩ : ∃ v, w11.alloc (.cells #[.int .u8 0, .bool false, .int .u32 24, .slice A1 15 15, .slice none 0 0] 37) = v := ⟨_, rfl⟩
  have hbk : Hid (Bk w12 g5 37 (elC 24 (.slice A1 15 15))) := Lib.hid (by rw [← hw12, ← hg5]; exact Bk.new w11 _ (elC 24 (.slice A1 15 15)))
  have hb : Hid (Below w11.heap.size w11 w12) := Lib.hid (by rw [← hw12]; exact bel1 w11 _)
  have GE_g5 : Hid (w.heap.size ≤ g5) := Lib.hid (by rw [← hg5]; exact K11.out.b.size)
  rw [hw12, hg5]
  have K12 := kp K11 hb
  clear hb K11
  have Kn := kb K12 hbk
  clear hbk K12 hg5 hw12
  have K12 := Kn
  clear Kn
  go_wp2_with (refine wpList_loadGg (by rfl) (.tmp 3) rfl rfl (rangeB (K12.out.k (g3, 37, elC 23 (.slice A0 13 13)) (by simp))) Tryd.underlying37 rfl infoEl ?_)
  refine (is_at w12 A0 [57, 57, 49, 50, 51, 49, 50, 51, 53, 57, 53, 57, 90] (lt_lit rfl) 13 23 rfl (by decide) ⟨#[57, 57, 49, 50, 51, 49, 50, 51, 53, 57, 53, 57, 90]⟩ rfl (K12.out.r (A0, cs8 [57, 57, 49, 50, 51, 49, 50, 51, 53, 57, 53, 57, 90]) (by simp))).mono ?_
  rintro e w13 ⟨rfl, hb⟩
  have K13 := kp K12 hb
  clear hb K12
  go_wp2_with (refine wpList_loadGg (by rfl) (.tmp 5) rfl rfl (rangeB (K13.out.k (g5, 37, elC 24 (.slice A1 15 15)) (by simp))) Tryd.underlying37 rfl infoEl ?_)
  refine (is_at w13 A1 [50, 48, 53, 48, 48, 49, 48, 49, 48, 48, 48, 48, 48, 48, 90] (lt_lit rfl) 15 24 rfl (by decide) ⟨#[50, 48, 53, 48, 48, 49, 48, 49, 48, 48, 48, 48, 48, 48, 90]⟩ rfl (K13.out.r (A1, cs8 [50, 48, 53, 48, 48, 49, 48, 49, 48, 48, 48, 48, 48, 48, 90]) (by simp))).mono ?_
  rintro e w14 ⟨rfl, hb⟩
  have K14 := kp K13 hb
  clear hb K13
  go_wp2_with fail
  refine (lof_at w14 23 (by decide) [53, 48, 48, 49, 48, 49, 48, 48, 48, 48, 48, 48, 90] (lt_lit rfl) (by decide) ⟨#[53, 48, 48, 49, 48, 49, 48, 48, 48, 48, 48, 48, 90]⟩ rfl 1950 1 1 0 0 0 0 (yesE 1950 1 1 0 0 0 (by decide +kernel) (by decide +kernel) (by decide +kernel)) K14.out.t).mono ?_
  rintro e w15 ⟨rfl, hb⟩
  have K15 := kp K14 hb
  clear hb K14
  go_wp2_with fail
  refine (lof_at w15 23 (by decide) [52, 57, 48, 49, 48, 49, 48, 48, 48, 48, 48, 48, 90] (lt_lit rfl) (by decide) ⟨#[52, 57, 48, 49, 48, 49, 48, 48, 48, 48, 48, 48, 90]⟩ rfl 2049 1 1 0 0 0 0 (yesE 2049 1 1 0 0 0 (by decide +kernel) (by decide +kernel) (by decide +kernel)) K15.out.t).mono ?_
  rintro e w16 ⟨rfl, hb⟩
  have K16 := kp K15 hb
  clear hb K15
  go_wp2_with (refine wpList_loadGg (by rfl) (.tmp 1) rfl rfl (rangeB (K16.out.k (g1, 23, tL 0 0 0 0 0 0) (by simp))) Tryd.underlying23 rfl infoTm ?_)
  refine (lof_at w16 23 (by decide) [57, 57, 48, 50, 50, 57, 48, 48, 48, 48, 48, 48, 90] (lt_lit rfl) (by decide) ⟨#[57, 57, 48, 50, 50, 57, 48, 48, 48, 48, 48, 48, 90]⟩ rfl 0 0 0 0 0 0 11 (noU (by decide +kernel)) K16.out.t).mono ?_
  rintro e w17 ⟨rfl, hb⟩
  have K17 := kp K16 hb
  clear hb K16
  go_wp2_with (refine wpList_loadGg (by rfl) (.tmp 1) rfl rfl (rangeB (K17.out.k (g1, 23, tL 0 0 0 0 0 0) (by simp))) Tryd.underlying23 rfl infoTm ?_)
  refine (lof_at w17 24 (by decide) [50, 48, 52, 57, 48, 49, 48, 49, 48, 48, 48, 48, 48, 48, 90] (lt_lit rfl) (by decide) ⟨#[50, 48, 52, 57, 48, 49, 48, 49, 48, 48, 48, 48, 48, 48, 90]⟩ rfl 0 0 0 0 0 0 11 (noG (by decide +kernel)) K17.out.t).mono ?_
  rintro e w18 ⟨rfl, hb⟩
  have K18 := kp K17 hb
  clear hb K17
  go_wp2_with (refine wpList_loadGg (by rfl) (.tmp 1) rfl rfl (rangeB (K18.out.k (g1, 23, tL 0 0 0 0 0 0) (by simp))) Tryd.underlying23 rfl infoTm ?_)
  refine (lof_at w18 23 (by decide) [57, 57, 49, 50, 51, 49, 50, 51, 53, 57, 90] (lt_lit rfl) (by decide) ⟨#[57, 57, 49, 50, 51, 49, 50, 51, 53, 57, 90]⟩ rfl 0 0 0 0 0 0 11 (noLen (by decide) (by decide)) K18.out.t).mono ?_
  rintro e w19 ⟨rfl, hb⟩
  have K19 := kp K18 hb
  clear hb K18
  go_wp2_with fail
  refine (at_at w19 86399 0 1 1 23 59 59 (by decide +kernel) (by decide +kernel) K19.out.t).mono ?_
  rintro e w20 ⟨rfl, hb⟩
  have K20 := kp K19 hb
  clear hb K19
  go_upto_region 12 with fail
  obtain ⟨g7, hg7⟩ : ∃ g, w20.heap.size = g := ⟨_, rfl⟩
  obtain ⟨w21, hw21⟩ : ∃ v, w20.alloc (.cells #[.int .i64 0, .int .i64 1, .int .i64 1, .int .i64 23, .int .i64 59, .int .i64 59] 23) = v := ⟨_, rfl⟩
  have hbk : Hid (Bk w21 g7 23 (tL 0 1 1 23 59 59)) := Lib.hid (by rw [← hw21, ← hg7]; exact Bk.new w20 _ (tL 0 1 1 23 59 59))
  have hb : Hid (Below w20.heap.size w20 w21) := Lib.hid (by rw [← hw21]; exact bel1 w20 _)
  have GE_g7 : Hid (w.heap.size ≤ g7) := Lib.hid (by rw [← hg7]; exact K20.out.b.size)
  rw [hw21, hg7]
  have K21 := kp K20 hb
  clear hb K20
  have Kn := kb K21 hbk
  clear hbk K21 hg7 hw21
  have K21 := Kn
  clear Kn
  go_wp2_with fail
  refine (atb_at w21 (-1) (by unfold I64; omega) (by omega)).mono ?_
  rintro e w22 ⟨rfl, hb⟩
  have K22 := kp K21 hb
  clear hb K21
  go_upto_region 13 with fail
  obtain ⟨g9, hg9⟩ : ∃ g, w22.heap.size = g := ⟨_, rfl⟩
  obtain ⟨w23, hw23⟩ : ∃ v, w22.alloc (.cells #[.int .i64 0, .int .i64 0, .int .i64 0, .int .i64 0, .int .i64 0, .int .i64 0] 23) = v := ⟨_, rfl⟩
  have hbk : Hid (Bk w23 g9 23 (tL 0 0 0 0 0 0)) := Lib.hid (by rw [← hw23, ← hg9]; exact Bk.new w22 _ (tL 0 0 0 0 0 0))
  have hb : Hid (Below w22.heap.size w22 w23) := Lib.hid (by rw [← hw23]; exact bel1 w22 _)
  have GE_g9 : Hid (w.heap.size ≤ g9) := Lib.hid (by rw [← hg9]; exact K22.out.b.size)
  rw [hw23, hg9]
  have K23 := kp K22 hb
  clear hb K22
  have Kn := kb K23 hbk
  clear hbk K23 hg9 hw23
  have K23 := Kn
  clear Kn
  go_wp2_with fail
  refine (secs_at w23 0 1 1 0 0 1 (by decide +kernel) 1 (by decide +kernel) K23.out.t).mono ?_
  rintro e w24 ⟨rfl, hb⟩
  have K24 := kp K23 hb
  clear hb K23
  go_wp2_with fail
  refine (secs_at w24 1 1 1 0 0 0 (by decide +kernel) 31622400 (by decide +kernel) K24.out.t).mono ?_
  rintro e w25 ⟨rfl, hb⟩
  have K25 := kp K24 hb
  clear hb K24
  go_wp2_with (first | (refine wpList_loadGg (by rfl) (.tmp 7) rfl rfl (rangeB (K25.out.k (g7, 23, tL 0 1 1 23 59 59) (by simp))) Tryd.underlying23 rfl infoTm ?_) | (refine wpList_loadGg (by rfl) (.tmp 1) rfl rfl (rangeB (K25.out.k (g1, 23, tL 0 0 0 0 0 0) (by simp))) Tryd.underlying23 rfl infoTm ?_))
  refine (textb_at w25 0 0 0 0 0 0 (by unfold I64; omega) (by decide +kernel) K25.out.t).mono ?_
  rintro e w26 ⟨rfl, hb⟩
  have K26 := kp K25 hb
  clear hb K25
  go_wp2_with (refine wpList_loadGg (by rfl) (.tmp 2) rfl rfl (rangeB (K26.out.k (g2, 23, tL 1999 12 31 23 59 59) (by simp))) Tryd.underlying23 rfl infoTm ?_)
  refine (text_at w26 1999 12 31 23 59 59 (by decide +kernel) ⟨#[49, 57, 57, 57, 45, 49, 50, 45, 51, 49, 84, 50, 51, 58, 53, 57, 58, 53, 57, 90]⟩ (by decide +kernel) K26.out.t).mono ?_
  rintro e w27 ⟨rfl, hb⟩
  have K27 := kp K26 hb
  clear hb K26
  go_wp2_with (refine wpList_loadGg (by rfl) (.tmp 1) rfl rfl (rangeB (K27.out.k (g1, 23, tL 0 0 0 0 0 0) (by simp))) Tryd.underlying23 rfl infoTm ?_)
  refine (parsed_at w27 [50, 48, 50, 52, 45, 48, 50, 45, 51, 48, 84, 48, 48, 58, 48, 48, 58, 48, 48, 90] (lt_lit rfl) (by decide) ⟨#[50, 48, 50, 52, 45, 48, 50, 45, 51, 48, 84, 48, 48, 58, 48, 48, 58, 48, 48, 90]⟩ rfl 0 0 0 0 0 0 6 (noX (by decide +kernel)) K27.out.t).mono ?_
  rintro e w28 ⟨rfl, hb⟩
  have K28 := kp K27 hb
  clear hb K27
  go_wp2_with (refine wpList_loadGg (by rfl) (.tmp 1) rfl rfl (rangeB (K28.out.k (g1, 23, tL 0 0 0 0 0 0) (by simp))) Tryd.underlying23 rfl infoTm ?_)
  refine (parsed_at w28 [50, 48, 50, 52, 45, 48, 50, 45, 50, 57, 84, 50, 52, 58, 48, 48, 58, 48, 48, 90] (lt_lit rfl) (by decide) ⟨#[50, 48, 50, 52, 45, 48, 50, 45, 50, 57, 84, 50, 52, 58, 48, 48, 58, 48, 48, 90]⟩ rfl 0 0 0 0 0 0 6 (noX (by decide +kernel)) K28.out.t).mono ?_
  rintro e w29 ⟨rfl, hb⟩
  have K29 := kp K28 hb
  clear hb K28
  go_wp2_with fail
  go_ret
  exact ⟨rfl, K29.out.b⟩
theorem lives_at (W : World) (hT : Env W) : Calls Tryd.prog 16 #[] W fun e w' => e = .returned (.bool true) ∧ Hid (Below W.heap.size W w') :=
  (lives10 W hT).mono fun _ _ ⟨h1, h2⟩ => ⟨h1, Lib.hid h2⟩
end Go.Proofs.YtecmgkmonehmfaaDoor.Tim
