/-
  Layer 5, the statement ScalarsInts: the content octets of an integer are those of the definition, and are read as the integer again; so are the elements of an integer and an enumerated value; the examples of the chapter hold.
  Conditions: none.
-/
import Derived.Test.YtdmbkbgnlmiilaaSclR
namespace Go.Proofs.Ytdmbkbgnlmiilaa.Scl
open Go.RowKit

set_option maxHeartbeats 3200000 in
set_option maxRecDepth 100000 in
theorem ints_walk (z : Int) (w : World) (h1 : -9223372036854775808 ≤ z) (h2 : z < 9223372036854775808) : Calls Try.prog 3 #[.int .i64 z] w fun e w' => e = .returned (.bool true) ∧ Below w.heap.size w w' := by
  have hg := gi_put h1 h2
  have HP := Lib.hid (fun w => pint_any z w h1 h2)
  have HR := Lib.hid (fun w => rpint_any z w h1 h2)
  have HI := Lib.hid (fun w => int_any z w h1 h2)
  have HE := Lib.hid (fun w => enum_any z w h1 h2)
  unfold GiveN at HP
  unfold GiveB at HR
  have hlen := putI_len h1 h2
  obtain ⟨P, hP⟩ : ∃ P, putI z = P := ⟨_, rfl⟩
  rw [hP] at HP HR HI HE hg hlen
  obtain ⟨N, hN⟩ : ∃ N, P.length = N := ⟨_, rfl⟩
  rw [hN] at HP HR HI HE hlen
  have HN := Lib.hid hN
  have HO2 := Lib.hid (show oiV 0 2 false 0 2 P = z ∧ oiE 0 2 false 0 2 P = 0 from ⟨hg.2, hg.1⟩)
  have HO10 := Lib.hid (show oiV 0 10 false 0 10 P = z ∧ oiE 0 10 false 0 10 P = 0 from ⟨hg.2, hg.1⟩)
  have HO9 := Lib.hid (show oiV 0 2 false 0 10 P = 0 ∧ oiE 0 2 false 0 10 P = 9 from ⟨rfl, rfl⟩)
  have HG := Lib.hid hg
  have B0 := Lib.hid (Below.refl w.heap.size w)
  clear hP hN hg
  go_enter Try.func3, Try.ntmps3
  go_wp2_with fail
  refine (HP.out w).mono ?_
  rintro e w1 ⟨A1, rfl, hr, hb, _⟩
  have R1 := Lib.hid hr
  have B1 := bt B0 (Lib.hid hb)
  clear hb hr B0
  go_wp2_with fail
  refine (HR.out w1).mono ?_
  rintro e w2 ⟨A2, c2, rfl, hr, hc, hm, hb⟩
  have R1 := Lib.hid (R1.out.below hb)
  have R2 := Lib.hid hr
  clear hr
  have B2 := bt B1 (Lib.hid hb)
  clear hb B1
  go_wp2_with fail
  refine (same_ok A1 A2 P c2 N 0 w2 R1.out R2.out HN.out).mono ?_
  rintro e w' ⟨rfl, rfl⟩
  go_wp2_with fail
  refine (integer_ok A1 P N N z 0 w2 R1.out HN.out (Nat.le_refl _) (by unfold maxLen; omega) HG.out.2 HG.out.1).mono ?_
  rintro e w3 ⟨rfl, hb⟩
  have R1 := Lib.hid (R1.out.below hb)
  have R2 := Lib.hid (R2.out.below hb)
  have B3 := bt B2 (Lib.hid hb)
  clear hb B2
  go_wp2_with fail
  refine (HI.out w3).mono ?_
  rintro e w4 ⟨A3, rfl, hr, hb⟩
  have R1 := Lib.hid (R1.out.below hb)
  have R2 := Lib.hid (R2.out.below hb)
  have R3 := Lib.hid hr
  clear hr
  have B4 := bt B3 (Lib.hid hb)
  clear hb B3
  go_wp2_with fail
  refine (is_ok A3 A2 P 2 N c2 w4 R3.out R2.out HN.out).mono ?_
  rintro e w5 ⟨rfl, hb⟩
  have R1 := Lib.hid (R1.out.below hb)
  have R2 := Lib.hid (R2.out.below hb)
  have B5 := bt B4 (Lib.hid hb)
  clear hb B4
  go_wp2_with fail
  refine (HE.out w5).mono ?_
  rintro e w6 ⟨A4, rfl, hr, hb⟩
  have R1 := Lib.hid (R1.out.below hb)
  have R2 := Lib.hid (R2.out.below hb)
  have R4 := Lib.hid hr
  clear hr
  have B6 := bt B5 (Lib.hid hb)
  clear hb B5
  go_wp2_with fail
  refine (is_ok A4 A2 P 10 N c2 w6 R4.out R2.out HN.out).mono ?_
  rintro e w7 ⟨rfl, hb⟩
  have B7 := bt B6 (Lib.hid hb)
  clear hb B6
  go_wp2_with fail
  refine (HI.out w7).mono ?_
  rintro e w8 ⟨A5, rfl, hr, hb⟩
  have R5 := Lib.hid hr
  clear hr
  have B8 := bt B7 (Lib.hid hb)
  clear hb B7
  go_wp2_with fail
  refine (ofint_any 0 2 false A5 none P N N 0 0 w8 R5.out HN.out (Nat.le_refl _) (by unfold maxLen; omega)).mono ?_
  rintro e w9 ⟨rfl, hb⟩
  rw [HO2.out.1, HO2.out.2]
  have B9 := bt B8 (Lib.hid hb)
  clear hb B8
  go_wp2_with fail
  refine (HE.out w9).mono ?_
  rintro e w10 ⟨A6, rfl, hr, hb⟩
  have R6 := Lib.hid hr
  clear hr
  have B10 := bt B9 (Lib.hid hb)
  clear hb B9
  go_wp2_with fail
  refine (ofenum_any 0 10 false A6 none P N N 0 0 w10 R6.out HN.out (Nat.le_refl _) (by unfold maxLen; omega)).mono ?_
  rintro e w11 ⟨rfl, hb⟩
  rw [HO10.out.1, HO10.out.2]
  have B11 := bt B10 (Lib.hid hb)
  clear hb B10
  go_wp2_with fail
  refine (HI.out w11).mono ?_
  rintro e w12 ⟨A7, rfl, hr, hb⟩
  have R7 := Lib.hid hr
  clear hr
  have B12 := bt B11 (Lib.hid hb)
  clear hb B11
  go_wp2_with fail
  refine (ofenum_any 0 2 false A7 none P N N 0 0 w12 R7.out HN.out (Nat.le_refl _) (by unfold maxLen; omega)).mono ?_
  rintro e w13 ⟨rfl, hb⟩
  rw [HO9.out.1, HO9.out.2]
  have B13 := bt B12 (Lib.hid hb)
  clear hb B12
  go_wp2_with fail
  refine (lives1 w13).mono ?_
  rintro e w14 ⟨rfl, hb⟩
  have B14 := bt B13 (Lib.hid hb)
  clear hb B13
  go_wp2_with fail
  go_ret
  exact ⟨by simp, B14.out⟩

open Go.ChangeShapes Go.WideShapes Go.ChangeAt
set_option maxRecDepth 100000 in
theorem scalarsInts_lifted (os : Os) (started : os.Started) (H : Type) (enc : TypeId × Value → H) :
    ReturnsInHanded {} Try.checked os 3 .any (Rows.scalarsIntsSpec.pre6 enc Try.prog Try.f3 Rows.scalarsIntsRow.domain false) (Rows.scalarsIntsSpec.post enc Try.prog Try.f3 false true false false) := by
  refine returnsInHanded_of_change (C := Try.checked) x_own started (by kernel_rfl) Try.func3
    (ChangeSpec.witness6 (enc := enc) (C := Try.checked) false ⟨#[], #[.int .i64 0], []⟩ 8 (by kernel_rfl) (by kernel_rfl) (by kernel_rfl) (by kernel_rfl)) ?_
  intro W base args ds gs before hval0 hW hcnd _
  have hval : ∀ (j : Nat) t v, Try.f3.params[j]? = some t → args[j]? = some v → Value.okWide Try.prog W .any base t v := hval0
  have hW' := hW
  obtain ⟨p, q, hA0, hV, rfl, hfz, hnd⟩ := hW
  have hA : DataW.TrodAll enc Try.prog W 0 (fun _ => true) true Try.f3.params.toList args.toList ds p := hA0
  rw [Try.params3] at hA hval
  obtain ⟨v0, d0, rfl, rfl, h0⟩ := trodAll_one hA
  obtain ⟨rfl, rfl⟩ := trodVars_none hV
  obtain ⟨z, rfl, hz1, hz2⟩ := open_i64 (hval 0 _ v0 rfl rfl) h0
  clear hA0 hval0
  refine (ints_walk z W hz1 hz2).mono fun e W' ⟨he, hb⟩ => ?_
  subst he
  exact ⟨_, rfl, law_post (tb := 4) x_laid (by decide +kernel) rfl rfl (by kernel_rfl) Try.underlying4 hW' hb⟩

/-- The statement. -/
theorem scalarsInts_holds : Rows.ScalarsIntsSaid :=
  OpenClaim.holds_of_wide 3 Try.f3 rfl rfl rfl rfl rfl rfl rfl ⟨rfl, rfl, rfl, rfl, rfl⟩ rfl rfl rfl rfl rfl (by kernel_rfl) Try.func3 (by kernel_rfl)
    (of_decide_eq_true (by kernel_rfl)) (by unfold Func.isWrapper; first | (rw [if_pos (by decide +kernel)]; kernel_rfl) | (rw [if_neg (by decide +kernel)]; exact ⟨rfl, rfl⟩))
    (fun os started H enc _ => scalarsInts_lifted os started H enc)
end Go.Proofs.Ytdmbkbgnlmiilaa.Scl
