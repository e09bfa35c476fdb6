/-
  Layer 3, the statement LengthsPut: Put returns the octets of the definition, or the error; Size returns how many there are; the examples of the chapter hold.
  Conditions: none.
-/
import Derived.Test.YtldnpkkimlnigaaLenR
namespace Go.Proofs.Ytldnpkkimlnigaa
open Go.RowKit

theorem sz_putL {n : Nat} (h : n ≤ 16777215) : szI (n : Int) = (putL n).length := by
  unfold szI putL
  rw [if_neg (by omega), if_neg (by omega)]
  by_cases h1 : n < 128
  · rw [if_pos (by omega), if_pos h1]; rfl
  rw [if_neg (by omega), if_neg h1]
  by_cases h2 : n < 256
  · rw [if_pos (by omega), if_pos h2]; rfl
  rw [if_neg (by omega), if_neg h2]
  by_cases h3 : n < 65536
  · rw [if_pos (by omega), if_pos h3]; rfl
  · rw [if_neg (by omega), if_neg h3]; rfl
set_option maxHeartbeats 1600000 in
set_option maxRecDepth 100000 in
theorem put_walk (z : Int) (w : World) : Calls Try.prog 3 #[.int .i64 z] w fun e w' => e = .returned (.bool true) ∧ Below w.heap.size w w' := by
  by_cases h0 : z < 0
  · skip
    have P1 := put_any z w
    have e1 : putZ z = [] := by unfold putZ; rw [if_pos h0]
    have e2 : putE z = 1 := by unfold putE; rw [if_pos h0]
    have e3 : szI z = 0 := szI_zero.2 (by omega)
    rw [e1, e2] at P1
    have HP := Lib.hid P1
    have E3 := Lib.hid e3
    clear P1 e1 e2 e3
    go_enter Try.func3, Try.ntmps3
    go_wp2_with fail
    refine HP.out.mono ?_
    rintro e w1 ⟨A, rfl, r1, hb⟩
    have R1 := Lib.hid r1
    have B1 := Lib.hid hb
    clear r1 hb HP
    go_wp2_with fail
    refine (same_ok A none [] 0 0 1 w1 R1.out Rb.nil rfl).mono ?_
    rintro e w' ⟨rfl, rfl⟩
    go_wp2_with fail
    refine (size_any z w1).mono ?_
    rintro e w' ⟨rfl, rfl⟩
    rw [E3.out]
    go_wp2_with fail
    refine (lives1 w1).mono ?_
    rintro e w2 ⟨rfl, hb⟩
    have B2 := bt B1 (Lib.hid hb)
    clear hb
    go_wp2_with fail
    go_ret
    exact ⟨rfl, B2.out⟩
  by_cases h1 : 16777215 < z
  · skip
    have P1 := put_any z w
    have e1 : putZ z = [] := by unfold putZ; rw [if_neg h0, if_pos h1]
    have e2 : putE z = 3 := by unfold putE; rw [if_neg h0, if_pos h1]
    have e3 : szI z = 0 := szI_zero.2 (by omega)
    rw [e1, e2] at P1
    have HP := Lib.hid P1
    have E3 := Lib.hid e3
    clear P1 e1 e2 e3
    go_enter Try.func3, Try.ntmps3
    go_wp2_with fail
    refine HP.out.mono ?_
    rintro e w1 ⟨A, rfl, r1, hb⟩
    have R1 := Lib.hid r1
    have B1 := Lib.hid hb
    clear r1 hb HP
    go_wp2_with fail
    refine (same_ok A none [] 0 0 3 w1 R1.out Rb.nil rfl).mono ?_
    rintro e w' ⟨rfl, rfl⟩
    go_wp2_with fail
    refine (size_any z w1).mono ?_
    rintro e w' ⟨rfl, rfl⟩
    rw [E3.out]
    go_wp2_with fail
    refine (lives1 w1).mono ?_
    rintro e w2 ⟨rfl, hb⟩
    have B2 := bt B1 (Lib.hid hb)
    clear hb
    go_wp2_with fail
    go_ret
    exact ⟨rfl, B2.out⟩
  obtain ⟨n, rfl⟩ : ∃ n : Nat, z = (n : Int) := ⟨z.toNat, by omega⟩
  have hn : n ≤ 16777215 := by omega
  have P1 := put_any (n : Int) w
  have e1 : putZ (n : Int) = putL n := by unfold putZ; rw [if_neg (by omega), if_neg (by omega), Int.toNat_natCast]
  have e2 : putE (n : Int) = 0 := by unfold putE; rw [if_neg (by omega), if_neg (by omega)]
  rw [e1, e2] at P1
  have e3 := sz_putL hn
  obtain ⟨N, hN⟩ : ∃ N, (putL n).length = N := ⟨_, rfl⟩
  rw [hN] at e3
  have HP := Lib.hid P1
  have E3 := Lib.hid e3
  have HN := Lib.hid hN
  clear P1 e1 e2 e3 hN h0 h1
  go_enter Try.func3, Try.ntmps3
  go_wp2_with fail
  refine HP.out.mono ?_
  rintro e w1 ⟨A, rfl, r1, hb⟩
  rw [HN.out]
  have R1 := Lib.hid r1
  have B1 := Lib.hid hb
  clear r1 hb HP
  go_wp2_with fail
  refine (rput_any n w1 hn).mono ?_
  rintro e w2 ⟨A2, c2, rfl, r2, _, _, hb⟩
  rw [HN.out]
  have R2 := Lib.hid r2
  have R12 := Lib.hid (R1.out.below hb)
  have B2 := bt B1 (Lib.hid hb)
  clear r2 hb
  go_wp2_with fail
  refine (same_ok A A2 (putL n) c2 N 0 w2 R12.out R2.out HN.out).mono ?_
  rintro e w' ⟨rfl, rfl⟩
  go_wp2_with fail
  refine (size_any (n : Int) w2).mono ?_
  rintro e w' ⟨rfl, rfl⟩
  rw [E3.out]
  go_wp2_with fail
  refine (lives1 w2).mono ?_
  rintro e w3 ⟨rfl, hb⟩
  have B3 := bt B2 (Lib.hid hb)
  clear hb
  go_wp2_with fail
  go_ret
  exact ⟨rfl, B3.out⟩

open Go.ChangeShapes Go.WideShapes Go.ChangeAt
set_option maxRecDepth 100000 in
theorem lengthsPut_lifted (os : Os) (started : os.Started) (H : Type) (enc : TypeId × Value → H) :
    ReturnsInHanded {} Try.checked os 3 .any (Rows.lengthsPutSpec.pre6 enc Try.prog Try.f3 Rows.lengthsPutRow.domain false) (Rows.lengthsPutSpec.post enc Try.prog Try.f3 false true false false) := by
  refine returnsInHanded_of_change (C := Try.checked) x_own started (by kernel_rfl) Try.func3
    (ChangeSpec.witness6 (enc := enc) (C := Try.checked) false ⟨#[], #[.int .i64 0], []⟩ 8 (by kernel_rfl) (by kernel_rfl) (by kernel_rfl) (by kernel_rfl)) ?_
  intro W base args ds gs before hval0 hW hcnd _
  have hval : ∀ (j : Nat) t v, Try.f3.params[j]? = some t → args[j]? = some v → Value.okWide Try.prog W .any base t v := hval0
  have hW' := hW
  obtain ⟨p, q, hA0, hV, rfl, hfz, hnd⟩ := hW
  have hA : DataW.TrodAll enc Try.prog W 0 (fun _ => true) true Try.f3.params.toList args.toList ds p := hA0
  rw [Try.params3] at hA hval
  obtain ⟨v0, d0, rfl, rfl, h0⟩ := trodAll_one hA
  obtain ⟨rfl, rfl⟩ := trodVars_none hV
  obtain ⟨z, rfl, _, _⟩ := open_i64 (hval 0 _ v0 rfl rfl) h0
  clear hA0 hval0
  refine (put_walk z W).mono fun e W' ⟨he, hb⟩ => ?_
  subst he
  exact ⟨_, rfl, law_post (tb := 4) x_laid (by decide +kernel) rfl rfl (by kernel_rfl) Try.underlying4 hW' hb⟩

/-- The statement. -/
theorem lengthsPut_holds : Rows.LengthsPutSaid :=
  OpenClaim.holds_of_wide 3 Try.f3 rfl rfl rfl rfl rfl rfl rfl ⟨rfl, rfl, rfl, rfl, rfl⟩ rfl rfl rfl rfl rfl (by kernel_rfl) Try.func3 (by kernel_rfl)
    (of_decide_eq_true (by kernel_rfl)) (by unfold Func.isWrapper; first | (rw [if_pos (by decide +kernel)]; kernel_rfl) | (rw [if_neg (by decide +kernel)]; exact ⟨rfl, rfl⟩))
    (fun os started H enc _ => lengthsPut_lifted os started H enc)
end Go.Proofs.Ytldnpkkimlnigaa
