/-
  Layer 3, the statement LengthsGet: Get returns the length of the definition, or the first error; a length that it returns has exactly the octets that were read; the examples of the chapter hold.
  Conditions: none.
-/
import Derived.Test.YtldnpkkimlnigaaLenV
namespace Go.Proofs.Ytldnpkkimlnigaa
open Go.RowKit

set_option maxHeartbeats 1600000 in
set_option maxRecDepth 100000 in
theorem get_walk (A : Option Addr) (l : List Nat) (c : Nat) (w : World) (hA : Rb w A l) (hlc : l.length ≤ c) : Calls Try.prog 5 #[.slice A l.length c] w fun e w' => e = .returned (.bool true) ∧ Below w.heap.size w w' := by
  have HA := Lib.hid hA
  obtain ⟨N, hN⟩ : ∃ N, l.length = N := ⟨_, rfl⟩
  have HN := Lib.hid hN
  rw [hN] at hlc ⊢
  have HLC := Lib.hid hlc
  by_cases h1 : 10 < N
  · clear hA hN hlc
    go_enter Try.func5, Try.ntmps5
    go_wp2_with fail
    refine (lives1 w).mono ?_
    rintro e w1 ⟨rfl, hb⟩
    have B1 := Lib.hid hb
    clear hb
    go_wp2_with fail
    go_ret
    exact ⟨rfl, B1.out⟩
  obtain ⟨⟨n, s, f⟩, hq⟩ : ∃ q, getL l = q := ⟨_, rfl⟩
  have C1 := rget_any A l c w hA
  rw [hq, hN] at C1
  have HC := Lib.hid C1
  have HQ := Lib.hid hq
  clear C1 hq hA hN hlc
  by_cases h0 : f = 0
  · subst h0
    obtain ⟨hn, htk, hsl, hlen⟩ := getL_ok HA.out.2 HQ.out
    rw [HN.out] at hsl
    have hsc : s ≤ c := Nat.le_trans hsl HLC.out
    have P0 : ∀ w, Calls Try.prog 8 #[.int .i64 (n : Int)] w (GiveP w (putL n) 0) := by
      intro w
      have P1 := put_any (n : Int) w
      have e1 : putZ (n : Int) = putL n := by unfold putZ; rw [if_neg (by omega), if_neg (by omega), Int.toNat_natCast]
      have e2 : putE (n : Int) = 0 := by unfold putE; rw [if_neg (by omega), if_neg (by omega)]
      rw [e1, e2] at P1
      exact P1
    have HP := Lib.hid P0
    have HT := Lib.hid htk
    have HL := Lib.hid hlen
    have HSC := Lib.hid hsc
    clear htk hlen P0 hn
    go_enter Try.func5, Try.ntmps5
    go_wp2_with fail
    refine HC.out.mono ?_
    rintro e w1 ⟨rfl, hb⟩
    have B1 := Lib.hid hb
    clear hb HC
    go_wp2_with fail
    refine (read_ok A l c N n s 0 w1 HN.out HLC.out (HA.out.below B1.out) HQ.out).mono ?_
    rintro e w2 ⟨rfl, hb⟩
    have B2 := bt B1 (Lib.hid hb)
    clear hb B1
    go_wp2_with fail
    refine (HP.out w2).mono ?_
    rintro e w3 ⟨A3, rfl, r3, hb⟩
    rw [HL.out]
    have R3 := Lib.hid r3
    have B3 := bt B2 (Lib.hid hb)
    have RA := Lib.hid ((HA.out.below B3.out).take_ s)
    clear r3 hb B2
    go_wp2_with fail
    refine (same_ok A3 A (putL n) c s 0 w3 R3.out (by have := RA.out; rw [HT.out] at this; exact this) HL.out).mono ?_
    rintro e w' ⟨rfl, rfl⟩
    go_wp2_with fail
    refine (lives1 w3).mono ?_
    rintro e w4 ⟨rfl, hb⟩
    have B4 := bt B3 (Lib.hid hb)
    clear hb
    go_wp2_with fail
    go_ret
    exact ⟨rfl, B4.out⟩
  · have h2 : ((f : Int) != 0) = true := by simp; omega
    clear h0
    go_enter Try.func5, Try.ntmps5
    go_wp2_with fail
    refine HC.out.mono ?_
    rintro e w1 ⟨rfl, hb⟩
    have B1 := Lib.hid hb
    clear hb HC
    go_wp2_with fail
    refine (read_ok A l c N n s f w1 HN.out HLC.out (HA.out.below B1.out) HQ.out).mono ?_
    rintro e w2 ⟨rfl, hb⟩
    have B2 := bt B1 (Lib.hid hb)
    clear hb B1
    go_wp2_with fail
    refine (lives1 w2).mono ?_
    rintro e w3 ⟨rfl, hb⟩
    have B3 := bt B2 (Lib.hid hb)
    clear hb
    go_wp2_with fail
    go_ret
    exact ⟨rfl, B3.out⟩

open Go.ChangeShapes Go.WideShapes Go.ChangeAt
set_option maxRecDepth 100000 in
theorem lengthsGet_lifted (os : Os) (started : os.Started) (H : Type) (enc : TypeId × Value → H) :
    ReturnsInHanded {} Try.checked os 5 .any (Rows.lengthsGetSpec.pre6 enc Try.prog Try.f5 Rows.lengthsGetRow.domain false) (Rows.lengthsGetSpec.post enc Try.prog Try.f5 false true false false) := by
  refine returnsInHanded_of_change (C := Try.checked) x_own started (by kernel_rfl) Try.func5
    (ChangeSpec.witness6 (enc := enc) (C := Try.checked) false ⟨#[], #[.slice none 0 0], []⟩ 8 (by kernel_rfl) (by kernel_rfl) (by kernel_rfl) (by kernel_rfl)) ?_
  intro W base args ds gs before hval0 hW hcnd _
  have hval : ∀ (j : Nat) t v, Try.f5.params[j]? = some t → args[j]? = some v → Value.okWide Try.prog W .any base t v := hval0
  have hW' := hW
  obtain ⟨p, q, hA0, hV, rfl, hfz, hnd⟩ := hW
  have hA : DataW.TrodAll enc Try.prog W 0 (fun _ => true) true Try.f5.params.toList args.toList ds p := hA0
  rw [Try.params5] at hA hval
  obtain ⟨v0, d0, rfl, rfl, h0⟩ := trodAll_one hA
  obtain ⟨rfl, rfl⟩ := trodVars_none hV
  obtain ⟨A, l, c, rfl, hR, hlc, hc⟩ := open_bytes (hval 0 _ v0 rfl rfl) h0
  clear hA0 hval0
  refine (get_walk A l c W hR hlc).mono fun e W' ⟨he, hb⟩ => ?_
  subst he
  exact ⟨_, rfl, law_post (tb := 4) x_laid (by decide +kernel) rfl rfl (by kernel_rfl) Try.underlying4 hW' hb⟩

/-- The statement. -/
theorem lengthsGet_holds : Rows.LengthsGetSaid :=
  OpenClaim.holds_of_wide 5 Try.f5 rfl rfl rfl rfl rfl rfl rfl ⟨rfl, rfl, rfl, rfl, rfl⟩ rfl rfl rfl rfl rfl (by kernel_rfl) Try.func5 (by kernel_rfl)
    (of_decide_eq_true (by kernel_rfl)) (by unfold Func.isWrapper; first | (rw [if_pos (by decide +kernel)]; kernel_rfl) | (rw [if_neg (by decide +kernel)]; exact ⟨rfl, rfl⟩))
    (fun os started H enc _ => lengthsGet_lifted os started H enc)
end Go.Proofs.Ytldnpkkimlnigaa
