/-
  Layer 3, the statement LengthsOrder: a greater length does not have fewer octets, and a greater element; its size is that of its parts; the examples of the chapter hold.
  Conditions: none.
-/
import Derived.Test.YtldnpkkimlnigaaLenV
namespace Go.Proofs.Ytldnpkkimlnigaa
open Go.RowKit

theorem szI_mono {p q : Nat} (h : p ≤ q) (hq : q ≤ 16777215) : szI (p : Int) ≤ szI (q : Int) := by
  rw [szI_of (by omega), szI_of hq]
  repeat (first | omega | split)
theorem szI_pos {p : Nat} (h : p ≤ 16777215) : 1 ≤ szI (p : Int) := by
  rw [szI_of h]
  repeat (first | omega | split)
theorem tot_bad {t : Int} (h : t < 1 ∨ 5 < t) (z : Int) : totI t z = 0 := by
  unfold totI
  by_cases h1 : t < 1
  · rw [if_pos h1]
  · rw [if_neg h1, if_pos (by omega)]
theorem tot_ok {t : Int} (h1 : 1 ≤ t) (h5 : t ≤ 5) {p : Nat} (hp : p ≤ 16777215) : totI t (p : Int) = t + (szI (p : Int) : Int) + (p : Int) := by
  have := szI_pos hp
  unfold totI
  rw [if_neg (by omega), if_neg (by omega), if_neg (by omega)]
theorem tot_neg {t : Int} (p : Nat) : totI t (-1 - (p : Int)) = 0 := by
  unfold totI
  split
  · rfl
  split
  · rfl
  · rw [if_pos (szI_zero.2 (by omega))]
set_option maxHeartbeats 1600000 in
set_option maxRecDepth 100000 in
theorem order_walk (x y : Nat) (tag : Int) (w : World) (_hx : x < 4294967296) (_hy : y < 4294967296) : Calls Try.prog 6 #[.int .u32 (x : Int), .int .u32 (y : Int), .int .i64 tag] w fun e w' => e = .returned (.bool true) ∧ Below w.heap.size w w' := by
  obtain ⟨a, ha⟩ : ∃ a, x % 16777216 = a := ⟨_, rfl⟩
  obtain ⟨b, hb⟩ : ∃ b, y % 16777216 = b := ⟨_, rfl⟩
  have ha1 : ((x : Int) % 16777216) = (a : Int) := by omega
  have hb1 : ((y : Int) % 16777216) = (b : Int) := by omega
  have ha2 : a ≤ 16777215 := by omega
  have hb2 : b ≤ 16777215 := by omega
  clear ha hb
  by_cases hab : b < a
  · skip
    by_cases ht : tag < 1 ∨ 5 < tag
    · have E1 := Lib.hid (tot_bad ht (b : Int))
      have E2 := Lib.hid (tot_bad ht (a : Int))
      rcases ht with ht | ht
      · go_enter Try.func6, Try.ntmps6
        go_wp2_with fail
        refine (total_any tag (b : Int) w).mono ?_
        rintro e w' ⟨rfl, rfl⟩
        rw [E1.out]
        go_wp2_with fail
        refine (total_any tag (a : Int) w).mono ?_
        rintro e w' ⟨rfl, rfl⟩
        rw [E2.out]
        go_wp2_with fail
        refine (lives1 w).mono ?_
        rintro e w1 ⟨rfl, hb⟩
        have B1 := Lib.hid hb
        clear hb
        go_wp2_with fail
        go_ret
        exact ⟨rfl, B1.out⟩
      · go_enter Try.func6, Try.ntmps6
        go_wp2_with fail
        refine (total_any tag (b : Int) w).mono ?_
        rintro e w' ⟨rfl, rfl⟩
        rw [E1.out]
        go_wp2_with fail
        refine (total_any tag (a : Int) w).mono ?_
        rintro e w' ⟨rfl, rfl⟩
        rw [E2.out]
        go_wp2_with fail
        refine (lives1 w).mono ?_
        rintro e w1 ⟨rfl, hb⟩
        have B1 := Lib.hid hb
        clear hb
        go_wp2_with fail
        go_ret
        exact ⟨rfl, B1.out⟩
    · have ht1 : 1 ≤ tag := by omega
      have ht5 : tag ≤ 5 := by omega
      have e1 := tot_ok ht1 ht5 (p := b) (by omega)
      have e2 := tot_ok ht1 ht5 (p := a) (by omega)
      have e3 := szI_mono (p := b) (q := a) (by omega) (by omega)
      have e4 := szI_le (a : Int)
      have E5 := Lib.hid (tot_neg (t := tag) b)
      obtain ⟨s1, hs1⟩ : ∃ s1, szI (b : Int) = s1 := ⟨_, rfl⟩
      obtain ⟨s2, hs2⟩ : ∃ s2, szI (a : Int) = s2 := ⟨_, rfl⟩
      rw [hs1] at e1 e3
      rw [hs2] at e2 e3 e4
      have E1 := Lib.hid e1
      have E2 := Lib.hid e2
      have S1 := Lib.hid hs1
      have S2 := Lib.hid hs2
      have hbq : ((b : Int) == (a : Int)) = (tag + (s1 : Int) + (b : Int) == tag + (s2 : Int) + (a : Int)) := by
        rw [Bool.eq_iff_iff, beq_iff_eq, beq_iff_eq]
        constructor
        · intro h
          have h' : b = a := by omega
          rw [h'] at hs1
          omega
        · intro h
          omega
      have hle : tag + (s1 : Int) + (b : Int) ≤ tag + (s2 : Int) + (a : Int) := by omega
      clear e1 e2 hs1 hs2 ht
      go_enter Try.func6, Try.ntmps6
      go_wp2_with fail
      refine (total_any tag (b : Int) w).mono ?_
      rintro e w' ⟨rfl, rfl⟩
      rw [E1.out]
      go_wp2_with fail
      refine (total_any tag (a : Int) w).mono ?_
      rintro e w' ⟨rfl, rfl⟩
      rw [E2.out]
      go_wp2_with fail
      refine (size_any (b : Int) w).mono ?_
      rintro e w' ⟨rfl, rfl⟩
      rw [S1.out]
      go_wp2_with fail
      refine (size_any (a : Int) w).mono ?_
      rintro e w' ⟨rfl, rfl⟩
      rw [S2.out]
      go_wp2_with fail
      refine (size_any (b : Int) w).mono ?_
      rintro e w' ⟨rfl, rfl⟩
      rw [S1.out]
      go_wp2_with fail
      refine (total_any tag (-1 - (b : Int)) w).mono ?_
      rintro e w' ⟨rfl, rfl⟩
      rw [E5.out]
      go_wp2_with fail
      refine (lives1 w).mono ?_
      rintro e w1 ⟨rfl, hb⟩
      have B1 := Lib.hid hb
      clear hb
      go_wp2_with fail
      go_ret
      exact ⟨rfl, B1.out⟩
  · have hab2 : a ≤ b := by omega
    clear hab
    by_cases ht : tag < 1 ∨ 5 < tag
    · have E1 := Lib.hid (tot_bad ht (a : Int))
      have E2 := Lib.hid (tot_bad ht (b : Int))
      rcases ht with ht | ht
      · go_enter Try.func6, Try.ntmps6
        go_wp2_with fail
        refine (total_any tag (a : Int) w).mono ?_
        rintro e w' ⟨rfl, rfl⟩
        rw [E1.out]
        go_wp2_with fail
        refine (total_any tag (b : Int) w).mono ?_
        rintro e w' ⟨rfl, rfl⟩
        rw [E2.out]
        go_wp2_with fail
        refine (lives1 w).mono ?_
        rintro e w1 ⟨rfl, hb⟩
        have B1 := Lib.hid hb
        clear hb
        go_wp2_with fail
        go_ret
        exact ⟨rfl, B1.out⟩
      · go_enter Try.func6, Try.ntmps6
        go_wp2_with fail
        refine (total_any tag (a : Int) w).mono ?_
        rintro e w' ⟨rfl, rfl⟩
        rw [E1.out]
        go_wp2_with fail
        refine (total_any tag (b : Int) w).mono ?_
        rintro e w' ⟨rfl, rfl⟩
        rw [E2.out]
        go_wp2_with fail
        refine (lives1 w).mono ?_
        rintro e w1 ⟨rfl, hb⟩
        have B1 := Lib.hid hb
        clear hb
        go_wp2_with fail
        go_ret
        exact ⟨rfl, B1.out⟩
    · have ht1 : 1 ≤ tag := by omega
      have ht5 : tag ≤ 5 := by omega
      have e1 := tot_ok ht1 ht5 (p := a) (by omega)
      have e2 := tot_ok ht1 ht5 (p := b) (by omega)
      have e3 := szI_mono (p := a) (q := b) (by omega) (by omega)
      have e4 := szI_le (b : Int)
      have E5 := Lib.hid (tot_neg (t := tag) a)
      obtain ⟨s1, hs1⟩ : ∃ s1, szI (a : Int) = s1 := ⟨_, rfl⟩
      obtain ⟨s2, hs2⟩ : ∃ s2, szI (b : Int) = s2 := ⟨_, rfl⟩
      rw [hs1] at e1 e3
      rw [hs2] at e2 e3 e4
      have E1 := Lib.hid e1
      have E2 := Lib.hid e2
      have S1 := Lib.hid hs1
      have S2 := Lib.hid hs2
      have hbq : ((a : Int) == (b : Int)) = (tag + (s1 : Int) + (a : Int) == tag + (s2 : Int) + (b : Int)) := by
        rw [Bool.eq_iff_iff, beq_iff_eq, beq_iff_eq]
        constructor
        · intro h
          have h' : a = b := by omega
          rw [h'] at hs1
          omega
        · intro h
          omega
      have hle : tag + (s1 : Int) + (a : Int) ≤ tag + (s2 : Int) + (b : Int) := by omega
      clear e1 e2 hs1 hs2 ht
      go_enter Try.func6, Try.ntmps6
      go_wp2_with fail
      refine (total_any tag (a : Int) w).mono ?_
      rintro e w' ⟨rfl, rfl⟩
      rw [E1.out]
      go_wp2_with fail
      refine (total_any tag (b : Int) w).mono ?_
      rintro e w' ⟨rfl, rfl⟩
      rw [E2.out]
      go_wp2_with fail
      refine (size_any (a : Int) w).mono ?_
      rintro e w' ⟨rfl, rfl⟩
      rw [S1.out]
      go_wp2_with fail
      refine (size_any (b : Int) w).mono ?_
      rintro e w' ⟨rfl, rfl⟩
      rw [S2.out]
      go_wp2_with fail
      refine (size_any (a : Int) w).mono ?_
      rintro e w' ⟨rfl, rfl⟩
      rw [S1.out]
      go_wp2_with fail
      refine (total_any tag (-1 - (a : Int)) w).mono ?_
      rintro e w' ⟨rfl, rfl⟩
      rw [E5.out]
      go_wp2_with fail
      refine (lives1 w).mono ?_
      rintro e w1 ⟨rfl, hb⟩
      have B1 := Lib.hid hb
      clear hb
      go_wp2_with fail
      go_ret
      exact ⟨rfl, B1.out⟩

open Go.ChangeShapes Go.WideShapes Go.ChangeAt
set_option maxRecDepth 100000 in
theorem lengthsOrder_lifted (os : Os) (started : os.Started) (H : Type) (enc : TypeId × Value → H) :
    ReturnsInHanded {} Try.checked os 6 .any (Rows.lengthsOrderSpec.pre6 enc Try.prog Try.f6 Rows.lengthsOrderRow.domain false) (Rows.lengthsOrderSpec.post enc Try.prog Try.f6 false true false false) := by
  refine returnsInHanded_of_change (C := Try.checked) x_own started (by kernel_rfl) Try.func6
    (ChangeSpec.witness6 (enc := enc) (C := Try.checked) false ⟨#[], #[.int .u32 0, .int .u32 0, .int .i64 0], []⟩ 8 (by kernel_rfl) (by kernel_rfl) (by kernel_rfl) (by kernel_rfl)) ?_
  intro W base args ds gs before hval0 hW hcnd _
  have hval : ∀ (j : Nat) t v, Try.f6.params[j]? = some t → args[j]? = some v → Value.okWide Try.prog W .any base t v := hval0
  have hW' := hW
  obtain ⟨p, q, hA0, hV, rfl, hfz, hnd⟩ := hW
  have hA : DataW.TrodAll enc Try.prog W 0 (fun _ => true) true Try.f6.params.toList args.toList ds p := hA0
  rw [Try.params6] at hA hval
  obtain ⟨v0, v1, v2, d0, d1, d2, p0, p1, p2, rfl, rfl, rfl, h0, h1, h2⟩ := trodAll_three hA
  obtain ⟨rfl, rfl⟩ := trodVars_none hV
  obtain ⟨x, rfl, hx⟩ := open_u32 (hval 0 _ v0 rfl rfl) h0
  obtain ⟨y, rfl, hy⟩ := open_u32 (hval 1 _ v1 rfl rfl) h1
  obtain ⟨z, rfl, _, _⟩ := open_i64 (hval 2 _ v2 rfl rfl) h2
  clear hA0 hval0
  refine (order_walk x y z W hx hy).mono fun e W' ⟨he, hb⟩ => ?_
  subst he
  exact ⟨_, rfl, law_post (tb := 4) x_laid (by decide +kernel) rfl rfl (by kernel_rfl) Try.underlying4 hW' hb⟩

/-- The statement. -/
theorem lengthsOrder_holds : Rows.LengthsOrderSaid :=
  OpenClaim.holds_of_wide 6 Try.f6 rfl rfl rfl rfl rfl rfl rfl ⟨rfl, rfl, rfl, rfl, rfl⟩ rfl rfl rfl rfl rfl (by kernel_rfl) Try.func6 (by kernel_rfl)
    (of_decide_eq_true (by kernel_rfl)) (by unfold Func.isWrapper; first | (rw [if_pos (by decide +kernel)]; kernel_rfl) | (rw [if_neg (by decide +kernel)]; exact ⟨rfl, rfl⟩))
    (fun os started H enc _ => lengthsOrder_lifted os started H enc)
end Go.Proofs.Ytldnpkkimlnigaa
