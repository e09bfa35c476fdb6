/-
  The statement NatsDivide: Div answers the quotient and the remainder, and quotient times divisor plus remainder is the number; the examples of the chapter hold.
  Conditions: none.
-/
import Derived.Test.YtenbknmpkdidoaaLives
import Derived.Test.YtenbknmpkdidoaaRow
import Derived.Test.YtenbknmpkdidoaaRefS
import Derived.Test.YtenbknmpkdidoaaRows
namespace Go.Proofs.Ytenbknmpkdidoaa
open Go.RowKit

theorem addL_of {a b : List Nat} (ha : Nat64 a) (hb : Nat64 b) : addL a b = limD (val a + val b) ∧ addE a b = limE (val a + val b) := by
  have hE : bothE a b = 0 := by unfold bothE; rw [checkE_of ha, checkE_of hb]; rfl
  exact ⟨if_pos hE, if_pos hE⟩
theorem divE_of {a : List Nat} (ha : Nat64 a) {y : Nat} (hy : y ≠ 0) : divE a y = 0 := by unfold divE; rw [checkE_of ha]; simp [hy]
theorem divE_zero {a : List Nat} (ha : Nat64 a) : divE a 0 = 1 := by unfold divE; rw [checkE_of ha]; rfl
theorem small64 {y : Nat} (h : y < 4294967296) : y < 256 ^ 64 := Nat.lt_of_lt_of_le h (by decide +kernel)
theorem dgs64_le {v : Nat} (h : v < 256 ^ 64) : (dgs 10 v).length ≤ 1000 := Nat.le_trans (dgs256_le h) (by omega)

set_option maxHeartbeats 3200000 in
theorem divide_walk (A : Option Addr) (l : List Nat) (c y : Nat) (w : World) (hA : Rb w A l) (hlc : l.length ≤ c) (hc : c ≤ maxLen) (hy : y < 4294967296) :
    Calls Try.prog 7 #[.agg #[.slice A l.length c], .int .u32 y] w fun e w' => e = .returned (.bool true) ∧ Below w.heap.size w w' := by
  have B0 : Hid (Below w.heap.size w (w.alloc (Obj.cells #[Value.slice A l.length c] 40))) := (Below.refl _ _).alloc (Nat.le_refl _) _
  have C0 := Lib.hid (nof_any A l c (w.alloc (Obj.cells #[Value.slice A l.length c] 40)) hlc hc (hA.below B0.out))
  have hn := numL_ok hA.2
  generalize numL l = n at C0 hn
  have HN := Lib.hid hn
  have hn64 : n.length ≤ 64 := hn.2.2
  clear hA hlc hc hn
  go_enter Try.func7, Try.ntmps7
  go_wp2_with fail
  refine C0.out.mono ?_
  rintro e w1 ⟨An, cn, rfl, rn, hn1, hn2, hb⟩
  have B1 := bt B0 (Lib.hid hb)
  have RN := Lib.hid rn
  have hm : n.length ≤ maxLen := Nat.le_trans hn1 hn2
  clear C0 B0 hb rn hn1 hn2
  by_cases h0 : y = 0
  · subst h0
    go_wp2_with fail
    refine (div_any An n cn 0 w1 hm RN.out (by omega)).mono ?_
    rw [divE_zero HN.out, if_neg (by decide), if_neg (by decide)]
    rintro e w2 ⟨X, rfl, _, hb⟩
    have B2 := bt B1 (Lib.hid hb)
    clear hb B1
    go_wp2_with fail
    refine (same_err X none 0 0 0 1 w2 (by decide)).mono ?_
    rintro e w3 ⟨rfl, hb⟩
    have B3 := bt B2 (Lib.hid hb)
    clear hb B2
    go_wp2_with fail
    refine (lives1 w3).mono ?_
    rintro e w4 ⟨rfl, hb⟩
    have B4 := bt B3 (Lib.hid hb)
    clear hb B3
    go_wp2_with fail
    go_ret
    exact ⟨rfl, B4.out⟩
  · have hyb : ((y : Int) == 0) = false := by simp; omega
    have HD := Lib.hid (divE_of HN.out h0)
    obtain ⟨q, hq⟩ : ∃ q, val n / y = q := ⟨_, rfl⟩
    obtain ⟨r, hr⟩ : ∃ r, val n % y = r := ⟨_, rfl⟩
    have hry : r < y := by rw [← hr]; exact Nat.mod_lt _ (by omega)
    have hsum : q * y + r = val n := by rw [← hq, ← hr, Nat.mul_comm]; exact Nat.div_add_mod _ _
    have hqv : q ≤ val n := by rw [← hq]; exact Nat.div_le_self _ _
    have hv := HN.out.lt
    have hq64 : q < 256 ^ 64 := Nat.lt_of_le_of_lt hqv hv
    have hqy : q * y < 256 ^ 64 := Nat.lt_of_le_of_lt (by omega) hv
    have HS := Lib.hid (And.intro hsum (And.intro hqv (And.intro hv (And.intro hq64 hqy))))
    have HQ := Lib.hid (And.intro hq hr)
    clear hq hr hsum hqv hv hq64 hqy
    go_wp2_with fail
    refine (div_any An n cn y w1 hm RN.out hy).mono ?_
    rw [HD.out, if_pos rfl, if_pos rfl, HQ.out.1, HQ.out.2]
    rintro e w2 ⟨X, rfl, rx, hb⟩
    have B12 := Lib.hid hb
    have B2 := bt B1 B12
    have RN2 := Lib.hid (RN.out.below B12.out)
    have RX := Lib.hid rx
    clear hb B1 rx B12 RN
    go_wp2_with fail
    refine (rof_any An n cn w2 (by omega) RN2.out).mono ?_
    rintro e w3 ⟨Y, cy, rfl, ry, _, _, hb⟩
    have B23 := Lib.hid hb
    have RY := Lib.hid ry
    clear hb ry
    go_wp2_with fail
    refine (rdiv_any Y (dgs 10 (val n)) cy y w3 (Nat.le_trans (dgs64_le HN.out.lt) (by omega)) RY.out (dgs_lt (by omega) _) (by omega) hy).mono ?_
    rw [vl_dgs (by omega), HQ.out.1, HQ.out.2]
    rintro e w4 ⟨Z, cz, rfl, rz, _, _, hb⟩
    have B24 := bt B23 (Lib.hid hb)
    have RZ := Lib.hid rz
    clear hb rz RY B23
    have hrr : ((r : Int) != r) = false := by simp
    have hge : (decide ((y : Int) ≤ r)) = false := by simp; omega
    go_wp2_with fail
    refine (same_ok X Z q cz w4 (RX.out.below B24.out) (dgs64_le HS.out.2.2.2.1) RZ.out).mono ?_
    rintro e w5 ⟨rfl, hb⟩
    have B25 := bt B24 (Lib.hid hb)
    clear hb RZ B24
    go_wp2_with fail
    refine (of_any y w5 (by omega)).mono ?_
    rintro e w6 ⟨Ay, rfl, ray, hb⟩
    have B26 := bt B25 (Lib.hid hb)
    have RAY := Lib.hid ray
    clear hb ray B25
    go_wp2_with fail
    refine (mul_any X Ay (dig q) (dig y) (dig q).length (dig y).length w6 (by have := (dig_length q 64).2 HS.out.2.2.2.1; unfold maxLen; omega) (by have := (dig_length y 64).2 (small64 hy); unfold maxLen; omega) (RX.out.below B26.out) RAY.out).mono ?_
    rw [(mulL_of (Nat64.of q HS.out.2.2.2.1) (Nat64.of y (small64 hy))).1, (mulL_of (Nat64.of q HS.out.2.2.2.1) (Nat64.of y (small64 hy))).2, val_dig, val_dig, limD_lt HS.out.2.2.2.2, limE_lt HS.out.2.2.2.2]
    intro e w7 h
    obtain ⟨P, rfl, rp, hb⟩ := h.hid
    have B27 := bt B26 hb
    clear h hb RAY B26
    go_wp2_with fail
    refine (of_any r w7 (by omega)).mono ?_
    rintro e w8 ⟨Ar, rfl, rar, hb⟩
    have B78 := Lib.hid hb
    have B28 := bt B27 B78
    have RAR := Lib.hid rar
    clear hb rar B27
    have hr64 : r < 4294967296 := by omega
    go_wp2_with fail
    refine (add_any P Ar (dig (q * y)) (dig r) (dig (q * y)).length (dig r).length w8 (by have := (dig_length (q * y) 64).2 HS.out.2.2.2.2; unfold maxLen; omega) (by have := (dig_length r 64).2 (small64 hr64); unfold maxLen; omega) (rp.out.below B78.out) RAR.out).mono ?_
    rw [(addL_of (Nat64.of (q * y) HS.out.2.2.2.2) (Nat64.of r (small64 hr64))).1, (addL_of (Nat64.of (q * y) HS.out.2.2.2.2) (Nat64.of r (small64 hr64))).2, val_dig, val_dig, HS.out.1, limD_lt HS.out.2.2.1, limE_lt HS.out.2.2.1, HN.out.dig]
    intro e w9 h
    obtain ⟨S, rfl, rs, hb⟩ := h.hid
    have B29 := bt B28 hb
    clear h hb RAR B28 B78 rp
    have s1 := run_str8 rs.out n.length
    have s2 := run_str8 (RN2.out.below B29.out) cn
    have hself : ((bstr n).toList == (bstr n).toList) = true := by rw [beq_iff_eq]
    have B9 := bt B2 B29
    clear B2 B29 rs RN2 RX
    go_wp2_with fail
    refine (lives1 w9).mono ?_
    rintro e w10 ⟨rfl, hb⟩
    have B10 := bt B9 (Lib.hid hb)
    clear hb B9
    go_wp2_with fail
    go_ret
    exact ⟨rfl, B10.out⟩

open Go.ChangeShapes Go.WideShapes Go.ChangeAt
set_option maxRecDepth 100000 in
theorem natsDivide_lifted (os : Os) (started : os.Started) (H : Type) (enc : TypeId × Value → H) :
    ReturnsInHanded {} Try.checked os 7 .any (Rows.natsDivideSpec.pre6 enc Try.prog Try.f7 Rows.natsDivideRow.domain false) (Rows.natsDivideSpec.post enc Try.prog Try.f7 false true false false) := by
  refine returnsInHanded_of_change (C := Try.checked) x_own started (by kernel_rfl) Try.func7
    (ChangeSpec.witness6 (enc := enc) (C := Try.checked) false ⟨#[], #[.agg #[.slice none 0 0], .int .u32 0], []⟩ 8 (by kernel_rfl) (by kernel_rfl) (by kernel_rfl) (by kernel_rfl)) ?_
  intro W base args ds gs before hval0 hW hcnd _
  have hval : ∀ (j : Nat) t v, Try.f7.params[j]? = some t → args[j]? = some v → Value.okWide Try.prog W .any base t v := hval0
  have hW' := hW
  obtain ⟨p, q, hA0, hV, rfl, hfz, hnd⟩ := hW
  have hA : DataW.TrodAll enc Try.prog W 0 (fun _ => true) true Try.f7.params.toList args.toList ds p := hA0
  rw [Try.params7] at hA hval
  obtain ⟨v0, v1, d0, d1, p0, p1, rfl, rfl, rfl, h0, h1⟩ := trodAll_two hA
  obtain ⟨rfl, rfl⟩ := trodVars_none hV
  obtain ⟨A0, l0, c0, rfl, hR0, hl0, hc0⟩ := open_num (hval 0 _ v0 rfl rfl) h0
  obtain ⟨x1, rfl, _, _, wf1⟩ := open_int Try.underlying33 (hval 1 _ v1 rfl rfl) h1
  simp [Lit.wf, IntKind.min, IntKind.max, IntKind.signed, IntKind.bits] at wf1
  clear hA0 hval0
  obtain ⟨y, rfl⟩ : ∃ y : Nat, x1 = (y : Int) := ⟨x1.toNat, by omega⟩
  refine (divide_walk A0 l0 c0 y W hR0 hl0 hc0 (by omega)).mono fun e W' ⟨he, hb⟩ => ?_
  subst he
  exact ⟨_, rfl, law_post (tb := 4) x_laid (by decide +kernel) rfl rfl (by kernel_rfl) Try.underlying4 hW' hb⟩

/-- The statement. -/
theorem natsDivide_holds : Rows.NatsDivideSaid :=
  OpenClaim.holds_of_wide 7 Try.f7 rfl rfl rfl rfl rfl rfl rfl ⟨rfl, rfl, rfl, rfl, rfl⟩ rfl rfl rfl rfl rfl (by kernel_rfl) Try.func7 (by kernel_rfl)
    (of_decide_eq_true (by kernel_rfl)) (by unfold Func.isWrapper; first | (rw [if_pos (by decide +kernel)]; kernel_rfl) | (rw [if_neg (by decide +kernel)]; exact ⟨rfl, rfl⟩))
    (fun os started H enc _ => natsDivide_lifted os started H enc)
end Go.Proofs.Ytenbknmpkdidoaa
