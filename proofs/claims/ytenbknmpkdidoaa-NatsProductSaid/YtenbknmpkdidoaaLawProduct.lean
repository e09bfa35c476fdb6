/-
  The statement NatsProduct: Mul answers the product, or ErrLimit; the examples of the chapter hold.
  Conditions: none.
-/
import Derived.Test.YtenbknmpkdidoaaLives
import Derived.Test.YtenbknmpkdidoaaRow
import Derived.Test.YtenbknmpkdidoaaRefS
import Derived.Test.YtenbknmpkdidoaaRows
import Derived.RegionTactic
namespace Go.Proofs.Ytenbknmpkdidoaa
open Go.RowKit

theorem dgs64_le3 {v : Nat} (h : v < 256 ^ 64) : (dgs 10 v).length ≤ 1000 := Nat.le_trans (dgs256_le h) (by omega)
theorem dgs128_le3 {u v : Nat} (h : u < 256 ^ 64) (k : v < 256 ^ 64) : (dgs 10 (u * v)).length ≤ 1000 :=
  Nat.le_trans (dgs256_le (k := 128) (by rw [show (256 : Nat) ^ 128 = 256 ^ 64 * 256 ^ 64 by rw [← Nat.pow_add]]; exact Nat.mul_lt_mul'' h k)) (by omega)

set_option maxHeartbeats 8000000 in
theorem product_walk (A B : Option Addr) (a b : List Nat) (c d : Nat) (w : World) (hA : Rb w A a) (hB : Rb w B b) (hac : a.length ≤ c) (hbd : b.length ≤ d) (hc : c ≤ maxLen) (hd : d ≤ maxLen) :
    Calls Try.prog 5 #[.agg #[.slice A a.length c], .agg #[.slice B b.length d]] w fun e w' => e = .returned (.bool true) ∧ Below w.heap.size w w' := by
  have B0 : Hid (Below w.heap.size w (((w.alloc (Obj.cells #[Value.slice A a.length c] 40)).alloc (Obj.cells #[Value.slice B b.length d] 40)).drew)) := (((Below.refl _ _).alloc (Nat.le_refl _) _).alloc (by simp) _).drew
  have CA := Lib.hid (fun (W : World) (h : Below w.heap.size w W) => nof_any A a c W hac hc (hA.below h))
  have CB := Lib.hid (fun (W : World) (h : Below w.heap.size w W) => nof_any B b d W hbd hd (hB.below h))
  have hn := Lib.hid (numL_ok hA.2)
  have hm := Lib.hid (numL_ok hB.2)
  generalize numL a = n at CA hn
  generalize numL b = m at CB hm
  have hn64 : n.length ≤ 64 := hn.out.2.2
  have hm64 : m.length ≤ 64 := hm.out.2.2
  clear hA hB hac hbd hc hd
  have hW1 : ((w.alloc (Obj.cells #[Value.slice A a.length c] 40)).alloc (Obj.cells #[Value.slice B b.length d] 40)).drew.cell? ⟨w.heap.size + 1, 0, none⟩ = some (.slice B b.length d) := by go_simp
  have HW1 := Lib.hid hW1
  clear hW1
  go_enter Try.func5, Try.ntmps5
  go_wp2_with fail
  refine wp_region_any (by kernel_rfl) ?_
  change wpAny _ _ _ _ _ _ _ (World.drew _)
  refine wpAny_ready (rs := [0, 2]) (by kernel_rfl) (by simp) ?_
  refine AllReady.cons rfl (fun K hK => ?_) (AllReady.cons rfl (fun K hK => ?_) AllReady.nil)
  · go_simp
    refine hK _ _ ?_
    clear hK K
    refine wpAny_ready (rs := [1, 2]) (by kernel_rfl) (by simp) ?_
    refine AllReady.cons rfl (fun K hK => ?_) (AllReady.cons rfl (fun K hK => ?_) AllReady.nil)
    · go_simp
      refine (CA.out _ B0.out).mono ?_
      rintro e w1 ⟨A1, c1, rfl, r1, h11, h12, hb⟩
      have hcell : w1.cell? ⟨w.heap.size + 1, 0, none⟩ = some (.slice B b.length d) := (hb.cell (by simp)).trans HW1.out
      have B1 := bt B0 (Lib.hid hb)
      have R1 := Lib.hid r1
      have H1 := Lib.hid (And.intro h11 h12)
      clear hb r1 h11 h12
      refine hK _ _ ?_
      clear hK K
      refine wpAny_ready (rs := [2]) (by kernel_rfl) (by simp) ?_
      refine AllReady.cons rfl (fun K hK => ?_) AllReady.nil
      go_simp
      refine hK _ _ ?_
      clear hK K
      refine wpAny_ready (rs := [3]) (by kernel_rfl) (by simp) ?_
      refine AllReady.cons rfl (fun K hK => ?_) AllReady.nil
      go_simp
      refine (CB.out _ B1.out).mono ?_
      rintro e w2 ⟨A2, c2, rfl, r2, h21, h22, hb⟩
      have B2 := bt B1 (Lib.hid hb)
      have R12 := Lib.hid (R1.out.below hb)
      have R2 := Lib.hid r2
      have H2 := Lib.hid (And.intro h21 h22)
      clear hb r2 h21 h22
      refine hK _ _ ?_
      clear hK K
      refine wpAny_ready (rs := [4]) (by kernel_rfl) (by simp) ?_
      refine AllReady.cons rfl (fun K hK => ?_) AllReady.nil
      go_simp
      refine hK _ _ ?_
      clear hK K
      refine wpAny_ready (rs := [5]) (by kernel_rfl) (by simp) ?_
      refine AllReady.cons rfl (fun K hK => ?_) AllReady.nil
      go_simp
      refine hK _ _ ?_
      clear hK K
      refine wpAny_done (by kernel_rfl) ?_ _
      clear hcell HW1 B0 B1 R1 CA CB
      go_wp2_with fail
      refine (rof_any A1 n c1 w2 (by omega) R12.out).mono ?_
      rintro e w3 ⟨Y1, y1, rfl, ry, _, _, hb⟩
      have B23 := Lib.hid hb
      have RY1 := Lib.hid ry
      clear hb ry
      go_wp2_with fail
      refine (rof_any A2 m c2 w3 (by omega) (R2.out.below B23.out)).mono ?_
      rintro e w4 ⟨Y2, y2, rfl, ry, _, _, hb⟩
      have B24 := bt B23 (Lib.hid hb)
      have RY14 := Lib.hid (RY1.out.below hb)
      have RY2 := Lib.hid ry
      clear hb ry RY1 B23
      go_wp2_with fail
      refine (times_any Y1 Y2 (dgs 10 (val n)) (dgs 10 (val m)) y1 y2 w4 (dgs64_le3 hn.out.lt) (dgs64_le3 hm.out.lt) RY14.out RY2.out (dgs_lt (by omega) _) (dgs_lt (by omega) _)).mono ?_
      rw [vl_dgs (by omega), vl_dgs (by omega)]
      rintro e w5 ⟨T, ct, rfl, rt, _, _, hb⟩
      have RT := Lib.hid rt
      have B25 := bt B24 (Lib.hid hb)
      clear hb rt B24 RY14 RY2
      go_wp2_with fail
      refine (mul_any A1 A2 n m c1 c2 w5 (Nat.le_trans H1.out.1 H1.out.2) (Nat.le_trans H2.out.1 H2.out.2) (R12.out.below B25.out) (R2.out.below B25.out)).mono ?_
      rw [(mulL_of hn.out hm.out).1, (mulL_of hn.out hm.out).2]
      intro e w6 h
      obtain ⟨X, rfl, rx, hb⟩ := h.hid
      have RT6 := Lib.hid (RT.out.below hb.out)
      have B6 := bt (bt B2 B25) hb
      have HL := Lib.hid (dgs128_le3 hn.out.lt hm.out.lt)
      clear h hb RT B25 B2 R12 R2 H1 H2 hn hm
      generalize val n * val m = V at RT6 rx HL ⊢
      go_wp2_with fail
      refine (fits_any T V ct w6 HL.out RT6.out).mono ?_
      rintro e w7 ⟨rfl, hb⟩
      have B7 := bt B6 (Lib.hid hb)
      have RT7 := Lib.hid (RT6.out.below hb)
      have RX7 := Lib.hid (rx.out.below hb)
      clear hb B6 RT6 rx
      by_cases hf : V < 256 ^ 64
      · rw [limD_lt hf] at RX7 ⊢
        rw [limE_lt hf]
        clear hf
        go_wp2_with fail
        refine (same_ok X T V ct w7 RX7.out HL.out RT7.out).mono ?_
        rintro e w8 ⟨rfl, hb⟩
        have B8 := bt B7 (Lib.hid hb)
        clear hb B7
        go_wp2_with fail
        refine (lives1 w8).mono ?_
        rintro e w9 ⟨rfl, hb⟩
        have B9 := bt B8 (Lib.hid hb)
        clear hb B8
        go_wp2_with fail
        go_ret
        exact ⟨rfl, B9.out⟩
      · rw [limD_ge hf, limE_ge hf]
        clear hf
        go_wp2_with fail
        refine (same_err X T 0 (dgs 10 V).length ct 3 w7 (by decide)).mono ?_
        rintro e w8 ⟨rfl, hb⟩
        have B8 := bt B7 (Lib.hid hb)
        clear hb B7
        go_wp2_with fail
        refine (lives1 w8).mono ?_
        rintro e w9 ⟨rfl, hb⟩
        have B9 := bt B8 (Lib.hid hb)
        clear hb B8
        go_wp2_with fail
        go_ret
        exact ⟨rfl, B9.out⟩
    · go_simp
      refine hK _ _ ?_
      clear hK K
      refine wpAny_ready (rs := [1]) (by kernel_rfl) (by simp) ?_
      refine AllReady.cons rfl (fun K hK => ?_) AllReady.nil
      go_simp
      refine (CA.out _ B0.out).mono ?_
      rintro e w1 ⟨A1, c1, rfl, r1, h11, h12, hb⟩
      have hcell : w1.cell? ⟨w.heap.size + 1, 0, none⟩ = some (.slice B b.length d) := (hb.cell (by simp)).trans HW1.out
      have B1 := bt B0 (Lib.hid hb)
      have R1 := Lib.hid r1
      have H1 := Lib.hid (And.intro h11 h12)
      clear hb r1 h11 h12
      refine hK _ _ ?_
      clear hK K
      refine wpAny_ready (rs := [3]) (by kernel_rfl) (by simp) ?_
      refine AllReady.cons rfl (fun K hK => ?_) AllReady.nil
      go_simp
      refine (CB.out _ B1.out).mono ?_
      rintro e w2 ⟨A2, c2, rfl, r2, h21, h22, hb⟩
      have B2 := bt B1 (Lib.hid hb)
      have R12 := Lib.hid (R1.out.below hb)
      have R2 := Lib.hid r2
      have H2 := Lib.hid (And.intro h21 h22)
      clear hb r2 h21 h22
      refine hK _ _ ?_
      clear hK K
      refine wpAny_ready (rs := [4]) (by kernel_rfl) (by simp) ?_
      refine AllReady.cons rfl (fun K hK => ?_) AllReady.nil
      go_simp
      refine hK _ _ ?_
      clear hK K
      refine wpAny_ready (rs := [5]) (by kernel_rfl) (by simp) ?_
      refine AllReady.cons rfl (fun K hK => ?_) AllReady.nil
      go_simp
      refine hK _ _ ?_
      clear hK K
      refine wpAny_done (by kernel_rfl) ?_ _
      clear hcell HW1 B0 B1 R1 CA CB
      go_wp2_with fail
      refine (rof_any A1 n c1 w2 (by omega) R12.out).mono ?_
      rintro e w3 ⟨Y1, y1, rfl, ry, _, _, hb⟩
      have B23 := Lib.hid hb
      have RY1 := Lib.hid ry
      clear hb ry
      go_wp2_with fail
      refine (rof_any A2 m c2 w3 (by omega) (R2.out.below B23.out)).mono ?_
      rintro e w4 ⟨Y2, y2, rfl, ry, _, _, hb⟩
      have B24 := bt B23 (Lib.hid hb)
      have RY14 := Lib.hid (RY1.out.below hb)
      have RY2 := Lib.hid ry
      clear hb ry RY1 B23
      go_wp2_with fail
      refine (times_any Y1 Y2 (dgs 10 (val n)) (dgs 10 (val m)) y1 y2 w4 (dgs64_le3 hn.out.lt) (dgs64_le3 hm.out.lt) RY14.out RY2.out (dgs_lt (by omega) _) (dgs_lt (by omega) _)).mono ?_
      rw [vl_dgs (by omega), vl_dgs (by omega)]
      rintro e w5 ⟨T, ct, rfl, rt, _, _, hb⟩
      have RT := Lib.hid rt
      have B25 := bt B24 (Lib.hid hb)
      clear hb rt B24 RY14 RY2
      go_wp2_with fail
      refine (mul_any A1 A2 n m c1 c2 w5 (Nat.le_trans H1.out.1 H1.out.2) (Nat.le_trans H2.out.1 H2.out.2) (R12.out.below B25.out) (R2.out.below B25.out)).mono ?_
      rw [(mulL_of hn.out hm.out).1, (mulL_of hn.out hm.out).2]
      intro e w6 h
      obtain ⟨X, rfl, rx, hb⟩ := h.hid
      have RT6 := Lib.hid (RT.out.below hb.out)
      have B6 := bt (bt B2 B25) hb
      have HL := Lib.hid (dgs128_le3 hn.out.lt hm.out.lt)
      clear h hb RT B25 B2 R12 R2 H1 H2 hn hm
      generalize val n * val m = V at RT6 rx HL ⊢
      go_wp2_with fail
      refine (fits_any T V ct w6 HL.out RT6.out).mono ?_
      rintro e w7 ⟨rfl, hb⟩
      have B7 := bt B6 (Lib.hid hb)
      have RT7 := Lib.hid (RT6.out.below hb)
      have RX7 := Lib.hid (rx.out.below hb)
      clear hb B6 RT6 rx
      by_cases hf : V < 256 ^ 64
      · rw [limD_lt hf] at RX7 ⊢
        rw [limE_lt hf]
        clear hf
        go_wp2_with fail
        refine (same_ok X T V ct w7 RX7.out HL.out RT7.out).mono ?_
        rintro e w8 ⟨rfl, hb⟩
        have B8 := bt B7 (Lib.hid hb)
        clear hb B7
        go_wp2_with fail
        refine (lives1 w8).mono ?_
        rintro e w9 ⟨rfl, hb⟩
        have B9 := bt B8 (Lib.hid hb)
        clear hb B8
        go_wp2_with fail
        go_ret
        exact ⟨rfl, B9.out⟩
      · rw [limD_ge hf, limE_ge hf]
        clear hf
        go_wp2_with fail
        refine (same_err X T 0 (dgs 10 V).length ct 3 w7 (by decide)).mono ?_
        rintro e w8 ⟨rfl, hb⟩
        have B8 := bt B7 (Lib.hid hb)
        clear hb B7
        go_wp2_with fail
        refine (lives1 w8).mono ?_
        rintro e w9 ⟨rfl, hb⟩
        have B9 := bt B8 (Lib.hid hb)
        clear hb B8
        go_wp2_with fail
        go_ret
        exact ⟨rfl, B9.out⟩
  · go_simp
    refine hK _ _ ?_
    clear hK K
    refine wpAny_ready (rs := [0]) (by kernel_rfl) (by simp) ?_
    refine AllReady.cons rfl (fun K hK => ?_) AllReady.nil
    go_simp
    refine hK _ _ ?_
    clear hK K
    refine wpAny_ready (rs := [1]) (by kernel_rfl) (by simp) ?_
    refine AllReady.cons rfl (fun K hK => ?_) AllReady.nil
    go_simp
    refine (CA.out _ B0.out).mono ?_
    rintro e w1 ⟨A1, c1, rfl, r1, h11, h12, hb⟩
    have hcell : w1.cell? ⟨w.heap.size + 1, 0, none⟩ = some (.slice B b.length d) := (hb.cell (by simp)).trans HW1.out
    have B1 := bt B0 (Lib.hid hb)
    have R1 := Lib.hid r1
    have H1 := Lib.hid (And.intro h11 h12)
    clear hb r1 h11 h12
    refine hK _ _ ?_
    clear hK K
    refine wpAny_ready (rs := [3]) (by kernel_rfl) (by simp) ?_
    refine AllReady.cons rfl (fun K hK => ?_) AllReady.nil
    go_simp
    refine (CB.out _ B1.out).mono ?_
    rintro e w2 ⟨A2, c2, rfl, r2, h21, h22, hb⟩
    have B2 := bt B1 (Lib.hid hb)
    have R12 := Lib.hid (R1.out.below hb)
    have R2 := Lib.hid r2
    have H2 := Lib.hid (And.intro h21 h22)
    clear hb r2 h21 h22
    refine hK _ _ ?_
    clear hK K
    refine wpAny_ready (rs := [4]) (by kernel_rfl) (by simp) ?_
    refine AllReady.cons rfl (fun K hK => ?_) AllReady.nil
    go_simp
    refine hK _ _ ?_
    clear hK K
    refine wpAny_ready (rs := [5]) (by kernel_rfl) (by simp) ?_
    refine AllReady.cons rfl (fun K hK => ?_) AllReady.nil
    go_simp
    refine hK _ _ ?_
    clear hK K
    refine wpAny_done (by kernel_rfl) ?_ _
    clear hcell HW1 B0 B1 R1 CA CB
    go_wp2_with fail
    refine (rof_any A1 n c1 w2 (by omega) R12.out).mono ?_
    rintro e w3 ⟨Y1, y1, rfl, ry, _, _, hb⟩
    have B23 := Lib.hid hb
    have RY1 := Lib.hid ry
    clear hb ry
    go_wp2_with fail
    refine (rof_any A2 m c2 w3 (by omega) (R2.out.below B23.out)).mono ?_
    rintro e w4 ⟨Y2, y2, rfl, ry, _, _, hb⟩
    have B24 := bt B23 (Lib.hid hb)
    have RY14 := Lib.hid (RY1.out.below hb)
    have RY2 := Lib.hid ry
    clear hb ry RY1 B23
    go_wp2_with fail
    refine (times_any Y1 Y2 (dgs 10 (val n)) (dgs 10 (val m)) y1 y2 w4 (dgs64_le3 hn.out.lt) (dgs64_le3 hm.out.lt) RY14.out RY2.out (dgs_lt (by omega) _) (dgs_lt (by omega) _)).mono ?_
    rw [vl_dgs (by omega), vl_dgs (by omega)]
    rintro e w5 ⟨T, ct, rfl, rt, _, _, hb⟩
    have RT := Lib.hid rt
    have B25 := bt B24 (Lib.hid hb)
    clear hb rt B24 RY14 RY2
    go_wp2_with fail
    refine (mul_any A1 A2 n m c1 c2 w5 (Nat.le_trans H1.out.1 H1.out.2) (Nat.le_trans H2.out.1 H2.out.2) (R12.out.below B25.out) (R2.out.below B25.out)).mono ?_
    rw [(mulL_of hn.out hm.out).1, (mulL_of hn.out hm.out).2]
    intro e w6 h
    obtain ⟨X, rfl, rx, hb⟩ := h.hid
    have RT6 := Lib.hid (RT.out.below hb.out)
    have B6 := bt (bt B2 B25) hb
    have HL := Lib.hid (dgs128_le3 hn.out.lt hm.out.lt)
    clear h hb RT B25 B2 R12 R2 H1 H2 hn hm
    generalize val n * val m = V at RT6 rx HL ⊢
    go_wp2_with fail
    refine (fits_any T V ct w6 HL.out RT6.out).mono ?_
    rintro e w7 ⟨rfl, hb⟩
    have B7 := bt B6 (Lib.hid hb)
    have RT7 := Lib.hid (RT6.out.below hb)
    have RX7 := Lib.hid (rx.out.below hb)
    clear hb B6 RT6 rx
    by_cases hf : V < 256 ^ 64
    · rw [limD_lt hf] at RX7 ⊢
      rw [limE_lt hf]
      clear hf
      go_wp2_with fail
      refine (same_ok X T V ct w7 RX7.out HL.out RT7.out).mono ?_
      rintro e w8 ⟨rfl, hb⟩
      have B8 := bt B7 (Lib.hid hb)
      clear hb B7
      go_wp2_with fail
      refine (lives1 w8).mono ?_
      rintro e w9 ⟨rfl, hb⟩
      have B9 := bt B8 (Lib.hid hb)
      clear hb B8
      go_wp2_with fail
      go_ret
      exact ⟨rfl, B9.out⟩
    · rw [limD_ge hf, limE_ge hf]
      clear hf
      go_wp2_with fail
      refine (same_err X T 0 (dgs 10 V).length ct 3 w7 (by decide)).mono ?_
      rintro e w8 ⟨rfl, hb⟩
      have B8 := bt B7 (Lib.hid hb)
      clear hb B7
      go_wp2_with fail
      refine (lives1 w8).mono ?_
      rintro e w9 ⟨rfl, hb⟩
      have B9 := bt B8 (Lib.hid hb)
      clear hb B8
      go_wp2_with fail
      go_ret
      exact ⟨rfl, B9.out⟩

open Go.ChangeShapes Go.WideShapes Go.ChangeAt
set_option maxRecDepth 100000 in
theorem natsProduct_lifted (os : Os) (started : os.Started) (H : Type) (enc : TypeId × Value → H) :
    ReturnsInHanded {} Try.checked os 5 .any (Rows.natsProductSpec.pre6 enc Try.prog Try.f5 Rows.natsProductRow.domain false) (Rows.natsProductSpec.post enc Try.prog Try.f5 false true false false) := by
  refine returnsInHanded_of_change (C := Try.checked) x_own started (by kernel_rfl) Try.func5
    (ChangeSpec.witness6 (enc := enc) (C := Try.checked) false ⟨#[], #[.agg #[.slice none 0 0], .agg #[.slice none 0 0]], []⟩ 8 (by kernel_rfl) (by kernel_rfl) (by kernel_rfl) (by kernel_rfl)) ?_
  intro W base args ds gs before hval0 hW hcnd _
  have hval : ∀ (j : Nat) t v, Try.f5.params[j]? = some t → args[j]? = some v → Value.okWide Try.prog W .any base t v := hval0
  have hW' := hW
  obtain ⟨p, q, hA0, hV, rfl, hfz, hnd⟩ := hW
  have hA : DataW.TrodAll enc Try.prog W 0 (fun _ => true) true Try.f5.params.toList args.toList ds p := hA0
  rw [Try.params5] at hA hval
  obtain ⟨v0, v1, d0, d1, p0, p1, rfl, rfl, rfl, h0, h1⟩ := trodAll_two hA
  obtain ⟨rfl, rfl⟩ := trodVars_none hV
  obtain ⟨A0, l0, c0, rfl, hR0, hl0, hc0⟩ := open_num (hval 0 _ v0 rfl rfl) h0
  obtain ⟨A1, l1, c1, rfl, hR1, hl1, hc1⟩ := open_num (hval 1 _ v1 rfl rfl) h1
  clear hA0 hval0
  refine (product_walk A0 A1 l0 l1 c0 c1 W hR0 hR1 hl0 hl1 hc0 hc1).mono fun e W' ⟨he, hb⟩ => ?_
  subst he
  exact ⟨_, rfl, law_post (tb := 4) x_laid (by decide +kernel) rfl rfl (by kernel_rfl) Try.underlying4 hW' hb⟩

/-- The statement. -/
theorem natsProduct_holds : Rows.NatsProductSaid :=
  OpenClaim.holds_of_wide 5 Try.f5 rfl rfl rfl rfl rfl rfl rfl ⟨rfl, rfl, rfl, rfl, rfl⟩ rfl rfl rfl rfl rfl (by kernel_rfl) Try.func5 (by kernel_rfl)
    (of_decide_eq_true (by kernel_rfl)) (by unfold Func.isWrapper; first | (rw [if_pos (by decide +kernel)]; kernel_rfl) | (rw [if_neg (by decide +kernel)]; exact ⟨rfl, rfl⟩))
    (fun os started H enc _ => natsProduct_lifted os started H enc)
end Go.Proofs.Ytenbknmpkdidoaa
