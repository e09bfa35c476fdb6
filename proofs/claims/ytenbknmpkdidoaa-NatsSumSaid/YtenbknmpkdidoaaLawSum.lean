/-
  The statement NatsSum: Add answers the sum and Sub the difference, or their errors; the examples of the chapter hold.
  Conditions: none.
-/
import Derived.Test.YtenbknmpkdidoaaLives
import Derived.Test.YtenbknmpkdidoaaRow
import Derived.Test.YtenbknmpkdidoaaRefS
import Derived.Test.YtenbknmpkdidoaaRows
import Derived.RegionTactic
namespace Go.Proofs.Ytenbknmpkdidoaa
open Go.RowKit

theorem dgs64_le4 {v : Nat} (h : v < 256 ^ 64) : (dgs 10 v).length ≤ 1000 := Nat.le_trans (dgs256_le h) (by omega)
theorem dgs65_le4 {u v : Nat} (h : u < 256 ^ 64) (k : v < 256 ^ 64) : (dgs 10 (u + v)).length ≤ 1000 :=
  Nat.le_trans (dgs256_le (k := 65) (by rw [Nat.pow_succ]; omega)) (by omega)
theorem addL_of' {a b : List Nat} (ha : Nat64 a) (hb : Nat64 b) : addL a b = limD (val a + val b) ∧ addE a b = limE (val a + val b) := by
  have hE : bothE a b = 0 := by unfold bothE; rw [checkE_of ha, checkE_of hb]; rfl
  exact ⟨if_pos hE, if_pos hE⟩
theorem subE_of' {a b : List Nat} (ha : Nat64 a) (hb : Nat64 b) : subE a b = if val a < val b then 1 else 0 := by
  have hE : bothE a b = 0 := by unfold bothE; rw [checkE_of ha, checkE_of hb]; rfl
  exact if_pos hE

set_option maxHeartbeats 8000000 in
theorem sum_walk (A B : Option Addr) (a b : List Nat) (c d : Nat) (w : World) (hA : Rb w A a) (hB : Rb w B b) (hac : a.length ≤ c) (hbd : b.length ≤ d) (hc : c ≤ maxLen) (hd : d ≤ maxLen) :
    Calls Try.prog 4 #[.agg #[.slice A a.length c], .agg #[.slice B b.length d]] w fun e w' => e = .returned (.bool true) ∧ Below w.heap.size w w' := by
  have B0 : Hid (Below w.heap.size w (((w.alloc (Obj.cells #[Value.slice A a.length c] 40)).alloc (Obj.cells #[Value.slice B b.length d] 40)).drew)) := (((Below.refl _ _).alloc (Nat.le_refl _) _).alloc (by simp) _).drew
  have CA := Lib.hid (fun (W : World) (h : Below w.heap.size w W) => nof_any A a c W hac hc (hA.below h))
  have CB := Lib.hid (fun (W : World) (h : Below w.heap.size w W) => nof_any B b d W hbd hd (hB.below h))
  have hn := Lib.hid (numL_ok hA.2)
  have hm := Lib.hid (numL_ok hB.2)
  generalize numL a = n at CA hn
  generalize numL b = m at CB hm
  have hn64 : n.length ≤ 64 := hn.out.2.2
  have hm64 : m.length ≤ 64 := hm.out.2.2
  clear hA hB hac hbd hc hd
  have hW1 : ((w.alloc (Obj.cells #[Value.slice A a.length c] 40)).alloc (Obj.cells #[Value.slice B b.length d] 40)).drew.cell? ⟨w.heap.size + 1, 0, none⟩ = some (.slice B b.length d) := by go_simp
  have HW1 := Lib.hid hW1
  clear hW1
  go_enter Try.func4, Try.ntmps4
  go_wp2_with fail
  refine wp_region_any (by kernel_rfl) ?_
  change wpAny _ _ _ _ _ _ _ (World.drew _)
  refine wpAny_ready (rs := [0, 2]) (by kernel_rfl) (by simp) ?_
  refine AllReady.cons rfl (fun K hK => ?_) (AllReady.cons rfl (fun K hK => ?_) AllReady.nil)
  · go_simp
    refine hK _ _ ?_
    clear hK K
    refine wpAny_ready (rs := [1, 2]) (by kernel_rfl) (by simp) ?_
    refine AllReady.cons rfl (fun K hK => ?_) (AllReady.cons rfl (fun K hK => ?_) AllReady.nil)
    · go_simp
      refine (CA.out _ B0.out).mono ?_
      rintro e w1 ⟨A1, c1, rfl, r1, h11, h12, hb⟩
      have hcell : w1.cell? ⟨w.heap.size + 1, 0, none⟩ = some (.slice B b.length d) := (hb.cell (by simp)).trans HW1.out
      have B1 := bt B0 (Lib.hid hb)
      have R1 := Lib.hid r1
      have H1 := Lib.hid (And.intro h11 h12)
      clear hb r1 h11 h12
      refine hK _ _ ?_
      clear hK K
      refine wpAny_ready (rs := [2]) (by kernel_rfl) (by simp) ?_
      refine AllReady.cons rfl (fun K hK => ?_) AllReady.nil
      go_simp
      refine hK _ _ ?_
      clear hK K
      refine wpAny_ready (rs := [3]) (by kernel_rfl) (by simp) ?_
      refine AllReady.cons rfl (fun K hK => ?_) AllReady.nil
      go_simp
      refine (CB.out _ B1.out).mono ?_
      rintro e w2 ⟨A2, c2, rfl, r2, h21, h22, hb⟩
      have B2 := bt B1 (Lib.hid hb)
      have R12 := Lib.hid (R1.out.below hb)
      have R2 := Lib.hid r2
      have H2 := Lib.hid (And.intro h21 h22)
      clear hb r2 h21 h22
      refine hK _ _ ?_
      clear hK K
      refine wpAny_ready (rs := [4]) (by kernel_rfl) (by simp) ?_
      refine AllReady.cons rfl (fun K hK => ?_) AllReady.nil
      go_simp
      refine hK _ _ ?_
      clear hK K
      refine wpAny_ready (rs := [5]) (by kernel_rfl) (by simp) ?_
      refine AllReady.cons rfl (fun K hK => ?_) AllReady.nil
      go_simp
      refine hK _ _ ?_
      clear hK K
      refine wpAny_done (by kernel_rfl) ?_ _
      clear hcell HW1 B0 B1 R1 CA CB
      go_wp2_with fail
      refine (rof_any A1 n c1 w2 (by omega) R12.out).mono ?_
      rintro e w3 ⟨Y1, y1, rfl, ry, _, _, hb⟩
      have B23 := Lib.hid hb
      have RY1 := Lib.hid ry
      clear hb ry
      go_wp2_with fail
      refine (rof_any A2 m c2 w3 (by omega) (R2.out.below B23.out)).mono ?_
      rintro e w4 ⟨Y2, y2, rfl, ry, _, _, hb⟩
      have B24 := bt B23 (Lib.hid hb)
      have RY14 := Lib.hid (RY1.out.below hb)
      have RY2 := Lib.hid ry
      clear hb ry RY1 B23
      have RY1 := RY14
      clear RY14
      go_wp2_with fail
      refine (add_any A1 A2 n m c1 c2 w4 (Nat.le_trans H1.out.1 H1.out.2) (Nat.le_trans H2.out.1 H2.out.2) (R12.out.below B24.out) (R2.out.below B24.out)).mono ?_
      rw [(addL_of' hn.out hm.out).1, (addL_of' hn.out hm.out).2]
      intro e w5 h
      obtain ⟨X, rfl, rx, hb⟩ := h.hid
      have B45 := Lib.hid hb.out
      clear h hb
      go_wp2_with fail
      refine (plus_any Y1 Y2 (dgs 10 (val n)) (dgs 10 (val m)) y1 y2 w5 (dgs64_le4 hn.out.lt) (dgs64_le4 hm.out.lt) (RY1.out.below B45.out) (RY2.out.below B45.out) (dgs_lt (by omega) _) (dgs_lt (by omega) _)).mono ?_
      rw [vl_dgs (by omega), vl_dgs (by omega)]
      rintro e w6 ⟨T1, t1, rfl, rt1, _, _, hb⟩
      have RT1 := Lib.hid rt1
      have B56 := Lib.hid hb
      have B46 := bt B45 B56
      clear hb rt1
      go_wp2_with fail
      refine (plus_any Y1 Y2 (dgs 10 (val n)) (dgs 10 (val m)) y1 y2 w6 (dgs64_le4 hn.out.lt) (dgs64_le4 hm.out.lt) (RY1.out.below B46.out) (RY2.out.below B46.out) (dgs_lt (by omega) _) (dgs_lt (by omega) _)).mono ?_
      rw [vl_dgs (by omega), vl_dgs (by omega)]
      rintro e w7 ⟨T2, t2, rfl, rt2, _, _, hb⟩
      have RT2 := Lib.hid rt2
      have B67 := Lib.hid hb
      clear hb rt2
      have HL := Lib.hid (dgs65_le4 hn.out.lt hm.out.lt)
      obtain ⟨V, hV⟩ : ∃ V, val n + val m = V := ⟨_, rfl⟩
      rw [hV] at RT1 RT2 rx HL ⊢
      clear hV
      go_wp2_with fail
      refine (fits_any T2 V t2 w7 HL.out RT2.out).mono ?_
      rintro e w8 ⟨rfl, hb⟩
      have B68 := bt B67 (Lib.hid hb)
      have RT18 := Lib.hid (RT1.out.below B68.out)
      have RX8 := Lib.hid (rx.out.below (bt B56 B68).out)
      have B48 := bt B46 B68
      clear hb RT1 RT2 rx B67 B68 B56 B45 B46
      by_cases hf : V < 256 ^ 64
      · rw [limD_lt hf] at RX8 ⊢
        rw [limE_lt hf]
        clear hf
        go_wp2_with fail
        refine (same_ok X T1 V t1 w8 RX8.out HL.out RT18.out).mono ?_
        rintro e wn ⟨rfl, hb⟩
        have B4n := bt B48 (Lib.hid hb)
        have B2n := bt B24 B4n
        clear hb B48 B24 RX8 RT18
        go_wp2_with fail
        have R1n := Lib.hid (R12.out.below B2n.out)
        have R2n := Lib.hid (R2.out.below B2n.out)
        clear R12 R2
        refine (sub_any A1 A2 n m c1 c2 wn H1.out.1 H2.out.1 H1.out.2 H2.out.2 R1n.out R2n.out).mono ?_
        rw [subE_of' hn.out hm.out]
        by_cases hlt : val n < val m
        · rw [if_pos hlt, if_neg (by decide)]
          have hcmp : cmpI (val n) (val m) = -1 := if_pos hlt
          have HC := Lib.hid hcmp
          clear hcmp hlt
          intro e wp h
          obtain ⟨X2, rfl, _, hb⟩ := h.hid
          have RY1p := Lib.hid (RY1.out.below ((bt B4n hb).out))
          have RY2p := Lib.hid (RY2.out.below ((bt B4n hb).out))
          have Bp := bt (bt B2 B2n) hb
          clear h hb B2n B4n RY1 RY2 B2 R1n R2n H1 H2
          go_wp2_with fail
          refine (rcmp_any Y1 Y2 (val n) (val m) y1 y2 wp (dgs64_le4 hn.out.lt) RY1p.out RY2p.out).mono ?_
          rw [HC.out]
          rintro e wq ⟨rfl, hb⟩
          have Bq := bt Bp (Lib.hid hb)
          clear hb Bp RY1p RY2p
          go_wp2_with fail
          refine (same_err X2 none 0 0 0 1 wq (by decide)).mono ?_
          rintro e wr ⟨rfl, hb⟩
          have Br := bt Bq (Lib.hid hb)
          clear hb Bq
          go_wp2_with fail
          refine (lives1 wr).mono ?_
          rintro e ws ⟨rfl, hb⟩
          have Bz := bt Br (Lib.hid hb)
          clear hb
          go_wp2_with fail
          go_ret
          exact ⟨rfl, Bz.out⟩
        · rw [if_neg hlt, if_pos rfl]
          have hcmp : cmpI (val n) (val m) = if val m < val n then 1 else 0 := if_neg hlt
          have hx : 0 ≤ cmpI (val n) (val m) ∧ cmpI (val n) (val m) ≤ 1 := by rw [hcmp]; split <;> decide
          obtain ⟨x, hxe⟩ : ∃ x, cmpI (val n) (val m) = x := ⟨_, rfl⟩
          rw [hxe] at hx
          obtain ⟨hx1, hx2⟩ := hx
          have HC := Lib.hid hxe
          have HLE := Lib.hid (show val m ≤ val n by omega)
          have HDL : Hid (val n - val m < 256 ^ 64) := Nat.lt_of_le_of_lt (Nat.sub_le _ _) hn.out.lt
          clear hcmp hlt hxe
          intro e wp h
          obtain ⟨X2, rfl, rx2, hb⟩ := h.hid
          have RY1p := Lib.hid (RY1.out.below ((bt B4n hb).out))
          have RY2p := Lib.hid (RY2.out.below ((bt B4n hb).out))
          have Bp := bt (bt B2 B2n) hb
          clear h hb B2n B4n RY1 RY2 B2 R1n R2n H1 H2
          go_wp2_with fail
          refine (rcmp_any Y1 Y2 (val n) (val m) y1 y2 wp (dgs64_le4 hn.out.lt) RY1p.out RY2p.out).mono ?_
          rw [HC.out]
          rintro e wq ⟨rfl, hb⟩
          have Bq := bt Bp (Lib.hid hb)
          have RX2q := Lib.hid (rx2.out.below hb)
          have RY1q := Lib.hid (RY1p.out.below hb)
          have RY2q := Lib.hid (RY2p.out.below hb)
          clear hb Bp RY1p RY2p rx2 HC
          go_wp2_with fail
          refine (minus_any Y1 Y2 (val n) (val m) y1 y2 wq (dgs64_le4 hn.out.lt) HLE.out RY1q.out RY2q.out).mono ?_
          generalize val n - val m = U at RX2q HDL ⊢
          rintro e wr ⟨Z, cz, rfl, rz, _, _, hb⟩
          have Br := bt Bq (Lib.hid hb)
          have RX2r := Lib.hid (RX2q.out.below hb)
          have RZ := Lib.hid rz
          clear hb Bq RX2q RY1q RY2q rz
          go_wp2_with fail
          refine (same_ok X2 Z U cz wr RX2r.out (dgs64_le4 HDL.out) RZ.out).mono ?_
          rintro e ws ⟨rfl, hb⟩
          have Bs := bt Br (Lib.hid hb)
          clear hb Br RX2r RZ
          go_wp2_with fail
          refine (lives1 ws).mono ?_
          rintro e wt ⟨rfl, hb⟩
          have Bz := bt Bs (Lib.hid hb)
          clear hb
          go_wp2_with fail
          go_ret
          exact ⟨rfl, Bz.out⟩
      · rw [limD_ge hf, limE_ge hf]
        clear hf
        go_wp2_with fail
        refine (same_err X T1 0 (dgs 10 V).length t1 3 w8 (by decide)).mono ?_
        rintro e wn ⟨rfl, hb⟩
        have B4n := bt B48 (Lib.hid hb)
        have B2n := bt B24 B4n
        clear hb B48 B24 RX8 RT18
        go_wp2_with fail
        have R1n := Lib.hid (R12.out.below B2n.out)
        have R2n := Lib.hid (R2.out.below B2n.out)
        clear R12 R2
        refine (sub_any A1 A2 n m c1 c2 wn H1.out.1 H2.out.1 H1.out.2 H2.out.2 R1n.out R2n.out).mono ?_
        rw [subE_of' hn.out hm.out]
        by_cases hlt : val n < val m
        · rw [if_pos hlt, if_neg (by decide)]
          have hcmp : cmpI (val n) (val m) = -1 := if_pos hlt
          have HC := Lib.hid hcmp
          clear hcmp hlt
          intro e wp h
          obtain ⟨X2, rfl, _, hb⟩ := h.hid
          have RY1p := Lib.hid (RY1.out.below ((bt B4n hb).out))
          have RY2p := Lib.hid (RY2.out.below ((bt B4n hb).out))
          have Bp := bt (bt B2 B2n) hb
          clear h hb B2n B4n RY1 RY2 B2 R1n R2n H1 H2
          go_wp2_with fail
          refine (rcmp_any Y1 Y2 (val n) (val m) y1 y2 wp (dgs64_le4 hn.out.lt) RY1p.out RY2p.out).mono ?_
          rw [HC.out]
          rintro e wq ⟨rfl, hb⟩
          have Bq := bt Bp (Lib.hid hb)
          clear hb Bp RY1p RY2p
          go_wp2_with fail
          refine (same_err X2 none 0 0 0 1 wq (by decide)).mono ?_
          rintro e wr ⟨rfl, hb⟩
          have Br := bt Bq (Lib.hid hb)
          clear hb Bq
          go_wp2_with fail
          refine (lives1 wr).mono ?_
          rintro e ws ⟨rfl, hb⟩
          have Bz := bt Br (Lib.hid hb)
          clear hb
          go_wp2_with fail
          go_ret
          exact ⟨rfl, Bz.out⟩
        · rw [if_neg hlt, if_pos rfl]
          have hcmp : cmpI (val n) (val m) = if val m < val n then 1 else 0 := if_neg hlt
          have hx : 0 ≤ cmpI (val n) (val m) ∧ cmpI (val n) (val m) ≤ 1 := by rw [hcmp]; split <;> decide
          obtain ⟨x, hxe⟩ : ∃ x, cmpI (val n) (val m) = x := ⟨_, rfl⟩
          rw [hxe] at hx
          obtain ⟨hx1, hx2⟩ := hx
          have HC := Lib.hid hxe
          have HLE := Lib.hid (show val m ≤ val n by omega)
          have HDL : Hid (val n - val m < 256 ^ 64) := Nat.lt_of_le_of_lt (Nat.sub_le _ _) hn.out.lt
          clear hcmp hlt hxe
          intro e wp h
          obtain ⟨X2, rfl, rx2, hb⟩ := h.hid
          have RY1p := Lib.hid (RY1.out.below ((bt B4n hb).out))
          have RY2p := Lib.hid (RY2.out.below ((bt B4n hb).out))
          have Bp := bt (bt B2 B2n) hb
          clear h hb B2n B4n RY1 RY2 B2 R1n R2n H1 H2
          go_wp2_with fail
          refine (rcmp_any Y1 Y2 (val n) (val m) y1 y2 wp (dgs64_le4 hn.out.lt) RY1p.out RY2p.out).mono ?_
          rw [HC.out]
          rintro e wq ⟨rfl, hb⟩
          have Bq := bt Bp (Lib.hid hb)
          have RX2q := Lib.hid (rx2.out.below hb)
          have RY1q := Lib.hid (RY1p.out.below hb)
          have RY2q := Lib.hid (RY2p.out.below hb)
          clear hb Bp RY1p RY2p rx2 HC
          go_wp2_with fail
          refine (minus_any Y1 Y2 (val n) (val m) y1 y2 wq (dgs64_le4 hn.out.lt) HLE.out RY1q.out RY2q.out).mono ?_
          generalize val n - val m = U at RX2q HDL ⊢
          rintro e wr ⟨Z, cz, rfl, rz, _, _, hb⟩
          have Br := bt Bq (Lib.hid hb)
          have RX2r := Lib.hid (RX2q.out.below hb)
          have RZ := Lib.hid rz
          clear hb Bq RX2q RY1q RY2q rz
          go_wp2_with fail
          refine (same_ok X2 Z U cz wr RX2r.out (dgs64_le4 HDL.out) RZ.out).mono ?_
          rintro e ws ⟨rfl, hb⟩
          have Bs := bt Br (Lib.hid hb)
          clear hb Br RX2r RZ
          go_wp2_with fail
          refine (lives1 ws).mono ?_
          rintro e wt ⟨rfl, hb⟩
          have Bz := bt Bs (Lib.hid hb)
          clear hb
          go_wp2_with fail
          go_ret
          exact ⟨rfl, Bz.out⟩
    · go_simp
      refine hK _ _ ?_
      clear hK K
      refine wpAny_ready (rs := [1]) (by kernel_rfl) (by simp) ?_
      refine AllReady.cons rfl (fun K hK => ?_) AllReady.nil
      go_simp
      refine (CA.out _ B0.out).mono ?_
      rintro e w1 ⟨A1, c1, rfl, r1, h11, h12, hb⟩
      have hcell : w1.cell? ⟨w.heap.size + 1, 0, none⟩ = some (.slice B b.length d) := (hb.cell (by simp)).trans HW1.out
      have B1 := bt B0 (Lib.hid hb)
      have R1 := Lib.hid r1
      have H1 := Lib.hid (And.intro h11 h12)
      clear hb r1 h11 h12
      refine hK _ _ ?_
      clear hK K
      refine wpAny_ready (rs := [3]) (by kernel_rfl) (by simp) ?_
      refine AllReady.cons rfl (fun K hK => ?_) AllReady.nil
      go_simp
      refine (CB.out _ B1.out).mono ?_
      rintro e w2 ⟨A2, c2, rfl, r2, h21, h22, hb⟩
      have B2 := bt B1 (Lib.hid hb)
      have R12 := Lib.hid (R1.out.below hb)
      have R2 := Lib.hid r2
      have H2 := Lib.hid (And.intro h21 h22)
      clear hb r2 h21 h22
      refine hK _ _ ?_
      clear hK K
      refine wpAny_ready (rs := [4]) (by kernel_rfl) (by simp) ?_
      refine AllReady.cons rfl (fun K hK => ?_) AllReady.nil
      go_simp
      refine hK _ _ ?_
      clear hK K
      refine wpAny_ready (rs := [5]) (by kernel_rfl) (by simp) ?_
      refine AllReady.cons rfl (fun K hK => ?_) AllReady.nil
      go_simp
      refine hK _ _ ?_
      clear hK K
      refine wpAny_done (by kernel_rfl) ?_ _
      clear hcell HW1 B0 B1 R1 CA CB
      go_wp2_with fail
      refine (rof_any A1 n c1 w2 (by omega) R12.out).mono ?_
      rintro e w3 ⟨Y1, y1, rfl, ry, _, _, hb⟩
      have B23 := Lib.hid hb
      have RY1 := Lib.hid ry
      clear hb ry
      go_wp2_with fail
      refine (rof_any A2 m c2 w3 (by omega) (R2.out.below B23.out)).mono ?_
      rintro e w4 ⟨Y2, y2, rfl, ry, _, _, hb⟩
      have B24 := bt B23 (Lib.hid hb)
      have RY14 := Lib.hid (RY1.out.below hb)
      have RY2 := Lib.hid ry
      clear hb ry RY1 B23
      have RY1 := RY14
      clear RY14
      go_wp2_with fail
      refine (add_any A1 A2 n m c1 c2 w4 (Nat.le_trans H1.out.1 H1.out.2) (Nat.le_trans H2.out.1 H2.out.2) (R12.out.below B24.out) (R2.out.below B24.out)).mono ?_
      rw [(addL_of' hn.out hm.out).1, (addL_of' hn.out hm.out).2]
      intro e w5 h
      obtain ⟨X, rfl, rx, hb⟩ := h.hid
      have B45 := Lib.hid hb.out
      clear h hb
      go_wp2_with fail
      refine (plus_any Y1 Y2 (dgs 10 (val n)) (dgs 10 (val m)) y1 y2 w5 (dgs64_le4 hn.out.lt) (dgs64_le4 hm.out.lt) (RY1.out.below B45.out) (RY2.out.below B45.out) (dgs_lt (by omega) _) (dgs_lt (by omega) _)).mono ?_
      rw [vl_dgs (by omega), vl_dgs (by omega)]
      rintro e w6 ⟨T1, t1, rfl, rt1, _, _, hb⟩
      have RT1 := Lib.hid rt1
      have B56 := Lib.hid hb
      have B46 := bt B45 B56
      clear hb rt1
      go_wp2_with fail
      refine (plus_any Y1 Y2 (dgs 10 (val n)) (dgs 10 (val m)) y1 y2 w6 (dgs64_le4 hn.out.lt) (dgs64_le4 hm.out.lt) (RY1.out.below B46.out) (RY2.out.below B46.out) (dgs_lt (by omega) _) (dgs_lt (by omega) _)).mono ?_
      rw [vl_dgs (by omega), vl_dgs (by omega)]
      rintro e w7 ⟨T2, t2, rfl, rt2, _, _, hb⟩
      have RT2 := Lib.hid rt2
      have B67 := Lib.hid hb
      clear hb rt2
      have HL := Lib.hid (dgs65_le4 hn.out.lt hm.out.lt)
      obtain ⟨V, hV⟩ : ∃ V, val n + val m = V := ⟨_, rfl⟩
      rw [hV] at RT1 RT2 rx HL ⊢
      clear hV
      go_wp2_with fail
      refine (fits_any T2 V t2 w7 HL.out RT2.out).mono ?_
      rintro e w8 ⟨rfl, hb⟩
      have B68 := bt B67 (Lib.hid hb)
      have RT18 := Lib.hid (RT1.out.below B68.out)
      have RX8 := Lib.hid (rx.out.below (bt B56 B68).out)
      have B48 := bt B46 B68
      clear hb RT1 RT2 rx B67 B68 B56 B45 B46
      by_cases hf : V < 256 ^ 64
      · rw [limD_lt hf] at RX8 ⊢
        rw [limE_lt hf]
        clear hf
        go_wp2_with fail
        refine (same_ok X T1 V t1 w8 RX8.out HL.out RT18.out).mono ?_
        rintro e wn ⟨rfl, hb⟩
        have B4n := bt B48 (Lib.hid hb)
        have B2n := bt B24 B4n
        clear hb B48 B24 RX8 RT18
        go_wp2_with fail
        have R1n := Lib.hid (R12.out.below B2n.out)
        have R2n := Lib.hid (R2.out.below B2n.out)
        clear R12 R2
        refine (sub_any A1 A2 n m c1 c2 wn H1.out.1 H2.out.1 H1.out.2 H2.out.2 R1n.out R2n.out).mono ?_
        rw [subE_of' hn.out hm.out]
        by_cases hlt : val n < val m
        · rw [if_pos hlt, if_neg (by decide)]
          have hcmp : cmpI (val n) (val m) = -1 := if_pos hlt
          have HC := Lib.hid hcmp
          clear hcmp hlt
          intro e wp h
          obtain ⟨X2, rfl, _, hb⟩ := h.hid
          have RY1p := Lib.hid (RY1.out.below ((bt B4n hb).out))
          have RY2p := Lib.hid (RY2.out.below ((bt B4n hb).out))
          have Bp := bt (bt B2 B2n) hb
          clear h hb B2n B4n RY1 RY2 B2 R1n R2n H1 H2
          go_wp2_with fail
          refine (rcmp_any Y1 Y2 (val n) (val m) y1 y2 wp (dgs64_le4 hn.out.lt) RY1p.out RY2p.out).mono ?_
          rw [HC.out]
          rintro e wq ⟨rfl, hb⟩
          have Bq := bt Bp (Lib.hid hb)
          clear hb Bp RY1p RY2p
          go_wp2_with fail
          refine (same_err X2 none 0 0 0 1 wq (by decide)).mono ?_
          rintro e wr ⟨rfl, hb⟩
          have Br := bt Bq (Lib.hid hb)
          clear hb Bq
          go_wp2_with fail
          refine (lives1 wr).mono ?_
          rintro e ws ⟨rfl, hb⟩
          have Bz := bt Br (Lib.hid hb)
          clear hb
          go_wp2_with fail
          go_ret
          exact ⟨rfl, Bz.out⟩
        · rw [if_neg hlt, if_pos rfl]
          have hcmp : cmpI (val n) (val m) = if val m < val n then 1 else 0 := if_neg hlt
          have hx : 0 ≤ cmpI (val n) (val m) ∧ cmpI (val n) (val m) ≤ 1 := by rw [hcmp]; split <;> decide
          obtain ⟨x, hxe⟩ : ∃ x, cmpI (val n) (val m) = x := ⟨_, rfl⟩
          rw [hxe] at hx
          obtain ⟨hx1, hx2⟩ := hx
          have HC := Lib.hid hxe
          have HLE := Lib.hid (show val m ≤ val n by omega)
          have HDL : Hid (val n - val m < 256 ^ 64) := Nat.lt_of_le_of_lt (Nat.sub_le _ _) hn.out.lt
          clear hcmp hlt hxe
          intro e wp h
          obtain ⟨X2, rfl, rx2, hb⟩ := h.hid
          have RY1p := Lib.hid (RY1.out.below ((bt B4n hb).out))
          have RY2p := Lib.hid (RY2.out.below ((bt B4n hb).out))
          have Bp := bt (bt B2 B2n) hb
          clear h hb B2n B4n RY1 RY2 B2 R1n R2n H1 H2
          go_wp2_with fail
          refine (rcmp_any Y1 Y2 (val n) (val m) y1 y2 wp (dgs64_le4 hn.out.lt) RY1p.out RY2p.out).mono ?_
          rw [HC.out]
          rintro e wq ⟨rfl, hb⟩
          have Bq := bt Bp (Lib.hid hb)
          have RX2q := Lib.hid (rx2.out.below hb)
          have RY1q := Lib.hid (RY1p.out.below hb)
          have RY2q := Lib.hid (RY2p.out.below hb)
          clear hb Bp RY1p RY2p rx2 HC
          go_wp2_with fail
          refine (minus_any Y1 Y2 (val n) (val m) y1 y2 wq (dgs64_le4 hn.out.lt) HLE.out RY1q.out RY2q.out).mono ?_
          generalize val n - val m = U at RX2q HDL ⊢
          rintro e wr ⟨Z, cz, rfl, rz, _, _, hb⟩
          have Br := bt Bq (Lib.hid hb)
          have RX2r := Lib.hid (RX2q.out.below hb)
          have RZ := Lib.hid rz
          clear hb Bq RX2q RY1q RY2q rz
          go_wp2_with fail
          refine (same_ok X2 Z U cz wr RX2r.out (dgs64_le4 HDL.out) RZ.out).mono ?_
          rintro e ws ⟨rfl, hb⟩
          have Bs := bt Br (Lib.hid hb)
          clear hb Br RX2r RZ
          go_wp2_with fail
          refine (lives1 ws).mono ?_
          rintro e wt ⟨rfl, hb⟩
          have Bz := bt Bs (Lib.hid hb)
          clear hb
          go_wp2_with fail
          go_ret
          exact ⟨rfl, Bz.out⟩
      · rw [limD_ge hf, limE_ge hf]
        clear hf
        go_wp2_with fail
        refine (same_err X T1 0 (dgs 10 V).length t1 3 w8 (by decide)).mono ?_
        rintro e wn ⟨rfl, hb⟩
        have B4n := bt B48 (Lib.hid hb)
        have B2n := bt B24 B4n
        clear hb B48 B24 RX8 RT18
        go_wp2_with fail
        have R1n := Lib.hid (R12.out.below B2n.out)
        have R2n := Lib.hid (R2.out.below B2n.out)
        clear R12 R2
        refine (sub_any A1 A2 n m c1 c2 wn H1.out.1 H2.out.1 H1.out.2 H2.out.2 R1n.out R2n.out).mono ?_
        rw [subE_of' hn.out hm.out]
        by_cases hlt : val n < val m
        · rw [if_pos hlt, if_neg (by decide)]
          have hcmp : cmpI (val n) (val m) = -1 := if_pos hlt
          have HC := Lib.hid hcmp
          clear hcmp hlt
          intro e wp h
          obtain ⟨X2, rfl, _, hb⟩ := h.hid
          have RY1p := Lib.hid (RY1.out.below ((bt B4n hb).out))
          have RY2p := Lib.hid (RY2.out.below ((bt B4n hb).out))
          have Bp := bt (bt B2 B2n) hb
          clear h hb B2n B4n RY1 RY2 B2 R1n R2n H1 H2
          go_wp2_with fail
          refine (rcmp_any Y1 Y2 (val n) (val m) y1 y2 wp (dgs64_le4 hn.out.lt) RY1p.out RY2p.out).mono ?_
          rw [HC.out]
          rintro e wq ⟨rfl, hb⟩
          have Bq := bt Bp (Lib.hid hb)
          clear hb Bp RY1p RY2p
          go_wp2_with fail
          refine (same_err X2 none 0 0 0 1 wq (by decide)).mono ?_
          rintro e wr ⟨rfl, hb⟩
          have Br := bt Bq (Lib.hid hb)
          clear hb Bq
          go_wp2_with fail
          refine (lives1 wr).mono ?_
          rintro e ws ⟨rfl, hb⟩
          have Bz := bt Br (Lib.hid hb)
          clear hb
          go_wp2_with fail
          go_ret
          exact ⟨rfl, Bz.out⟩
        · rw [if_neg hlt, if_pos rfl]
          have hcmp : cmpI (val n) (val m) = if val m < val n then 1 else 0 := if_neg hlt
          have hx : 0 ≤ cmpI (val n) (val m) ∧ cmpI (val n) (val m) ≤ 1 := by rw [hcmp]; split <;> decide
          obtain ⟨x, hxe⟩ : ∃ x, cmpI (val n) (val m) = x := ⟨_, rfl⟩
          rw [hxe] at hx
          obtain ⟨hx1, hx2⟩ := hx
          have HC := Lib.hid hxe
          have HLE := Lib.hid (show val m ≤ val n by omega)
          have HDL : Hid (val n - val m < 256 ^ 64) := Nat.lt_of_le_of_lt (Nat.sub_le _ _) hn.out.lt
          clear hcmp hlt hxe
          intro e wp h
          obtain ⟨X2, rfl, rx2, hb⟩ := h.hid
          have RY1p := Lib.hid (RY1.out.below ((bt B4n hb).out))
          have RY2p := Lib.hid (RY2.out.below ((bt B4n hb).out))
          have Bp := bt (bt B2 B2n) hb
          clear h hb B2n B4n RY1 RY2 B2 R1n R2n H1 H2
          go_wp2_with fail
          refine (rcmp_any Y1 Y2 (val n) (val m) y1 y2 wp (dgs64_le4 hn.out.lt) RY1p.out RY2p.out).mono ?_
          rw [HC.out]
          rintro e wq ⟨rfl, hb⟩
          have Bq := bt Bp (Lib.hid hb)
          have RX2q := Lib.hid (rx2.out.below hb)
          have RY1q := Lib.hid (RY1p.out.below hb)
          have RY2q := Lib.hid (RY2p.out.below hb)
          clear hb Bp RY1p RY2p rx2 HC
          go_wp2_with fail
          refine (minus_any Y1 Y2 (val n) (val m) y1 y2 wq (dgs64_le4 hn.out.lt) HLE.out RY1q.out RY2q.out).mono ?_
          generalize val n - val m = U at RX2q HDL ⊢
          rintro e wr ⟨Z, cz, rfl, rz, _, _, hb⟩
          have Br := bt Bq (Lib.hid hb)
          have RX2r := Lib.hid (RX2q.out.below hb)
          have RZ := Lib.hid rz
          clear hb Bq RX2q RY1q RY2q rz
          go_wp2_with fail
          refine (same_ok X2 Z U cz wr RX2r.out (dgs64_le4 HDL.out) RZ.out).mono ?_
          rintro e ws ⟨rfl, hb⟩
          have Bs := bt Br (Lib.hid hb)
          clear hb Br RX2r RZ
          go_wp2_with fail
          refine (lives1 ws).mono ?_
          rintro e wt ⟨rfl, hb⟩
          have Bz := bt Bs (Lib.hid hb)
          clear hb
          go_wp2_with fail
          go_ret
          exact ⟨rfl, Bz.out⟩
  · go_simp
    refine hK _ _ ?_
    clear hK K
    refine wpAny_ready (rs := [0]) (by kernel_rfl) (by simp) ?_
    refine AllReady.cons rfl (fun K hK => ?_) AllReady.nil
    go_simp
    refine hK _ _ ?_
    clear hK K
    refine wpAny_ready (rs := [1]) (by kernel_rfl) (by simp) ?_
    refine AllReady.cons rfl (fun K hK => ?_) AllReady.nil
    go_simp
    refine (CA.out _ B0.out).mono ?_
    rintro e w1 ⟨A1, c1, rfl, r1, h11, h12, hb⟩
    have hcell : w1.cell? ⟨w.heap.size + 1, 0, none⟩ = some (.slice B b.length d) := (hb.cell (by simp)).trans HW1.out
    have B1 := bt B0 (Lib.hid hb)
    have R1 := Lib.hid r1
    have H1 := Lib.hid (And.intro h11 h12)
    clear hb r1 h11 h12
    refine hK _ _ ?_
    clear hK K
    refine wpAny_ready (rs := [3]) (by kernel_rfl) (by simp) ?_
    refine AllReady.cons rfl (fun K hK => ?_) AllReady.nil
    go_simp
    refine (CB.out _ B1.out).mono ?_
    rintro e w2 ⟨A2, c2, rfl, r2, h21, h22, hb⟩
    have B2 := bt B1 (Lib.hid hb)
    have R12 := Lib.hid (R1.out.below hb)
    have R2 := Lib.hid r2
    have H2 := Lib.hid (And.intro h21 h22)
    clear hb r2 h21 h22
    refine hK _ _ ?_
    clear hK K
    refine wpAny_ready (rs := [4]) (by kernel_rfl) (by simp) ?_
    refine AllReady.cons rfl (fun K hK => ?_) AllReady.nil
    go_simp
    refine hK _ _ ?_
    clear hK K
    refine wpAny_ready (rs := [5]) (by kernel_rfl) (by simp) ?_
    refine AllReady.cons rfl (fun K hK => ?_) AllReady.nil
    go_simp
    refine hK _ _ ?_
    clear hK K
    refine wpAny_done (by kernel_rfl) ?_ _
    clear hcell HW1 B0 B1 R1 CA CB
    go_wp2_with fail
    refine (rof_any A1 n c1 w2 (by omega) R12.out).mono ?_
    rintro e w3 ⟨Y1, y1, rfl, ry, _, _, hb⟩
    have B23 := Lib.hid hb
    have RY1 := Lib.hid ry
    clear hb ry
    go_wp2_with fail
    refine (rof_any A2 m c2 w3 (by omega) (R2.out.below B23.out)).mono ?_
    rintro e w4 ⟨Y2, y2, rfl, ry, _, _, hb⟩
    have B24 := bt B23 (Lib.hid hb)
    have RY14 := Lib.hid (RY1.out.below hb)
    have RY2 := Lib.hid ry
    clear hb ry RY1 B23
    have RY1 := RY14
    clear RY14
    go_wp2_with fail
    refine (add_any A1 A2 n m c1 c2 w4 (Nat.le_trans H1.out.1 H1.out.2) (Nat.le_trans H2.out.1 H2.out.2) (R12.out.below B24.out) (R2.out.below B24.out)).mono ?_
    rw [(addL_of' hn.out hm.out).1, (addL_of' hn.out hm.out).2]
    intro e w5 h
    obtain ⟨X, rfl, rx, hb⟩ := h.hid
    have B45 := Lib.hid hb.out
    clear h hb
    go_wp2_with fail
    refine (plus_any Y1 Y2 (dgs 10 (val n)) (dgs 10 (val m)) y1 y2 w5 (dgs64_le4 hn.out.lt) (dgs64_le4 hm.out.lt) (RY1.out.below B45.out) (RY2.out.below B45.out) (dgs_lt (by omega) _) (dgs_lt (by omega) _)).mono ?_
    rw [vl_dgs (by omega), vl_dgs (by omega)]
    rintro e w6 ⟨T1, t1, rfl, rt1, _, _, hb⟩
    have RT1 := Lib.hid rt1
    have B56 := Lib.hid hb
    have B46 := bt B45 B56
    clear hb rt1
    go_wp2_with fail
    refine (plus_any Y1 Y2 (dgs 10 (val n)) (dgs 10 (val m)) y1 y2 w6 (dgs64_le4 hn.out.lt) (dgs64_le4 hm.out.lt) (RY1.out.below B46.out) (RY2.out.below B46.out) (dgs_lt (by omega) _) (dgs_lt (by omega) _)).mono ?_
    rw [vl_dgs (by omega), vl_dgs (by omega)]
    rintro e w7 ⟨T2, t2, rfl, rt2, _, _, hb⟩
    have RT2 := Lib.hid rt2
    have B67 := Lib.hid hb
    clear hb rt2
    have HL := Lib.hid (dgs65_le4 hn.out.lt hm.out.lt)
    obtain ⟨V, hV⟩ : ∃ V, val n + val m = V := ⟨_, rfl⟩
    rw [hV] at RT1 RT2 rx HL ⊢
    clear hV
    go_wp2_with fail
    refine (fits_any T2 V t2 w7 HL.out RT2.out).mono ?_
    rintro e w8 ⟨rfl, hb⟩
    have B68 := bt B67 (Lib.hid hb)
    have RT18 := Lib.hid (RT1.out.below B68.out)
    have RX8 := Lib.hid (rx.out.below (bt B56 B68).out)
    have B48 := bt B46 B68
    clear hb RT1 RT2 rx B67 B68 B56 B45 B46
    by_cases hf : V < 256 ^ 64
    · rw [limD_lt hf] at RX8 ⊢
      rw [limE_lt hf]
      clear hf
      go_wp2_with fail
      refine (same_ok X T1 V t1 w8 RX8.out HL.out RT18.out).mono ?_
      rintro e wn ⟨rfl, hb⟩
      have B4n := bt B48 (Lib.hid hb)
      have B2n := bt B24 B4n
      clear hb B48 B24 RX8 RT18
      go_wp2_with fail
      have R1n := Lib.hid (R12.out.below B2n.out)
      have R2n := Lib.hid (R2.out.below B2n.out)
      clear R12 R2
      refine (sub_any A1 A2 n m c1 c2 wn H1.out.1 H2.out.1 H1.out.2 H2.out.2 R1n.out R2n.out).mono ?_
      rw [subE_of' hn.out hm.out]
      by_cases hlt : val n < val m
      · rw [if_pos hlt, if_neg (by decide)]
        have hcmp : cmpI (val n) (val m) = -1 := if_pos hlt
        have HC := Lib.hid hcmp
        clear hcmp hlt
        intro e wp h
        obtain ⟨X2, rfl, _, hb⟩ := h.hid
        have RY1p := Lib.hid (RY1.out.below ((bt B4n hb).out))
        have RY2p := Lib.hid (RY2.out.below ((bt B4n hb).out))
        have Bp := bt (bt B2 B2n) hb
        clear h hb B2n B4n RY1 RY2 B2 R1n R2n H1 H2
        go_wp2_with fail
        refine (rcmp_any Y1 Y2 (val n) (val m) y1 y2 wp (dgs64_le4 hn.out.lt) RY1p.out RY2p.out).mono ?_
        rw [HC.out]
        rintro e wq ⟨rfl, hb⟩
        have Bq := bt Bp (Lib.hid hb)
        clear hb Bp RY1p RY2p
        go_wp2_with fail
        refine (same_err X2 none 0 0 0 1 wq (by decide)).mono ?_
        rintro e wr ⟨rfl, hb⟩
        have Br := bt Bq (Lib.hid hb)
        clear hb Bq
        go_wp2_with fail
        refine (lives1 wr).mono ?_
        rintro e ws ⟨rfl, hb⟩
        have Bz := bt Br (Lib.hid hb)
        clear hb
        go_wp2_with fail
        go_ret
        exact ⟨rfl, Bz.out⟩
      · rw [if_neg hlt, if_pos rfl]
        have hcmp : cmpI (val n) (val m) = if val m < val n then 1 else 0 := if_neg hlt
        have hx : 0 ≤ cmpI (val n) (val m) ∧ cmpI (val n) (val m) ≤ 1 := by rw [hcmp]; split <;> decide
        obtain ⟨x, hxe⟩ : ∃ x, cmpI (val n) (val m) = x := ⟨_, rfl⟩
        rw [hxe] at hx
        obtain ⟨hx1, hx2⟩ := hx
        have HC := Lib.hid hxe
        have HLE := Lib.hid (show val m ≤ val n by omega)
        have HDL : Hid (val n - val m < 256 ^ 64) := Nat.lt_of_le_of_lt (Nat.sub_le _ _) hn.out.lt
        clear hcmp hlt hxe
        intro e wp h
        obtain ⟨X2, rfl, rx2, hb⟩ := h.hid
        have RY1p := Lib.hid (RY1.out.below ((bt B4n hb).out))
        have RY2p := Lib.hid (RY2.out.below ((bt B4n hb).out))
        have Bp := bt (bt B2 B2n) hb
        clear h hb B2n B4n RY1 RY2 B2 R1n R2n H1 H2
        go_wp2_with fail
        refine (rcmp_any Y1 Y2 (val n) (val m) y1 y2 wp (dgs64_le4 hn.out.lt) RY1p.out RY2p.out).mono ?_
        rw [HC.out]
        rintro e wq ⟨rfl, hb⟩
        have Bq := bt Bp (Lib.hid hb)
        have RX2q := Lib.hid (rx2.out.below hb)
        have RY1q := Lib.hid (RY1p.out.below hb)
        have RY2q := Lib.hid (RY2p.out.below hb)
        clear hb Bp RY1p RY2p rx2 HC
        go_wp2_with fail
        refine (minus_any Y1 Y2 (val n) (val m) y1 y2 wq (dgs64_le4 hn.out.lt) HLE.out RY1q.out RY2q.out).mono ?_
        generalize val n - val m = U at RX2q HDL ⊢
        rintro e wr ⟨Z, cz, rfl, rz, _, _, hb⟩
        have Br := bt Bq (Lib.hid hb)
        have RX2r := Lib.hid (RX2q.out.below hb)
        have RZ := Lib.hid rz
        clear hb Bq RX2q RY1q RY2q rz
        go_wp2_with fail
        refine (same_ok X2 Z U cz wr RX2r.out (dgs64_le4 HDL.out) RZ.out).mono ?_
        rintro e ws ⟨rfl, hb⟩
        have Bs := bt Br (Lib.hid hb)
        clear hb Br RX2r RZ
        go_wp2_with fail
        refine (lives1 ws).mono ?_
        rintro e wt ⟨rfl, hb⟩
        have Bz := bt Bs (Lib.hid hb)
        clear hb
        go_wp2_with fail
        go_ret
        exact ⟨rfl, Bz.out⟩
    · rw [limD_ge hf, limE_ge hf]
      clear hf
      go_wp2_with fail
      refine (same_err X T1 0 (dgs 10 V).length t1 3 w8 (by decide)).mono ?_
      rintro e wn ⟨rfl, hb⟩
      have B4n := bt B48 (Lib.hid hb)
      have B2n := bt B24 B4n
      clear hb B48 B24 RX8 RT18
      go_wp2_with fail
      have R1n := Lib.hid (R12.out.below B2n.out)
      have R2n := Lib.hid (R2.out.below B2n.out)
      clear R12 R2
      refine (sub_any A1 A2 n m c1 c2 wn H1.out.1 H2.out.1 H1.out.2 H2.out.2 R1n.out R2n.out).mono ?_
      rw [subE_of' hn.out hm.out]
      by_cases hlt : val n < val m
      · rw [if_pos hlt, if_neg (by decide)]
        have hcmp : cmpI (val n) (val m) = -1 := if_pos hlt
        have HC := Lib.hid hcmp
        clear hcmp hlt
        intro e wp h
        obtain ⟨X2, rfl, _, hb⟩ := h.hid
        have RY1p := Lib.hid (RY1.out.below ((bt B4n hb).out))
        have RY2p := Lib.hid (RY2.out.below ((bt B4n hb).out))
        have Bp := bt (bt B2 B2n) hb
        clear h hb B2n B4n RY1 RY2 B2 R1n R2n H1 H2
        go_wp2_with fail
        refine (rcmp_any Y1 Y2 (val n) (val m) y1 y2 wp (dgs64_le4 hn.out.lt) RY1p.out RY2p.out).mono ?_
        rw [HC.out]
        rintro e wq ⟨rfl, hb⟩
        have Bq := bt Bp (Lib.hid hb)
        clear hb Bp RY1p RY2p
        go_wp2_with fail
        refine (same_err X2 none 0 0 0 1 wq (by decide)).mono ?_
        rintro e wr ⟨rfl, hb⟩
        have Br := bt Bq (Lib.hid hb)
        clear hb Bq
        go_wp2_with fail
        refine (lives1 wr).mono ?_
        rintro e ws ⟨rfl, hb⟩
        have Bz := bt Br (Lib.hid hb)
        clear hb
        go_wp2_with fail
        go_ret
        exact ⟨rfl, Bz.out⟩
      · rw [if_neg hlt, if_pos rfl]
        have hcmp : cmpI (val n) (val m) = if val m < val n then 1 else 0 := if_neg hlt
        have hx : 0 ≤ cmpI (val n) (val m) ∧ cmpI (val n) (val m) ≤ 1 := by rw [hcmp]; split <;> decide
        obtain ⟨x, hxe⟩ : ∃ x, cmpI (val n) (val m) = x := ⟨_, rfl⟩
        rw [hxe] at hx
        obtain ⟨hx1, hx2⟩ := hx
        have HC := Lib.hid hxe
        have HLE := Lib.hid (show val m ≤ val n by omega)
        have HDL : Hid (val n - val m < 256 ^ 64) := Nat.lt_of_le_of_lt (Nat.sub_le _ _) hn.out.lt
        clear hcmp hlt hxe
        intro e wp h
        obtain ⟨X2, rfl, rx2, hb⟩ := h.hid
        have RY1p := Lib.hid (RY1.out.below ((bt B4n hb).out))
        have RY2p := Lib.hid (RY2.out.below ((bt B4n hb).out))
        have Bp := bt (bt B2 B2n) hb
        clear h hb B2n B4n RY1 RY2 B2 R1n R2n H1 H2
        go_wp2_with fail
        refine (rcmp_any Y1 Y2 (val n) (val m) y1 y2 wp (dgs64_le4 hn.out.lt) RY1p.out RY2p.out).mono ?_
        rw [HC.out]
        rintro e wq ⟨rfl, hb⟩
        have Bq := bt Bp (Lib.hid hb)
        have RX2q := Lib.hid (rx2.out.below hb)
        have RY1q := Lib.hid (RY1p.out.below hb)
        have RY2q := Lib.hid (RY2p.out.below hb)
        clear hb Bp RY1p RY2p rx2 HC
        go_wp2_with fail
        refine (minus_any Y1 Y2 (val n) (val m) y1 y2 wq (dgs64_le4 hn.out.lt) HLE.out RY1q.out RY2q.out).mono ?_
        generalize val n - val m = U at RX2q HDL ⊢
        rintro e wr ⟨Z, cz, rfl, rz, _, _, hb⟩
        have Br := bt Bq (Lib.hid hb)
        have RX2r := Lib.hid (RX2q.out.below hb)
        have RZ := Lib.hid rz
        clear hb Bq RX2q RY1q RY2q rz
        go_wp2_with fail
        refine (same_ok X2 Z U cz wr RX2r.out (dgs64_le4 HDL.out) RZ.out).mono ?_
        rintro e ws ⟨rfl, hb⟩
        have Bs := bt Br (Lib.hid hb)
        clear hb Br RX2r RZ
        go_wp2_with fail
        refine (lives1 ws).mono ?_
        rintro e wt ⟨rfl, hb⟩
        have Bz := bt Bs (Lib.hid hb)
        clear hb
        go_wp2_with fail
        go_ret
        exact ⟨rfl, Bz.out⟩

open Go.ChangeShapes Go.WideShapes Go.ChangeAt
set_option maxRecDepth 100000 in
theorem natsSum_lifted (os : Os) (started : os.Started) (H : Type) (enc : TypeId × Value → H) :
    ReturnsInHanded {} Try.checked os 4 .any (Rows.natsSumSpec.pre6 enc Try.prog Try.f4 Rows.natsSumRow.domain false) (Rows.natsSumSpec.post enc Try.prog Try.f4 false true false false) := by
  refine returnsInHanded_of_change (C := Try.checked) x_own started (by kernel_rfl) Try.func4
    (ChangeSpec.witness6 (enc := enc) (C := Try.checked) false ⟨#[], #[.agg #[.slice none 0 0], .agg #[.slice none 0 0]], []⟩ 8 (by kernel_rfl) (by kernel_rfl) (by kernel_rfl) (by kernel_rfl)) ?_
  intro W base args ds gs before hval0 hW hcnd _
  have hval : ∀ (j : Nat) t v, Try.f4.params[j]? = some t → args[j]? = some v → Value.okWide Try.prog W .any base t v := hval0
  have hW' := hW
  obtain ⟨p, q, hA0, hV, rfl, hfz, hnd⟩ := hW
  have hA : DataW.TrodAll enc Try.prog W 0 (fun _ => true) true Try.f4.params.toList args.toList ds p := hA0
  rw [Try.params4] at hA hval
  obtain ⟨v0, v1, d0, d1, p0, p1, rfl, rfl, rfl, h0, h1⟩ := trodAll_two hA
  obtain ⟨rfl, rfl⟩ := trodVars_none hV
  obtain ⟨A0, l0, c0, rfl, hR0, hl0, hc0⟩ := open_num (hval 0 _ v0 rfl rfl) h0
  obtain ⟨A1, l1, c1, rfl, hR1, hl1, hc1⟩ := open_num (hval 1 _ v1 rfl rfl) h1
  clear hA0 hval0
  refine (sum_walk A0 A1 l0 l1 c0 c1 W hR0 hR1 hl0 hl1 hc0 hc1).mono fun e W' ⟨he, hb⟩ => ?_
  subst he
  exact ⟨_, rfl, law_post (tb := 4) x_laid (by decide +kernel) rfl rfl (by kernel_rfl) Try.underlying4 hW' hb⟩

/-- The statement. -/
theorem natsSum_holds : Rows.NatsSumSaid :=
  OpenClaim.holds_of_wide 4 Try.f4 rfl rfl rfl rfl rfl rfl rfl ⟨rfl, rfl, rfl, rfl, rfl⟩ rfl rfl rfl rfl rfl (by kernel_rfl) Try.func4 (by kernel_rfl)
    (of_decide_eq_true (by kernel_rfl)) (by unfold Func.isWrapper; first | (rw [if_pos (by decide +kernel)]; kernel_rfl) | (rw [if_neg (by decide +kernel)]; exact ⟨rfl, rfl⟩))
    (fun os started H enc _ => natsSum_lifted os started H enc)
end Go.Proofs.Ytenbknmpkdidoaa
