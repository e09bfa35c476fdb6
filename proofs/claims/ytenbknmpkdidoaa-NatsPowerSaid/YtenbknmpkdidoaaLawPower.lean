/-
  The statement NatsPower: Pow answers the power, or ErrLimit, however large the exponent is; the examples of the chapter hold.
  Conditions: none.
-/
import Derived.Test.YtenbknmpkdidoaaLives
import Derived.Test.YtenbknmpkdidoaaRow
import Derived.Test.YtenbknmpkdidoaaRefS
import Derived.Test.YtenbknmpkdidoaaRows
namespace Go.Proofs.Ytenbknmpkdidoaa
open Go.RowKit

theorem dgs64_le' {v : Nat} (h : v < 256 ^ 64) : (dgs 10 v).length ≤ 1000 := Nat.le_trans (dgs256_le h) (by omega)
theorem dgs128_le {u v : Nat} (h : u < 256 ^ 64) (k : v < 256 ^ 64) : (dgs 10 (u * v)).length ≤ 1000 :=
  Nat.le_trans (dgs256_le (k := 128) (by rw [show (256 : Nat) ^ 128 = 256 ^ 64 * 256 ^ 64 by rw [← Nat.pow_add]]; exact Nat.mul_lt_mul'' h k)) (by omega)
theorem pow_small {v : Nat} (h : v ≤ 1) {k : Nat} (hk : 0 < k) : v ^ k = v := by
  rcases Nat.le_one_iff_eq_zero_or_eq_one.1 h with rfl | rfl
  · exact Nat.zero_pow hk
  · exact Nat.one_pow k

set_option maxHeartbeats 3200000 in
theorem power_neg (A : Option Addr) (l : List Nat) (c : Nat) (k : Int) (w : World) (hA : Rb w A l) (hlc : l.length ≤ c) (hc : c ≤ maxLen) (hk : k < 0) :
    Calls Try.prog 8 #[.agg #[.slice A l.length c], .int .i64 k] w fun e w' => e = .returned (.bool true) ∧ Below w.heap.size w w' := by
  have B0 : Hid (Below w.heap.size w (w.alloc (Obj.cells #[Value.slice A l.length c] 40))) := (Below.refl _ _).alloc (Nat.le_refl _) _
  have C0 := Lib.hid (nof_any A l c (w.alloc (Obj.cells #[Value.slice A l.length c] 40)) hlc hc (hA.below B0.out))
  have hn := numL_ok hA.2
  generalize numL l = n at C0 hn
  have HN := Lib.hid hn
  have hn64 : n.length ≤ 64 := hn.2.2
  clear hA hlc hc hn
  go_enter Try.func8, Try.ntmps8
  go_wp2_with fail
  refine C0.out.mono ?_
  rintro e w1 ⟨An, cn, rfl, rn, hn1, hn2, hb⟩
  have B1 := bt B0 (Lib.hid hb)
  have RN := Lib.hid rn
  have hm : n.length ≤ maxLen := Nat.le_trans hn1 hn2
  clear C0 B0 hb rn hn1 hn2
  go_wp2_with fail
  refine (pow_err An n cn k w1 hm RN.out (Or.inr hk)).mono ?_
  rw [checkE_of HN.out, if_pos rfl]
  intro e w2 h
  obtain ⟨X, rfl, _, hb⟩ := h.hid
  have B2 := bt B1 hb
  clear hb B1 h
  go_wp2_with fail
  refine (same_err X none 0 0 0 1 w2 (by decide)).mono ?_
  rintro e w3 ⟨rfl, hb⟩
  have B3 := bt B2 (Lib.hid hb)
  clear hb B2
  go_wp2_with fail
  refine (lives1 w3).mono ?_
  rintro e w4 ⟨rfl, hb⟩
  have B4 := bt B3 (Lib.hid hb)
  clear hb B3
  go_wp2_with fail
  go_ret
  exact ⟨rfl, B4.out⟩

set_option maxHeartbeats 3200000 in
theorem power_low (A : Option Addr) (l : List Nat) (c k : Nat) (w : World) (hA : Rb w A l) (hlc : l.length ≤ c) (hc : c ≤ maxLen) (hk : k ≤ maxLen) (h0 : 0 < k) (hcase : numL l = [] ∨ numL l = [1]) :
    Calls Try.prog 8 #[.agg #[.slice A l.length c], .int .i64 k] w fun e w' => e = .returned (.bool true) ∧ Below w.heap.size w w' := by
  have B0 : Hid (Below w.heap.size w (w.alloc (Obj.cells #[Value.slice A l.length c] 40))) := (Below.refl _ _).alloc (Nat.le_refl _) _
  have C0 := Lib.hid (nof_any A l c (w.alloc (Obj.cells #[Value.slice A l.length c] 40)) hlc hc (hA.below B0.out))
  have hn := numL_ok hA.2
  generalize numL l = n at C0 hn hcase
  have HN := Lib.hid hn
  have hn64 : n.length ≤ 64 := hn.2.2
  clear hA hlc hc hn
  obtain ⟨D, hD⟩ : ∃ D, limD (val n ^ k) = D := ⟨_, rfl⟩
  obtain ⟨E, hE⟩ : ∃ E, limE (val n ^ k) = E := ⟨_, rfl⟩
  have HDE := Lib.hid (And.intro hD hE)
  have HCASE := Lib.hid hcase
  clear hD hE hcase
  go_enter Try.func8, Try.ntmps8
  go_wp2_with fail
  refine C0.out.mono ?_
  rintro e w1 ⟨An, cn, rfl, rn, hn1, hn2, hb⟩
  have B1 := bt B0 (Lib.hid hb)
  have RN := Lib.hid rn
  have hcn := Lib.hid (And.intro hn1 hn2)
  clear C0 B0 hb rn hn1 hn2
  have hk' : (k : Int) ≤ 9223372036854775807 := by unfold maxLen at hk; omega
  go_wp2_with fail
  refine (pow_ok An n cn k w1 hk hcn.out.1 hcn.out.2 RN.out HN.out).mono ?_
  rw [HDE.out.1, HDE.out.2]
  intro e w2 h
  obtain ⟨X, rfl, rx, hb⟩ := h.hid
  have RN2 := Lib.hid (RN.out.below hb.out)
  have B2 := bt B1 hb
  clear hb B1 h RN
  have hv1 : val n ≤ 1 := by rcases HCASE.out with rfl | rfl <;> decide
  have hd : D = dig (val n) := by rw [← HDE.out.1, pow_small hv1 h0, limD_lt HN.out.lt]
  have he : E = 0 := by rw [← HDE.out.2, pow_small hv1 h0, limE_lt HN.out.lt]
  have hv64 := dgs64_le' HN.out.lt
  have hnl : n.length ≤ 80 := by omega
  subst hd
  subst he
  rcases HCASE.out with rfl | rfl
  · clear HDE HCASE
    go_wp2_with fail
    refine (rof_any An _ cn w2 hnl RN2.out).mono ?_
    rintro e w3 ⟨Y, cy, rfl, ry, _, _, hb⟩
    have RX3 := rx.out.below hb
    have B3 := bt B2 (Lib.hid hb)
    have RY := Lib.hid ry
    clear hb ry B2 rx RN2
    go_wp2_with fail
    refine (same_ok X Y _ cy w3 RX3 hv64 RY.out).mono ?_
    rintro e w4 ⟨rfl, hb⟩
    have B4 := bt B3 (Lib.hid hb)
    clear hb B3 RX3 RY
    go_wp2_with fail
    refine (lives1 w4).mono ?_
    rintro e w5 ⟨rfl, hb⟩
    have B5 := bt B4 (Lib.hid hb)
    clear hb B4
    go_wp2_with fail
    go_ret
    exact ⟨rfl, B5.out⟩
  · obtain ⟨b, off, rfl, hb, _, hcell⟩ := RN2.out.at_ (k := 0) (by simp)
    simp only [List.getElem_cons_zero, Nat.add_zero] at hcell
    clear HDE HCASE hb
    go_wp2_with fail
    refine (rof_any _ _ cn w2 hnl RN2.out).mono ?_
    rintro e w3 ⟨Y, cy, rfl, ry, _, _, hb⟩
    have RX3 := rx.out.below hb
    have B3 := bt B2 (Lib.hid hb)
    have RY := Lib.hid ry
    clear hb ry B2 rx RN2
    go_wp2_with fail
    refine (same_ok X Y _ cy w3 RX3 hv64 RY.out).mono ?_
    rintro e w4 ⟨rfl, hb⟩
    have B4 := bt B3 (Lib.hid hb)
    clear hb B3 RX3 RY
    go_wp2_with fail
    refine (lives1 w4).mono ?_
    rintro e w5 ⟨rfl, hb⟩
    have B5 := bt B4 (Lib.hid hb)
    clear hb B4
    go_wp2_with fail
    go_ret
    exact ⟨rfl, B5.out⟩

set_option maxHeartbeats 6400000 in
theorem power_zero (A : Option Addr) (l : List Nat) (c : Nat) (w : World) (hA : Rb w A l) (hlc : l.length ≤ c) (hc : c ≤ maxLen) :
    Calls Try.prog 8 #[.agg #[.slice A l.length c], .int .i64 0] w fun e w' => e = .returned (.bool true) ∧ Below w.heap.size w w' := by
  have B0 : Hid (Below w.heap.size w (w.alloc (Obj.cells #[Value.slice A l.length c] 40))) := (Below.refl _ _).alloc (Nat.le_refl _) _
  have C0 := Lib.hid (nof_any A l c (w.alloc (Obj.cells #[Value.slice A l.length c] 40)) hlc hc (hA.below B0.out))
  have hn := numL_ok hA.2
  generalize numL l = n at C0 hn
  have HN := Lib.hid hn
  have hn64 : n.length ≤ 64 := hn.2.2
  clear hA hlc hc hn
  obtain ⟨V, hV⟩ : ∃ V, 1 = V := ⟨_, rfl⟩
  have hV64 : V < 256 ^ 64 := by rw [← hV]; decide +kernel
  have HV := Lib.hid (And.intro hV hV64)
  have HV10 := Lib.hid (dgs64_le' hV64)
  clear hV hV64
  go_enter Try.func8, Try.ntmps8
  go_wp2_with fail
  refine C0.out.mono ?_
  rintro e w1 ⟨An, cn, rfl, rn, hn1, hn2, hb⟩
  have B1 := bt B0 (Lib.hid hb)
  have p0 := pow_ok An n cn 0 w1 (Nat.zero_le _) hn1 hn2 rn HN.out
  rw [Nat.pow_zero, HV.out.1, limD_lt HV.out.2, limE_lt HV.out.2] at p0
  have P0 := Lib.hid p0
  clear C0 B0 hb rn hn1 hn2 p0
  go_wp2_with fail
  refine P0.out.mono ?_
  intro e w2 h
  obtain ⟨X, rfl, rx, hb⟩ := h.hid
  have B2 := bt B1 hb
  clear hb B1 h P0
  go_wp2_with fail
  have q0 := small_any 1 w2 (by omega)
  rw [HV.out.1] at q0
  have q1 : Calls Try.prog 34 #[.int .i64 1] w2 (GiveI w2 (dgs 10 V)) := by rw [← HV.out.1] at q0 ⊢; exact q0
  have Q1 := Lib.hid q1
  clear q0 q1
  refine Q1.out.mono ?_
  rintro e w3 ⟨Y, cy, rfl, ry, hy1, hy2, hb⟩
  have B23 := Lib.hid hb
  have RY := Lib.hid ry
  clear hb ry hy1 hy2 Q1
  go_wp2_with fail
  go_loopw [8, 9] (fun v i wr => i = .int .i64 0 ∧ v = .slice Y (dgs 10 V).length cy ∧ Ri wr Y (dgs 10 V) ∧ Below w2.heap.size w2 wr) (fun _ _ _ => 0)
  case atStart => exact ⟨rfl, rfl, RY.out, B23.out⟩
  case round =>
    obtain ⟨rfl, rfl, hr, hbel⟩ := hrel
    have HR := Lib.hid hr
    have HBel := Lib.hid hbel
    clear hr hbel RY B23
    go_wp2_with fail
    refine (same_ok X Y V cy wr (rx.out.below HBel.out) HV10.out HR.out).mono ?_
    rintro e w7 ⟨rfl, hb⟩
    have B7 := bt (bt B2 HBel) (Lib.hid hb)
    clear hb
    go_wp2_with fail
    refine (lives1 w7).mono ?_
    rintro e w8 ⟨rfl, hb⟩
    have B8 := bt B7 (Lib.hid hb)
    clear hb B7
    go_wp2_with fail
    go_ret
    exact ⟨rfl, B8.out⟩
set_option maxHeartbeats 6400000 in
theorem power_one1 (A : Option Addr) (l : List Nat) (c k : Nat) (w : World) (hA : Rb w A l) (hlc : l.length ≤ c) (hc : c ≤ maxLen) (hk : k ≤ maxLen) (hkp : 0 < k) (x : Nat) (hx1 : x ≠ 1) (hcase : numL l = [x]) :
    Calls Try.prog 8 #[.agg #[.slice A l.length c], .int .i64 k] w fun e w' => e = .returned (.bool true) ∧ Below w.heap.size w w' := by
  have B0 : Hid (Below w.heap.size w (w.alloc (Obj.cells #[Value.slice A l.length c] 40))) := (Below.refl _ _).alloc (Nat.le_refl _) _
  have C0 := Lib.hid (nof_any A l c (w.alloc (Obj.cells #[Value.slice A l.length c] 40)) hlc hc (hA.below B0.out))
  have hn := numL_ok hA.2
  generalize numL l = n at C0 hn hcase
  have HN := Lib.hid hn
  have hn64 : n.length ≤ 64 := hn.2.2
  clear hA hlc hc hn
  obtain ⟨D, hD⟩ : ∃ D, limD (val n ^ k) = D := ⟨_, rfl⟩
  obtain ⟨E, hE⟩ : ∃ E, limE (val n ^ k) = E := ⟨_, rfl⟩
  have HDE := Lib.hid (And.intro hD hE)
  have HCASE := Lib.hid hcase
  clear hD hE hcase
  go_enter Try.func8, Try.ntmps8
  go_wp2_with fail
  refine C0.out.mono ?_
  rintro e w1 ⟨An, cn, rfl, rn, hn1, hn2, hb⟩
  have B1 := bt B0 (Lib.hid hb)
  have RN := Lib.hid rn
  have hcn := Lib.hid (And.intro hn1 hn2)
  clear C0 B0 hb rn hn1 hn2
  have hk' : (k : Int) ≤ 9223372036854775807 := by unfold maxLen at hk; omega
  go_wp2_with fail
  refine (pow_ok An n cn k w1 hk hcn.out.1 hcn.out.2 RN.out HN.out).mono ?_
  rw [HDE.out.1, HDE.out.2]
  intro e w2 h
  obtain ⟨X, rfl, rx, hb⟩ := h.hid
  have RN2 := Lib.hid (RN.out.below hb.out)
  have B2 := bt B1 hb
  clear hb B1 h RN
  have HBIG : Hid (0 < k → 0 < val n) := by
    intro _
    rcases Nat.eq_zero_or_pos (val n) with h2 | h2
    · have h3 := HN.out.dig
      rw [h2, dig_zero] at h3
      exact absurd h3.symm (by rw [HCASE.out]; simp)
    · exact h2
  have RN3 := RN2.out
  rw [HCASE.out] at RN3
  obtain ⟨b, off, rfl, hb, hx, hcell⟩ := RN3.at_ (k := 0) (by simp)
  simp only [List.getElem_cons_zero, Nat.add_zero] at hcell hx
  have e1 : n.length = 1 := by rw [HCASE.out]; rfl
  have hxb : ((x : Int) == 1) = false := by simp; omega
  have CR := Lib.hid (fun (W : World) (h : Rb W (some ⟨b, off, none⟩) n) => by have h2 := rof_any (some ⟨b, off, none⟩) n cn W (by omega) h; rw [e1] at h2; exact h2)
  clear RN3 hb HCASE
  go_wp2_with fail
  refine (small_any 1 w2 (by omega)).mono ?_
  rintro e w3 ⟨Y, cy, rfl, ry, hy1, hy2, hb⟩
  have B23 := Lib.hid hb
  have RY := Lib.hid (And.intro ry (And.intro hy1 hy2))
  clear hb ry hy1 hy2
  go_wp2_with fail
  go_loopw [8, 9] (fun v i wr => ∃ (j : Nat) (A' : Option Addr) (c' : Nat), j ≤ k ∧ i = .int .i64 j ∧ val n ^ j < 256 ^ 64 ∧ v = .slice A' (dgs 10 (val n ^ j)).length c' ∧ Ri wr A' (dgs 10 (val n ^ j)) ∧ Below w2.heap.size w2 wr) (fun _ i _ => k - (intOf i).toNat)
  case atStart => exact ⟨0, Y, cy, Nat.zero_le _, rfl, by rw [Nat.pow_zero]; decide +kernel, by rw [Nat.pow_zero], by rw [Nat.pow_zero]; exact RY.out.1, B23.out⟩
  case round =>
    obtain ⟨j, A', c', hjk, rfl, hlt, rfl, hr, hbel⟩ := hrel
    have HR := Lib.hid hr
    have HBel := Lib.hid hbel
    have HLT := Lib.hid hlt
    clear hr hbel hlt RY B23
    by_cases hj : j < k
    · have HP := Lib.hid (Nat.pow_succ (n := val n) (m := j))
      obtain ⟨V, hV⟩ : ∃ V, val n ^ j = V := ⟨_, rfl⟩
      obtain ⟨V2, hV2⟩ : ∃ V2, val n ^ (j + 1) = V2 := ⟨_, rfl⟩
      have HV := Lib.hid (And.intro hV hV2)
      rw [hV] at HR HLT HP ⊢
      rw [hV2] at HP
      clear hV hV2
      go_wp2_with fail
      refine (CR.out wr (RN2.out.below HBel.out)).mono ?_
      rintro e w4 ⟨Z, cz, rfl, rz, _, _, hb⟩
      have RZ := Lib.hid rz
      have R4 := Lib.hid (HR.out.below hb)
      have B4 := bt HBel (Lib.hid hb)
      clear hb rz HR
      go_wp2_with fail
      refine (times_any A' Z (dgs 10 V) (dgs 10 (val n)) c' cz w4 (dgs64_le' HLT.out) (dgs64_le' HN.out.lt) R4.out RZ.out (dgs_lt (by omega) _) (dgs_lt (by omega) _)).mono ?_
      rw [vl_dgs (by omega), vl_dgs (by omega), ← HP.out]
      rintro e w5 ⟨T, ct, rfl, rt, _, _, hb⟩
      have RT := Lib.hid rt
      have B5 := bt B4 (Lib.hid hb)
      clear hb rt B4 R4 RZ
      have HL : Hid ((dgs 10 V2).length ≤ 1000) := by show _ ≤ _; rw [HP.out]; exact dgs128_le HLT.out HN.out.lt
      go_wp2_with fail
      refine (fits_any T V2 ct w5 HL.out RT.out).mono ?_
      rintro e w6 ⟨rfl, hb⟩
      have B56 := Lib.hid hb
      have B6 := bt B5 B56
      clear hb
      by_cases hf : V2 < 256 ^ 64
      · rw [limE_lt hf]
        have HF := Lib.hid hf
        clear hf
        go_wp2_with fail
        exact ⟨⟨j + 1, T, ct, by omega, by go_num, by rw [HV.out.2]; exact HF.out, by rw [HV.out.2], by rw [HV.out.2]; exact RT.out.below B56.out, B6.out⟩, by simp [intOf]; omega⟩
      · rw [limE_ge hf]
        have hbig : ¬ val n ^ k < 256 ^ 64 := by
          intro h
          have h2 : val n ^ (j + 1) ≤ val n ^ k := Nat.pow_le_pow_right (HBIG.out (by omega)) (by omega)
          rw [HV.out.2] at h2
          exact hf (Nat.lt_of_le_of_lt h2 h)
        have hd : D = [] := by rw [← HDE.out.1, limD_ge hbig]
        have he : E = 3 := by rw [← HDE.out.2, limE_ge hbig]
        subst hd
        subst he
        clear hf hbig
        have e0 : ([] : List Nat).length = 0 := rfl
        rw [e0]
        clear e0
        go_wp2_with fail
        refine (same_err X none 0 0 0 3 w6 (by decide)).mono ?_
        rintro e w7 ⟨rfl, hb⟩
        have B7 := bt (bt B2 B6) (Lib.hid hb)
        clear hb
        go_wp2_with fail
        refine (lives1 w7).mono ?_
        rintro e w8 ⟨rfl, hb⟩
        have B8 := bt B7 (Lib.hid hb)
        clear hb B7
        go_wp2_with fail
        go_ret
        exact ⟨rfl, B8.out⟩
    · have hjk2 : j = k := by omega
      subst hjk2
      have hd : D = dig (val n ^ j) := by rw [← HDE.out.1, limD_lt HLT.out]
      have he : E = 0 := by rw [← HDE.out.2, limE_lt HLT.out]
      subst hd
      subst he
      have HV64 := Lib.hid (dgs64_le' HLT.out)
      generalize val n ^ j = V at HR HV64 rx ⊢
      clear HDE HLT
      go_wp2_with fail
      refine (same_ok X A' V c' wr (rx.out.below HBel.out) HV64.out HR.out).mono ?_
      rintro e w7 ⟨rfl, hb⟩
      have B7 := bt (bt B2 HBel) (Lib.hid hb)
      clear hb
      go_wp2_with fail
      refine (lives1 w7).mono ?_
      rintro e w8 ⟨rfl, hb⟩
      have B8 := bt B7 (Lib.hid hb)
      clear hb B7
      go_wp2_with fail
      go_ret
      exact ⟨rfl, B8.out⟩
set_option maxHeartbeats 6400000 in
theorem power_more (A : Option Addr) (l : List Nat) (c k : Nat) (w : World) (hA : Rb w A l) (hlc : l.length ≤ c) (hc : c ≤ maxLen) (hk : k ≤ maxLen) (hkp : 0 < k) (hcase : 2 ≤ (numL l).length) :
    Calls Try.prog 8 #[.agg #[.slice A l.length c], .int .i64 k] w fun e w' => e = .returned (.bool true) ∧ Below w.heap.size w w' := by
  have B0 : Hid (Below w.heap.size w (w.alloc (Obj.cells #[Value.slice A l.length c] 40))) := (Below.refl _ _).alloc (Nat.le_refl _) _
  have C0 := Lib.hid (nof_any A l c (w.alloc (Obj.cells #[Value.slice A l.length c] 40)) hlc hc (hA.below B0.out))
  have hn := numL_ok hA.2
  generalize numL l = n at C0 hn hcase
  have HN := Lib.hid hn
  have hn64 : n.length ≤ 64 := hn.2.2
  clear hA hlc hc hn
  obtain ⟨D, hD⟩ : ∃ D, limD (val n ^ k) = D := ⟨_, rfl⟩
  obtain ⟨E, hE⟩ : ∃ E, limE (val n ^ k) = E := ⟨_, rfl⟩
  have HDE := Lib.hid (And.intro hD hE)
  have HCASE := Lib.hid hcase
  clear hD hE hcase
  go_enter Try.func8, Try.ntmps8
  go_wp2_with fail
  refine C0.out.mono ?_
  rintro e w1 ⟨An, cn, rfl, rn, hn1, hn2, hb⟩
  have B1 := bt B0 (Lib.hid hb)
  have RN := Lib.hid rn
  have hcn := Lib.hid (And.intro hn1 hn2)
  clear C0 B0 hb rn hn1 hn2
  have hk' : (k : Int) ≤ 9223372036854775807 := by unfold maxLen at hk; omega
  go_wp2_with fail
  refine (pow_ok An n cn k w1 hk hcn.out.1 hcn.out.2 RN.out HN.out).mono ?_
  rw [HDE.out.1, HDE.out.2]
  intro e w2 h
  obtain ⟨X, rfl, rx, hb⟩ := h.hid
  have RN2 := Lib.hid (RN.out.below hb.out)
  have B2 := bt B1 hb
  clear hb B1 h RN
  have HBIG : Hid (0 < k → 0 < val n) := by
    intro _
    rcases Nat.eq_zero_or_pos (val n) with h2 | h2
    · have h3 := HN.out.dig
      rw [h2, dig_zero] at h3
      exact absurd h3.symm (by intro h; have h9 := HCASE.out; rw [h] at h9; simp at h9)
    · exact h2
  have h2 : 2 ≤ n.length := HCASE.out
  have h3 : n.length ≠ 0 := by omega
  have h4 : ¬ n.length = 1 := by omega
  have hz0 : ((n.length : Int) == 0) = false := by rw [beq_eq_false_iff_ne]; omega
  have hz1 : ((n.length : Int) == 1) = false := by rw [beq_eq_false_iff_ne]; omega
  have CR := Lib.hid (fun (W : World) (h : Rb W An n) => rof_any An n cn W (by omega) h)
  clear HCASE
  go_wp2_with fail
  refine (small_any 1 w2 (by omega)).mono ?_
  rintro e w3 ⟨Y, cy, rfl, ry, hy1, hy2, hb⟩
  have B23 := Lib.hid hb
  have RY := Lib.hid (And.intro ry (And.intro hy1 hy2))
  clear hb ry hy1 hy2
  go_wp2_with fail
  go_loopw [8, 9] (fun v i wr => ∃ (j : Nat) (A' : Option Addr) (c' : Nat), j ≤ k ∧ i = .int .i64 j ∧ val n ^ j < 256 ^ 64 ∧ v = .slice A' (dgs 10 (val n ^ j)).length c' ∧ Ri wr A' (dgs 10 (val n ^ j)) ∧ Below w2.heap.size w2 wr) (fun _ i _ => k - (intOf i).toNat)
  case atStart => exact ⟨0, Y, cy, Nat.zero_le _, rfl, by rw [Nat.pow_zero]; decide +kernel, by rw [Nat.pow_zero], by rw [Nat.pow_zero]; exact RY.out.1, B23.out⟩
  case round =>
    obtain ⟨j, A', c', hjk, rfl, hlt, rfl, hr, hbel⟩ := hrel
    have HR := Lib.hid hr
    have HBel := Lib.hid hbel
    have HLT := Lib.hid hlt
    clear hr hbel hlt RY B23
    by_cases hj : j < k
    · have HP := Lib.hid (Nat.pow_succ (n := val n) (m := j))
      obtain ⟨V, hV⟩ : ∃ V, val n ^ j = V := ⟨_, rfl⟩
      obtain ⟨V2, hV2⟩ : ∃ V2, val n ^ (j + 1) = V2 := ⟨_, rfl⟩
      have HV := Lib.hid (And.intro hV hV2)
      rw [hV] at HR HLT HP ⊢
      rw [hV2] at HP
      clear hV hV2
      go_wp2_with fail
      refine (CR.out wr (RN2.out.below HBel.out)).mono ?_
      rintro e w4 ⟨Z, cz, rfl, rz, _, _, hb⟩
      have RZ := Lib.hid rz
      have R4 := Lib.hid (HR.out.below hb)
      have B4 := bt HBel (Lib.hid hb)
      clear hb rz HR
      go_wp2_with fail
      refine (times_any A' Z (dgs 10 V) (dgs 10 (val n)) c' cz w4 (dgs64_le' HLT.out) (dgs64_le' HN.out.lt) R4.out RZ.out (dgs_lt (by omega) _) (dgs_lt (by omega) _)).mono ?_
      rw [vl_dgs (by omega), vl_dgs (by omega), ← HP.out]
      rintro e w5 ⟨T, ct, rfl, rt, _, _, hb⟩
      have RT := Lib.hid rt
      have B5 := bt B4 (Lib.hid hb)
      clear hb rt B4 R4 RZ
      have HL : Hid ((dgs 10 V2).length ≤ 1000) := by show _ ≤ _; rw [HP.out]; exact dgs128_le HLT.out HN.out.lt
      go_wp2_with fail
      refine (fits_any T V2 ct w5 HL.out RT.out).mono ?_
      rintro e w6 ⟨rfl, hb⟩
      have B56 := Lib.hid hb
      have B6 := bt B5 B56
      clear hb
      by_cases hf : V2 < 256 ^ 64
      · rw [limE_lt hf]
        have HF := Lib.hid hf
        clear hf
        go_wp2_with fail
        exact ⟨⟨j + 1, T, ct, by omega, by go_num, by rw [HV.out.2]; exact HF.out, by rw [HV.out.2], by rw [HV.out.2]; exact RT.out.below B56.out, B6.out⟩, by simp [intOf]; omega⟩
      · rw [limE_ge hf]
        have hbig : ¬ val n ^ k < 256 ^ 64 := by
          intro h
          have h2 : val n ^ (j + 1) ≤ val n ^ k := Nat.pow_le_pow_right (HBIG.out (by omega)) (by omega)
          rw [HV.out.2] at h2
          exact hf (Nat.lt_of_le_of_lt h2 h)
        have hd : D = [] := by rw [← HDE.out.1, limD_ge hbig]
        have he : E = 3 := by rw [← HDE.out.2, limE_ge hbig]
        subst hd
        subst he
        clear hf hbig
        have e0 : ([] : List Nat).length = 0 := rfl
        rw [e0]
        clear e0
        go_wp2_with fail
        refine (same_err X none 0 0 0 3 w6 (by decide)).mono ?_
        rintro e w7 ⟨rfl, hb⟩
        have B7 := bt (bt B2 B6) (Lib.hid hb)
        clear hb
        go_wp2_with fail
        refine (lives1 w7).mono ?_
        rintro e w8 ⟨rfl, hb⟩
        have B8 := bt B7 (Lib.hid hb)
        clear hb B7
        go_wp2_with fail
        go_ret
        exact ⟨rfl, B8.out⟩
    · have hjk2 : j = k := by omega
      subst hjk2
      have hd : D = dig (val n ^ j) := by rw [← HDE.out.1, limD_lt HLT.out]
      have he : E = 0 := by rw [← HDE.out.2, limE_lt HLT.out]
      subst hd
      subst he
      have HV64 := Lib.hid (dgs64_le' HLT.out)
      generalize val n ^ j = V at HR HV64 rx ⊢
      clear HDE HLT
      go_wp2_with fail
      refine (same_ok X A' V c' wr (rx.out.below HBel.out) HV64.out HR.out).mono ?_
      rintro e w7 ⟨rfl, hb⟩
      have B7 := bt (bt B2 HBel) (Lib.hid hb)
      clear hb
      go_wp2_with fail
      refine (lives1 w7).mono ?_
      rintro e w8 ⟨rfl, hb⟩
      have B8 := bt B7 (Lib.hid hb)
      clear hb B7
      go_wp2_with fail
      go_ret
      exact ⟨rfl, B8.out⟩

theorem power_high (A : Option Addr) (l : List Nat) (c k : Nat) (w : World) (hA : Rb w A l) (hlc : l.length ≤ c) (hc : c ≤ maxLen) (hk : k ≤ maxLen) (hcase : k = 0 ∨ ¬ (numL l = [] ∨ numL l = [1])) :
    Calls Try.prog 8 #[.agg #[.slice A l.length c], .int .i64 k] w fun e w' => e = .returned (.bool true) ∧ Below w.heap.size w w' := by
  by_cases h0 : k = 0
  · subst h0
    exact power_zero A l c w hA hlc hc
  have h1 : ¬ (numL l = [] ∨ numL l = [1]) := by rcases hcase with h | h; exact absurd h h0; exact h
  rcases hn : numL l with _ | ⟨x, _ | ⟨y, m⟩⟩
  · exact absurd (Or.inl hn) h1
  · exact power_one1 A l c k w hA hlc hc hk (by omega) x (fun h => h1 (Or.inr (by rw [hn, h]))) hn
  · exact power_more A l c k w hA hlc hc hk (by omega) (by rw [hn]; simp)

theorem power_walk (A : Option Addr) (l : List Nat) (c : Nat) (k : Int) (w : World) (hA : Rb w A l) (hlc : l.length ≤ c) (hc : c ≤ maxLen) (hk : k < 9223372036854775808) :
    Calls Try.prog 8 #[.agg #[.slice A l.length c], .int .i64 k] w fun e w' => e = .returned (.bool true) ∧ Below w.heap.size w w' := by
  by_cases h0 : k < 0
  · exact power_neg A l c k w hA hlc hc h0
  obtain ⟨n, rfl⟩ : ∃ n : Nat, k = n := ⟨k.toNat, by omega⟩
  have hm : n ≤ maxLen := by unfold maxLen; omega
  by_cases h1 : 0 < n ∧ (numL l = [] ∨ numL l = [1])
  · exact power_low A l c n w hA hlc hc hm h1.1 h1.2
  · exact power_high A l c n w hA hlc hc hm (by
      rcases Nat.eq_zero_or_pos n with h2 | h2
      · exact Or.inl h2
      · exact Or.inr fun h => h1 ⟨h2, h⟩)
open Go.ChangeShapes Go.WideShapes Go.ChangeAt
set_option maxRecDepth 100000 in
theorem natsPower_lifted (os : Os) (started : os.Started) (H : Type) (enc : TypeId × Value → H) :
    ReturnsInHanded {} Try.checked os 8 .any (Rows.natsPowerSpec.pre6 enc Try.prog Try.f8 Rows.natsPowerRow.domain false) (Rows.natsPowerSpec.post enc Try.prog Try.f8 false true false false) := by
  refine returnsInHanded_of_change (C := Try.checked) x_own started (by kernel_rfl) Try.func8
    (ChangeSpec.witness6 (enc := enc) (C := Try.checked) false ⟨#[], #[.agg #[.slice none 0 0], .int .i64 0], []⟩ 8 (by kernel_rfl) (by kernel_rfl) (by kernel_rfl) (by kernel_rfl)) ?_
  intro W base args ds gs before hval0 hW hcnd _
  have hval : ∀ (j : Nat) t v, Try.f8.params[j]? = some t → args[j]? = some v → Value.okWide Try.prog W .any base t v := hval0
  have hW' := hW
  obtain ⟨p, q, hA0, hV, rfl, hfz, hnd⟩ := hW
  have hA : DataW.TrodAll enc Try.prog W 0 (fun _ => true) true Try.f8.params.toList args.toList ds p := hA0
  rw [Try.params8] at hA hval
  obtain ⟨v0, v1, d0, d1, p0, p1, rfl, rfl, rfl, h0, h1⟩ := trodAll_two hA
  obtain ⟨rfl, rfl⟩ := trodVars_none hV
  obtain ⟨A0, l0, c0, rfl, hR0, hl0, hc0⟩ := open_num (hval 0 _ v0 rfl rfl) h0
  obtain ⟨x1, rfl, _, _, wf1⟩ := open_int Try.underlying3 (hval 1 _ v1 rfl rfl) h1
  simp [Lit.wf, IntKind.min, IntKind.max, IntKind.signed, IntKind.bits] at wf1
  clear hA0 hval0
  refine (power_walk A0 l0 c0 x1 W hR0 hl0 hc0 (by omega)).mono fun e W' ⟨he, hb⟩ => ?_
  subst he
  exact ⟨_, rfl, law_post (tb := 4) x_laid (by decide +kernel) rfl rfl (by kernel_rfl) Try.underlying4 hW' hb⟩

/-- The statement. -/
theorem natsPower_holds : Rows.NatsPowerSaid :=
  OpenClaim.holds_of_wide 8 Try.f8 rfl rfl rfl rfl rfl rfl rfl ⟨rfl, rfl, rfl, rfl, rfl⟩ rfl rfl rfl rfl rfl (by kernel_rfl) Try.func8 (by kernel_rfl)
    (of_decide_eq_true (by kernel_rfl)) (by unfold Func.isWrapper; first | (rw [if_pos (by decide +kernel)]; kernel_rfl) | (rw [if_neg (by decide +kernel)]; exact ⟨rfl, rfl⟩))
    (fun os started H enc _ => natsPower_lifted os started H enc)
end Go.Proofs.Ytenbknmpkdidoaa
