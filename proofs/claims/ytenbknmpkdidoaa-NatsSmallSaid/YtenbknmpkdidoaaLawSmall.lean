/-
  The statement NatsSmall: Of and Uint invert each other; Bits answers the number of binary digits; the examples of the chapter hold.
  Conditions: none.
-/
import Derived.Test.YtenbknmpkdidoaaLives
import Derived.Test.YtenbknmpkdidoaaRow
import Derived.Test.YtenbknmpkdidoaaRows
import Derived.RegionTactic
namespace Go.Proofs.Ytenbknmpkdidoaa
open Go.RowKit

theorem val_pow2k (k : Nat) : val (2 ^ (k % 8) :: List.replicate (k / 8) 0) = 2 ^ k := by
  rw [val_cons, val_zero, List.length_replicate, Nat.add_zero, show (256 : Nat) = 2 ^ 8 from rfl, ← Nat.pow_mul, ← Nat.pow_add, Nat.mod_add_div]
theorem bits_num {m : List Nat} (h : Nat64 m) : bitsN m ≤ 512 ∧ val m < 2 ^ bitsN m ∧ (bitsN m ≠ 0 → 2 ^ (bitsN m - 1) ≤ val m) := by
  unfold bitsN
  rw [if_pos (checkE_of h)]
  cases m with
  | nil => exact ⟨by decide, by decide, fun h => absurd rfl h⟩
  | cons x l =>
    have hx := h.1 x (List.mem_cons_self ..)
    have hl : Lt 256 l := fun y hy => h.1 y (List.mem_cons_of_mem _ hy)
    have hx0 : x ≠ 0 := by
      intro e
      subst e
      have h1 := h.2.1
      have h2 : (cutL (0 :: l)).length ≤ l.length := by unfold cutL; simp [List.dropWhile]; exact List.Sublist.length_le (List.dropWhile_sublist _)
      rw [h1, List.length_cons] at h2
      omega
    have h64 := h.2.2
    rw [List.length_cons] at h64
    have h8 := blen_le x hx
    have hhi := blen_hi x hx
    obtain ⟨hlo, h1⟩ := blen_lo x hx hx0
    have hv := val_lt hl
    have e8 : (256 : Nat) ^ l.length = 2 ^ (8 * l.length) := by rw [show (256 : Nat) = 2 ^ 8 from rfl, ← Nat.pow_mul]
    refine ⟨by show 8 * l.length + blen x ≤ 512; omega, ?_, fun _ => ?_⟩
    · show val (x :: l) < 2 ^ (8 * l.length + blen x)
      rw [val_cons, Nat.pow_add, ← e8, Nat.mul_comm (256 ^ l.length)]
      have h3 : (x + 1) * 256 ^ l.length ≤ 2 ^ blen x * 256 ^ l.length := Nat.mul_le_mul_right _ hhi
      rw [Nat.add_mul, Nat.one_mul] at h3
      omega
    · show 2 ^ (8 * l.length + blen x - 1) ≤ val (x :: l)
      rw [val_cons, show 8 * l.length + blen x - 1 = 8 * l.length + (blen x - 1) by omega, Nat.pow_add, ← e8, Nat.mul_comm (256 ^ l.length)]
      have h3 : 2 ^ (blen x - 1) * 256 ^ l.length ≤ x * 256 ^ l.length := Nat.mul_le_mul_right _ hlo
      omega
theorem uint_dig {v : Nat} (h : v < 18446744073709551616) : uintE (dig v) = 0 := by
  have h64 : v < 256 ^ 64 := Nat.lt_of_lt_of_le h (by decide +kernel)
  have h8 : (dig v).length ≤ 8 := (dig_length v 8).2 (Nat.lt_of_lt_of_le h (by decide +kernel))
  unfold uintE
  rw [checkE_of (Nat64.of v h64), if_neg (by decide), if_neg (by omega)]
theorem uint_num {m : List Nat} (h : Nat64 m) : uintE m = if 8 < m.length then 3 else 0 := by
  unfold uintE
  rw [checkE_of h, if_neg (by decide)]

theorem cmpI_range2 (u v : Nat) : -1 ≤ cmpI u v ∧ cmpI u v ≤ 1 := by unfold cmpI; split <;> (try split) <;> omega
set_option maxHeartbeats 8000000 in
set_option maxRecDepth 100000 in
theorem small_big (v : Nat) (A : Option Addr) (l : List Nat) (c : Nat) (w : World) (hv : v < 18446744073709551616) (hA : Rb w A l) (hlc : l.length ≤ c) (hc : c ≤ maxLen) (hcase : 8 < (numL l).length) :
    Calls Try.prog 11 #[.int .u64 v, .agg #[.slice A l.length c]] w fun e w' => e = .returned (.bool true) ∧ Below w.heap.size w w' := by
  have B0 : Hid (Below w.heap.size w (w.alloc (Obj.cells #[Value.slice A l.length c] 40))) := (Below.refl _ _).alloc (Nat.le_refl _) _
  have CA := Lib.hid (fun (W : World) (h : Below w.heap.size w W) => nof_any A l c W hlc hc (hA.below h))
  have hcell0 : Hid ((w.alloc (Obj.cells #[Value.slice A l.length c] 40)).cell? ⟨w.heap.size, 0, none⟩ = some (.slice A l.length c)) := by show _ = _; go_simp
  have hn := numL_ok hA.2
  generalize numL l = m at CA hn hcase
  have HN := Lib.hid hn
  have hu := uint_num hn
  rw [if_pos hcase] at hu
  have HU := Lib.hid hu
  have hm64 := hn.2.2
  have hbn := bits_num hn
  obtain ⟨k, hk⟩ : ∃ k, bitsN m = k := ⟨_, rfl⟩
  rw [hk] at hbn
  have hk512 := hbn.1
  have HB := Lib.hid (And.intro hk hbn.2)
  have hd8 : (dig v).length ≤ 8 := (dig_length v 8).2 (Nat.lt_of_lt_of_le hv (by decide +kernel))
  have hvv : ((v : Int) != v) = false := by simp
  obtain ⟨N, hN⟩ : ∃ N, dig v = N := ⟨_, rfl⟩
  have hck : checkE N = 0 := by rw [← hN]; exact checkE_of (Nat64.of v (Nat.lt_of_lt_of_le hv (by decide +kernel)))
  have hud := uint_dig hv
  have hvn : val N = v := by rw [← hN, val_dig]
  have CO := Lib.hid (fun (W : World) => of_any v W hv)
  rw [hN] at hd8 hud CO
  have HX := Lib.hid (And.intro hck (And.intro hud hvn))
  have hnl : ((N.length : Int) != N.length) = false := by simp
  clear hA hlc hc hn hu hbn hk hN hck hud hvn
  go_enter Try.func11, Try.ntmps11
  go_wp2_with fail
  refine (CO.out _).mono ?_
  rintro e w1 ⟨X, rfl, rx, hb⟩
  have hcell := (hb.cell (by simp)).trans hcell0.out
  have B1 := bt B0 (Lib.hid hb)
  have RX := Lib.hid rx
  clear hb rx CO B0 hcell0
  go_wp2_with fail
  refine (uint_any X N N.length w1 (by unfold maxLen; omega) RX.out).mono ?_
  rw [HX.out.2.1, if_pos rfl, HX.out.2.2]
  rintro e w2 ⟨rfl, rfl⟩
  go_wp2_with fail
  refine (check_any X N N.length w1 (by unfold maxLen; omega) RX.out).mono ?_
  rw [HX.out.1]
  rintro e w2 ⟨rfl, rfl⟩
  clear RX HX
  go_wp2_with fail
  refine (CA.out w1 B1.out).mono ?_
  rintro e w2 ⟨M, cm, rfl, rm, hm1, hm2, hb⟩
  have B2 := bt B1 (Lib.hid hb)
  have RM := Lib.hid rm
  have HM := Lib.hid (And.intro hm1 hm2)
  clear hb rm CA B1 hm1 hm2 hcell
  go_wp2_with fail
  refine (uint_any M m cm w2 (by unfold maxLen; omega) RM.out).mono ?_
  rw [HU.out]
  rw [if_neg (by decide)]
  rintro e w3 ⟨rfl, rfl⟩
  clear HU
  go_wp2_with fail
  have hc1 : (8 : Int) < (m.length : Int) := by omega
  refine wp_region_any (by kernel_rfl) ?_
  change wpAny _ _ _ _ _ _ _ (World.drew _)
  refine wpAny_take (i := 0) (oi := ⟨some 45, _, _, _, _, _⟩) (v := Value.slice M m.length cm) rfl (by kernel_rfl) (by kernel_rfl) (by kernel_rfl) (fun _ _ _ h => h) (Or.inl ⟨by rfl, fun w => by go_simp⟩) ?_
  simp only [Act.put, List.setIfInBounds_toArray, List.set_cons_zero, List.set_cons_succ]
  refine wpAny_take (i := 1) (oi := ⟨some 46, _, _, _, _, _⟩) (v := Value.int .i64 m.length) rfl (by kernel_rfl) (by kernel_rfl) (by kernel_rfl) (fun _ _ _ h => h) (Or.inl ⟨by rfl, fun w => by go_simp⟩) ?_
  simp only [Act.put, List.setIfInBounds_toArray, List.set_cons_zero, List.set_cons_succ]
  refine wpAny_take (i := 2) (oi := ⟨some 47, _, _, _, _, _⟩) (v := .bool true) rfl (by kernel_rfl) (by kernel_rfl) (by kernel_rfl) (fun _ _ _ h => h) (Or.inl ⟨by rfl, fun w => by go_simp⟩) ?_
  simp only [Act.put, List.setIfInBounds_toArray, List.set_cons_zero, List.set_cons_succ]
  refine wpAny_take (i := 3) (oi := ⟨some 48, _, _, _, _, _⟩) (v := .bool true) rfl (by kernel_rfl) (by kernel_rfl) (by kernel_rfl) (fun _ _ _ h => h) (Or.inl ⟨by rfl, fun w => by go_simp⟩) ?_
  simp only [Act.put, List.setIfInBounds_toArray, List.set_cons_zero, List.set_cons_succ]
  refine wpAny_take (i := 4) (oi := ⟨some 49, _, _, _, _, _⟩) (v := .int .i64 3) rfl (by kernel_rfl) (by kernel_rfl) (by kernel_rfl) (fun _ _ _ h => h) (Or.inl ⟨by rfl, fun w => by go_simp⟩) ?_
  simp only [Act.put, List.setIfInBounds_toArray, List.set_cons_zero, List.set_cons_succ]
  refine wpAny_take (i := 5) (oi := ⟨some 50, _, _, _, _, _⟩) (v := .bool false) rfl (by kernel_rfl) (by kernel_rfl) (by kernel_rfl) (fun _ _ _ h => h) (Or.inl ⟨by rfl, fun w => by go_simp⟩) ?_
  simp only [Act.put, List.setIfInBounds_toArray, List.set_cons_zero, List.set_cons_succ]
  refine wpAny_take (i := 6) (oi := ⟨some 51, _, _, _, _, _⟩) (v := .bool false) rfl (by kernel_rfl) (by kernel_rfl) (by kernel_rfl) (fun _ _ _ h => h) (Or.inl ⟨by rfl, fun w => by go_simp⟩) ?_
  simp only [Act.put, List.setIfInBounds_toArray, List.set_cons_zero, List.set_cons_succ]
  refine wpAny_take (i := 7) (oi := ⟨some 52, _, _, _, _, _⟩) (v := .int .u64 0) rfl (by kernel_rfl) (by kernel_rfl) (by kernel_rfl) (fun _ _ _ h => h) (Or.inl ⟨by rfl, fun w => by go_simp⟩) ?_
  simp only [Act.put, List.setIfInBounds_toArray, List.set_cons_zero, List.set_cons_succ]
  refine wpAny_take (i := 8) (oi := ⟨some 53, _, _, _, _, _⟩) (v := .bool false) rfl (by kernel_rfl) (by kernel_rfl) (by kernel_rfl) (fun _ _ _ h => h) (Or.inl ⟨by rfl, fun w => by go_simp⟩) ?_
  simp only [Act.put, List.setIfInBounds_toArray, List.set_cons_zero, List.set_cons_succ]
  refine wpAny_take (i := 9) (oi := ⟨some 54, _, _, _, _, _⟩) (v := .bool false) rfl (by kernel_rfl) (by kernel_rfl) (by kernel_rfl) (fun _ _ _ h => h) (Or.inl ⟨by rfl, fun w => by go_simp⟩) ?_
  simp only [Act.put, List.setIfInBounds_toArray, List.set_cons_zero, List.set_cons_succ]
  refine wpAny_take (i := 10) (oi := ⟨some 55, _, _, _, _, _⟩) (v := .bool false) rfl (by kernel_rfl) (by kernel_rfl) (by kernel_rfl) (fun _ _ _ h => h) (Or.inl ⟨by rfl, fun w => by go_simp⟩) ?_
  simp only [Act.put, List.setIfInBounds_toArray, List.set_cons_zero, List.set_cons_succ]
  refine wpAny_take (i := 11) (oi := ⟨some 56, _, _, _, _, _⟩) (v := .bool false) rfl (by kernel_rfl) (by kernel_rfl) (by kernel_rfl) (fun _ _ _ h => h) (Or.inl ⟨by rfl, fun w => by go_simp⟩) ?_
  simp only [Act.put, List.setIfInBounds_toArray, List.set_cons_zero, List.set_cons_succ]
  refine wpAny_take (i := 12) (oi := ⟨some 57, _, _, _, _, _⟩) (v := Value.slice M m.length cm) rfl (by kernel_rfl) (by kernel_rfl) (by kernel_rfl) (fun _ _ _ h => h) (Or.inl ⟨by rfl, fun w => by go_simp⟩) ?_
  simp only [Act.put, List.setIfInBounds_toArray, List.set_cons_zero, List.set_cons_succ]
  refine wpAny_take (i := 13) (oi := ⟨some 58, _, _, _, _, _⟩) (v := Value.int .i64 m.length) rfl (by kernel_rfl) (by kernel_rfl) (by kernel_rfl) (fun _ _ _ h => h) (Or.inl ⟨by rfl, fun w => by go_simp⟩) ?_
  simp only [Act.put, List.setIfInBounds_toArray, List.set_cons_zero, List.set_cons_succ]
  refine wpAny_take (i := 14) (oi := ⟨some 59, _, _, _, _, _⟩) (v := .bool false) rfl (by kernel_rfl) (by kernel_rfl) (by kernel_rfl) (fun _ _ _ h => h) (Or.inl ⟨by rfl, fun w => by go_simp⟩) ?_
  simp only [Act.put, List.setIfInBounds_toArray, List.set_cons_zero, List.set_cons_succ]
  refine wpAny_take (i := 15) (oi := ⟨some 60, _, _, _, _, _⟩) (v := .bool false) rfl (by kernel_rfl) (by kernel_rfl) (by kernel_rfl) (fun _ _ _ h => h) (Or.inl ⟨by rfl, fun w => by go_simp⟩) ?_
  simp only [Act.put, List.setIfInBounds_toArray, List.set_cons_zero, List.set_cons_succ]
  refine wpAny_take (i := 16) (oi := ⟨some 61, _, _, _, _, _⟩) (v := undef) rfl (by kernel_rfl) (by kernel_rfl) (by kernel_rfl) (fun _ _ _ h => h) (Or.inr ⟨by rfl, rfl⟩) ?_
  simp only [Act.put, List.setIfInBounds_toArray, List.set_cons_zero, List.set_cons_succ]
  refine wpAny_take (i := 17) (oi := ⟨some 62, _, _, _, _, _⟩) (v := undef) rfl (by kernel_rfl) (by kernel_rfl) (by kernel_rfl) (fun _ _ _ h => h) (Or.inr ⟨by rfl, rfl⟩) ?_
  simp only [Act.put, List.setIfInBounds_toArray, List.set_cons_zero, List.set_cons_succ]
  refine wpAny_take (i := 18) (oi := ⟨some 63, _, _, _, _, _⟩) (v := undef) rfl (by kernel_rfl) (by kernel_rfl) (by kernel_rfl) (fun _ _ _ h => h) (Or.inr ⟨by rfl, rfl⟩) ?_
  simp only [Act.put, List.setIfInBounds_toArray, List.set_cons_zero, List.set_cons_succ]
  refine wpAny_take (i := 19) (oi := ⟨some 64, _, _, _, _, _⟩) (v := undef) rfl (by kernel_rfl) (by kernel_rfl) (by kernel_rfl) (fun _ _ _ h => h) (Or.inr ⟨by rfl, rfl⟩) ?_
  simp only [Act.put, List.setIfInBounds_toArray, List.set_cons_zero, List.set_cons_succ]
  refine wpAny_take (i := 20) (oi := ⟨some 65, _, _, _, _, _⟩) (v := undef) rfl (by kernel_rfl) (by kernel_rfl) (by kernel_rfl) (fun _ _ _ h => h) (Or.inr ⟨by rfl, rfl⟩) ?_
  simp only [Act.put, List.setIfInBounds_toArray, List.set_cons_zero, List.set_cons_succ]
  refine wpAny_take (i := 21) (oi := ⟨some 66, _, _, _, _, _⟩) (v := undef) rfl (by kernel_rfl) (by kernel_rfl) (by kernel_rfl) (fun _ _ _ h => h) (Or.inr ⟨by rfl, rfl⟩) ?_
  simp only [Act.put, List.setIfInBounds_toArray, List.set_cons_zero, List.set_cons_succ]
  refine wpAny_take (i := 22) (oi := ⟨some 67, _, _, _, _, _⟩) (v := undef) rfl (by kernel_rfl) (by kernel_rfl) (by kernel_rfl) (fun _ _ _ h => h) (Or.inr ⟨by rfl, rfl⟩) ?_
  simp only [Act.put, List.setIfInBounds_toArray, List.set_cons_zero, List.set_cons_succ]
  refine wpAny_take (i := 23) (oi := ⟨some 68, _, _, _, _, _⟩) (v := undef) rfl (by kernel_rfl) (by kernel_rfl) (by kernel_rfl) (fun _ _ _ h => h) (Or.inr ⟨by rfl, rfl⟩) ?_
  simp only [Act.put, List.setIfInBounds_toArray, List.set_cons_zero, List.set_cons_succ]
  refine wpAny_take (i := 24) (oi := ⟨some 69, _, _, _, _, _⟩) (v := undef) rfl (by kernel_rfl) (by kernel_rfl) (by kernel_rfl) (fun _ _ _ h => h) (Or.inr ⟨by rfl, rfl⟩) ?_
  simp only [Act.put, List.setIfInBounds_toArray, List.set_cons_zero, List.set_cons_succ]
  refine wpAny_take (i := 25) (oi := ⟨some 70, _, _, _, _, _⟩) (v := undef) rfl (by kernel_rfl) (by kernel_rfl) (by kernel_rfl) (fun _ _ _ h => h) (Or.inr ⟨by rfl, rfl⟩) ?_
  simp only [Act.put, List.setIfInBounds_toArray, List.set_cons_zero, List.set_cons_succ]
  refine wpAny_take (i := 26) (oi := ⟨some 71, _, _, _, _, _⟩) (v := .bool false) rfl (by kernel_rfl) (by kernel_rfl) (by kernel_rfl) (fun _ _ _ h => h) (Or.inl ⟨by rfl, fun w => by go_simp⟩) ?_
  simp only [Act.put, List.setIfInBounds_toArray, List.set_cons_zero, List.set_cons_succ]
  refine wpAny_take (i := 27) (oi := ⟨some 72, _, _, _, _, _⟩) (v := .bool false) rfl (by kernel_rfl) (by kernel_rfl) (by kernel_rfl) (fun _ _ _ h => h) (Or.inl ⟨by rfl, fun w => by go_simp⟩) ?_
  simp only [Act.put, List.setIfInBounds_toArray, List.set_cons_zero, List.set_cons_succ]
  refine wpAny_done (by kernel_rfl) ?_ _
  have B3 : Hid (Below w.heap.size w w2.drew) := B2.out.drew
  have RZ : Hid (Rb w2.drew M m) := RM.out
  clear B2 RM
  go_wp2_with fail
  refine (bits_any M m cm w2.drew (by unfold maxLen; omega) RZ.out).mono ?_
  rw [HB.out.1]
  rintro e wz ⟨rfl, rfl⟩
  have hk2 : (k : Int) ≤ 512 := by omega
  go_wp2_with fail
  obtain ⟨LP, hLP⟩ : ∃ LP, 2 ^ (k % 8) :: List.replicate (k / 8) 0 = LP := ⟨_, rfl⟩
  have pw := power_any k w2.drew (by omega)
  have hvp := val_pow2k k
  rw [hLP] at pw hvp
  have PW := Lib.hid pw
  have HVP := Lib.hid hvp
  clear pw hvp hLP
  refine PW.out.mono ?_
  clear PW
  rintro e wa ⟨P, cp, rfl, rp, hp1, hp2, hb⟩
  have Ba := bt B3 (Lib.hid hb)
  have RZa := Lib.hid (RZ.out.below hb)
  have RP := Lib.hid rp
  have HP := Lib.hid (And.intro hp1 hp2)
  clear hb rp hp1 hp2 B3 RZ
  go_wp2_with fail
  refine (cmp_any P M LP m cp cm wa HP.out.1 HM.out.1 HP.out.2 HM.out.2 RP.out RZa.out).mono ?_
  rw [HVP.out, show cmpI (2 ^ k) (val m) = 1 from by unfold cmpI; rw [if_neg (by have := HB.out.2.1; omega), if_pos HB.out.2.1]]
  rintro e wz ⟨rfl, rfl⟩
  clear RP HP
  by_cases hk0 : k = 0
  · have hkb : ((k : Int) == 0) = true := by simp [hk0]
    go_wp2_with fail
    refine (lives1 wa).mono ?_
    rintro e wb ⟨rfl, hb⟩
    have Bb := bt Ba (Lib.hid hb)
    clear hb
    go_wp2_with fail
    go_ret
    exact ⟨rfl, Bb.out⟩
  · have hkb : ((k : Int) == 0) = false := by simp; omega
    obtain ⟨j, hj⟩ : ∃ j, k = j + 1 := ⟨k - 1, by omega⟩
    have e1 : ((k : Int) - 1) = (j : Int) := by omega
    have hlow := HB.out.2.2 hk0
    rw [hj, Nat.add_sub_cancel] at hlow
    have hy : cmpI (2 ^ j) (val m) ≤ 0 := by unfold cmpI; split <;> (try split) <;> omega
    have hy2 := (cmpI_range2 (2 ^ j) (val m)).1
    obtain ⟨y, hye⟩ : ∃ y, cmpI (2 ^ j) (val m) = y := ⟨_, rfl⟩
    rw [hye] at hy hy2
    have HY := Lib.hid hye
    have HJ := Lib.hid hj
    have hj512 : j ≤ 511 := by omega
    clear hlow hye hj
    go_wp2_with fail
    obtain ⟨LQ, hLQ⟩ : ∃ LQ, 2 ^ (j % 8) :: List.replicate (j / 8) 0 = LQ := ⟨_, rfl⟩
    have pw := power_any j wa (by omega)
    have hvp := val_pow2k j
    rw [hLQ] at pw hvp
    have PW := Lib.hid pw
    have HVP2 := Lib.hid hvp
    clear pw hvp hLQ
    refine PW.out.mono ?_
    clear PW
    rintro e wb ⟨P2, cp2, rfl, rp, hp1, hp2, hb⟩
    have Bb := bt Ba (Lib.hid hb)
    have RZb := Lib.hid (RZa.out.below hb)
    have RP := Lib.hid rp
    have HP := Lib.hid (And.intro hp1 hp2)
    clear hb rp hp1 hp2 Ba RZa
    go_wp2_with fail
    refine (cmp_any P2 M LQ m cp2 cm wb HP.out.1 HM.out.1 HP.out.2 HM.out.2 RP.out RZb.out).mono ?_
    rw [HVP2.out, HY.out]
    rintro e wz ⟨rfl, rfl⟩
    clear RP HP
    go_wp2_with fail
    refine (lives1 wb).mono ?_
    rintro e wc ⟨rfl, hb⟩
    have Bc := bt Bb (Lib.hid hb)
    clear hb
    go_wp2_with fail
    go_ret
    exact ⟨rfl, Bc.out⟩

set_option maxHeartbeats 8000000 in
set_option maxRecDepth 100000 in
theorem small_low (v : Nat) (A : Option Addr) (l : List Nat) (c : Nat) (w : World) (hv : v < 18446744073709551616) (hA : Rb w A l) (hlc : l.length ≤ c) (hc : c ≤ maxLen) (hcase : ¬ 8 < (numL l).length) :
    Calls Try.prog 11 #[.int .u64 v, .agg #[.slice A l.length c]] w fun e w' => e = .returned (.bool true) ∧ Below w.heap.size w w' := by
  have B0 : Hid (Below w.heap.size w (w.alloc (Obj.cells #[Value.slice A l.length c] 40))) := (Below.refl _ _).alloc (Nat.le_refl _) _
  have CA := Lib.hid (fun (W : World) (h : Below w.heap.size w W) => nof_any A l c W hlc hc (hA.below h))
  have hcell0 : Hid ((w.alloc (Obj.cells #[Value.slice A l.length c] 40)).cell? ⟨w.heap.size, 0, none⟩ = some (.slice A l.length c)) := by show _ = _; go_simp
  have hn := numL_ok hA.2
  generalize numL l = m at CA hn hcase
  have HN := Lib.hid hn
  have hu := uint_num hn
  rw [if_neg hcase] at hu
  have HU := Lib.hid hu
  have hm64 := hn.2.2
  have hbn := bits_num hn
  obtain ⟨k, hk⟩ : ∃ k, bitsN m = k := ⟨_, rfl⟩
  rw [hk] at hbn
  have hk512 := hbn.1
  have HB := Lib.hid (And.intro hk hbn.2)
  have hd8 : (dig v).length ≤ 8 := (dig_length v 8).2 (Nat.lt_of_lt_of_le hv (by decide +kernel))
  have hvv : ((v : Int) != v) = false := by simp
  obtain ⟨N, hN⟩ : ∃ N, dig v = N := ⟨_, rfl⟩
  have hck : checkE N = 0 := by rw [← hN]; exact checkE_of (Nat64.of v (Nat.lt_of_lt_of_le hv (by decide +kernel)))
  have hud := uint_dig hv
  have hvn : val N = v := by rw [← hN, val_dig]
  have CO := Lib.hid (fun (W : World) => of_any v W hv)
  rw [hN] at hd8 hud CO
  have HX := Lib.hid (And.intro hck (And.intro hud hvn))
  have hnl : ((N.length : Int) != N.length) = false := by simp
  clear hA hlc hc hn hu hbn hk hN hck hud hvn
  go_enter Try.func11, Try.ntmps11
  go_wp2_with fail
  refine (CO.out _).mono ?_
  rintro e w1 ⟨X, rfl, rx, hb⟩
  have hcell := (hb.cell (by simp)).trans hcell0.out
  have B1 := bt B0 (Lib.hid hb)
  have RX := Lib.hid rx
  clear hb rx CO B0 hcell0
  go_wp2_with fail
  refine (uint_any X N N.length w1 (by unfold maxLen; omega) RX.out).mono ?_
  rw [HX.out.2.1, if_pos rfl, HX.out.2.2]
  rintro e w2 ⟨rfl, rfl⟩
  go_wp2_with fail
  refine (check_any X N N.length w1 (by unfold maxLen; omega) RX.out).mono ?_
  rw [HX.out.1]
  rintro e w2 ⟨rfl, rfl⟩
  clear RX HX
  go_wp2_with fail
  refine (CA.out w1 B1.out).mono ?_
  rintro e w2 ⟨M, cm, rfl, rm, hm1, hm2, hb⟩
  have B2 := bt B1 (Lib.hid hb)
  have RM := Lib.hid rm
  have HM := Lib.hid (And.intro hm1 hm2)
  clear hb rm CA B1 hm1 hm2 hcell
  go_wp2_with fail
  refine (uint_any M m cm w2 (by unfold maxLen; omega) RM.out).mono ?_
  rw [HU.out]
  rw [if_pos rfl]
  rintro e w3 ⟨rfl, rfl⟩
  clear HU
  have hlt : val m < 18446744073709551616 := Nat.lt_of_lt_of_le (val_lt HN.out.1) (Nat.le_trans (Nat.pow_le_pow_right (by decide) (show m.length ≤ 8 by omega)) (by decide +kernel))
  obtain ⟨u, hu⟩ : ∃ u, val m = u := ⟨_, rfl⟩
  rw [hu] at hlt ⊢
  have CO := Lib.hid (fun (W : World) => of_any u W hlt)
  have HUV := Lib.hid hu
  rw [← HUV.out, HN.out.dig, HUV.out] at CO
  clear hu
  go_wp2_with fail
  have hc2 : (m.length : Int) ≤ 8 := by omega
  refine wp_region_any (by kernel_rfl) ?_
  change wpAny _ _ _ _ _ _ _ (World.drew _)
  have B3 : Hid (Below w.heap.size w w2.drew) := B2.out.drew
  have RZ : Hid (Rb w2.drew M m) := RM.out
  have s0 : (convert 22 9 (.slice M m.length cm)).run Try.prog w2.drew = .ok (.string (bstr m)) w2.drew := run_str8 RZ.out cm
  clear B2 RM
  refine wpAny_take (i := 0) (oi := ⟨some 45, _, _, _, _, _⟩) (v := Value.slice M m.length cm) rfl (by kernel_rfl) (by kernel_rfl) (by kernel_rfl) (fun _ _ _ h => h) (Or.inl ⟨by rfl, fun w => by go_simp⟩) ?_
  simp only [Act.put, List.setIfInBounds_toArray, List.set_cons_zero, List.set_cons_succ]
  refine wpAny_take (i := 1) (oi := ⟨some 46, _, _, _, _, _⟩) (v := Value.int .i64 m.length) rfl (by kernel_rfl) (by kernel_rfl) (by kernel_rfl) (fun _ _ _ h => h) (Or.inl ⟨by rfl, fun w => by go_simp⟩) ?_
  simp only [Act.put, List.setIfInBounds_toArray, List.set_cons_zero, List.set_cons_succ]
  refine wpAny_take (i := 2) (oi := ⟨some 47, _, _, _, _, _⟩) (v := .bool false) rfl (by kernel_rfl) (by kernel_rfl) (by kernel_rfl) (fun _ _ _ h => h) (Or.inl ⟨by rfl, fun w => by go_simp⟩) ?_
  simp only [Act.put, List.setIfInBounds_toArray, List.set_cons_zero, List.set_cons_succ]
  refine wpAny_take (i := 3) (oi := ⟨some 48, _, _, _, _, _⟩) (v := .bool false) rfl (by kernel_rfl) (by kernel_rfl) (by kernel_rfl) (fun _ _ _ h => h) (Or.inl ⟨by rfl, fun w => by go_simp⟩) ?_
  simp only [Act.put, List.setIfInBounds_toArray, List.set_cons_zero, List.set_cons_succ]
  refine wpAny_take (i := 4) (oi := ⟨some 49, _, _, _, _, _⟩) (v := undef) rfl (by kernel_rfl) (by kernel_rfl) (by kernel_rfl) (fun _ _ _ h => h) (Or.inr ⟨by rfl, rfl⟩) ?_
  simp only [Act.put, List.setIfInBounds_toArray, List.set_cons_zero, List.set_cons_succ]
  refine wpAny_take (i := 5) (oi := ⟨some 50, _, _, _, _, _⟩) (v := undef) rfl (by kernel_rfl) (by kernel_rfl) (by kernel_rfl) (fun _ _ _ h => h) (Or.inr ⟨by rfl, rfl⟩) ?_
  simp only [Act.put, List.setIfInBounds_toArray, List.set_cons_zero, List.set_cons_succ]
  refine wpAny_take (i := 6) (oi := ⟨some 51, _, _, _, _, _⟩) (v := undef) rfl (by kernel_rfl) (by kernel_rfl) (by kernel_rfl) (fun _ _ _ h => h) (Or.inr ⟨by rfl, rfl⟩) ?_
  simp only [Act.put, List.setIfInBounds_toArray, List.set_cons_zero, List.set_cons_succ]
  refine wpAny_take (i := 7) (oi := ⟨some 52, _, _, _, _, _⟩) (v := undef) rfl (by kernel_rfl) (by kernel_rfl) (by kernel_rfl) (fun _ _ _ h => h) (Or.inr ⟨by rfl, rfl⟩) ?_
  simp only [Act.put, List.setIfInBounds_toArray, List.set_cons_zero, List.set_cons_succ]
  refine wpAny_take (i := 8) (oi := ⟨some 53, _, _, _, _, _⟩) (v := undef) rfl (by kernel_rfl) (by kernel_rfl) (by kernel_rfl) (fun _ _ _ h => h) (Or.inr ⟨by rfl, rfl⟩) ?_
  simp only [Act.put, List.setIfInBounds_toArray, List.set_cons_zero, List.set_cons_succ]
  refine wpAny_take (i := 9) (oi := ⟨some 54, _, _, _, _, _⟩) (v := undef) rfl (by kernel_rfl) (by kernel_rfl) (by kernel_rfl) (fun _ _ _ h => h) (Or.inr ⟨by rfl, rfl⟩) ?_
  simp only [Act.put, List.setIfInBounds_toArray, List.set_cons_zero, List.set_cons_succ]
  refine wpAny_take (i := 10) (oi := ⟨some 55, _, _, _, _, _⟩) (v := .bool false) rfl (by kernel_rfl) (by kernel_rfl) (by kernel_rfl) (fun _ _ _ h => h) (Or.inl ⟨by rfl, fun w => by go_simp⟩) ?_
  simp only [Act.put, List.setIfInBounds_toArray, List.set_cons_zero, List.set_cons_succ]
  refine wpAny_take (i := 11) (oi := ⟨some 56, _, _, _, _, _⟩) (v := .bool false) rfl (by kernel_rfl) (by kernel_rfl) (by kernel_rfl) (fun _ _ _ h => h) (Or.inl ⟨by rfl, fun w => by go_simp⟩) ?_
  simp only [Act.put, List.setIfInBounds_toArray, List.set_cons_zero, List.set_cons_succ]
  refine wpAny_take (i := 12) (oi := ⟨some 57, _, _, _, _, _⟩) (v := Value.slice M m.length cm) rfl (by kernel_rfl) (by kernel_rfl) (by kernel_rfl) (fun _ _ _ h => h) (Or.inl ⟨by rfl, fun w => by go_simp⟩) ?_
  simp only [Act.put, List.setIfInBounds_toArray, List.set_cons_zero, List.set_cons_succ]
  refine wpAny_take (i := 13) (oi := ⟨some 58, _, _, _, _, _⟩) (v := Value.int .i64 m.length) rfl (by kernel_rfl) (by kernel_rfl) (by kernel_rfl) (fun _ _ _ h => h) (Or.inl ⟨by rfl, fun w => by go_simp⟩) ?_
  simp only [Act.put, List.setIfInBounds_toArray, List.set_cons_zero, List.set_cons_succ]
  refine wpAny_take (i := 14) (oi := ⟨some 59, _, _, _, _, _⟩) (v := .bool true) rfl (by kernel_rfl) (by kernel_rfl) (by kernel_rfl) (fun _ _ _ h => h) (Or.inl ⟨by rfl, fun w => by go_simp⟩) ?_
  simp only [Act.put, List.setIfInBounds_toArray, List.set_cons_zero, List.set_cons_succ]
  refine wpAny_take (i := 15) (oi := ⟨some 60, _, _, _, _, _⟩) (v := .bool true) rfl (by kernel_rfl) (by kernel_rfl) (by kernel_rfl) (fun _ _ _ h => h) (Or.inl ⟨by rfl, fun w => by go_simp⟩) ?_
  simp only [Act.put, List.setIfInBounds_toArray, List.set_cons_zero, List.set_cons_succ]
  refine wpAny_take (i := 16) (oi := ⟨some 61, _, _, _, _, _⟩) (v := .int .i64 0) rfl (by kernel_rfl) (by kernel_rfl) (by kernel_rfl) (fun _ _ _ h => h) (Or.inl ⟨by rfl, fun w => by go_simp⟩) ?_
  simp only [Act.put, List.setIfInBounds_toArray, List.set_cons_zero, List.set_cons_succ]
  refine wpAny_take (i := 17) (oi := ⟨some 62, _, _, _, _, _⟩) (v := .bool false) rfl (by kernel_rfl) (by kernel_rfl) (by kernel_rfl) (fun _ _ _ h => h) (Or.inl ⟨by rfl, fun w => by go_simp⟩) ?_
  simp only [Act.put, List.setIfInBounds_toArray, List.set_cons_zero, List.set_cons_succ]
  refine wpAny_take (i := 18) (oi := ⟨some 63, _, _, _, _, _⟩) (v := .bool false) rfl (by kernel_rfl) (by kernel_rfl) (by kernel_rfl) (fun _ _ _ h => h) (Or.inl ⟨by rfl, fun w => by go_simp⟩) ?_
  simp only [Act.put, List.setIfInBounds_toArray, List.set_cons_zero, List.set_cons_succ]
  refine wpAny_take (i := 19) (oi := ⟨some 64, _, _, _, _, _⟩) (v := .int .u64 u) rfl (by kernel_rfl) (by kernel_rfl) (by kernel_rfl) (fun _ _ _ h => h) (Or.inl ⟨by rfl, fun w => by go_simp⟩) ?_
  simp only [Act.put, List.setIfInBounds_toArray, List.set_cons_zero, List.set_cons_succ]
  refine wpAny_take (i := 22) (oi := ⟨some 67, _, _, _, _, _⟩) (v := Value.slice M m.length cm) rfl (by kernel_rfl) (by kernel_rfl) (by kernel_rfl) (fun _ _ _ h => h) (Or.inl ⟨by rfl, fun w => by go_simp⟩) ?_
  simp only [Act.put, List.setIfInBounds_toArray, List.set_cons_zero, List.set_cons_succ]
  have hself : ((bstr m).toList != (bstr m).toList) = false := by simp
  refine wpAny_ready (rs := [20, 23]) (by kernel_rfl) (by simp) ?_
  refine AllReady.cons rfl (fun K hK => ?_) (AllReady.cons rfl (fun K hK => ?_) AllReady.nil)
  · go_simp
    refine (CO.out _).mono ?_
    rintro e w3 ⟨Y, rfl, ry, hb⟩
    have s1 := run_str8 ry m.length
    have RZ3 := Lib.hid (RZ.out.below hb)
    have s2 := run_str8 RZ3.out cm
    have B4 := bt B3 (Lib.hid hb)
    clear hb ry CO
    refine hK _ _ ?_
    clear hK K
    refine wpAny_ready (rs := [21, 23]) (by kernel_rfl) (by simp) ?_
    refine AllReady.cons rfl (fun K hK => ?_) (AllReady.cons rfl (fun K hK => ?_) AllReady.nil)
    · go_simp
      refine hK _ _ ?_
      clear hK K
      refine wpAny_ready (rs := [23]) (by kernel_rfl) (by simp) ?_
      refine AllReady.cons rfl (fun K hK => ?_) AllReady.nil
      go_simp
      refine hK _ _ ?_
      clear hK K
      refine wpAny_ready (rs := [24]) (by kernel_rfl) (by simp) ?_
      refine AllReady.cons rfl (fun K hK => ?_) AllReady.nil
      go_simp
      refine hK _ _ ?_
      clear hK K
      refine wpAny_take (i := 25) (oi := ⟨some 70, _, _, _, _, _⟩) (v := .bool false) rfl (by kernel_rfl) (by kernel_rfl) (by kernel_rfl) (fun _ _ _ h => h) (Or.inl ⟨by rfl, fun w => by go_simp⟩) ?_
      simp only [Act.put, List.setIfInBounds_toArray, List.set_cons_zero, List.set_cons_succ]
      refine wpAny_take (i := 26) (oi := ⟨some 71, _, _, _, _, _⟩) (v := .bool false) rfl (by kernel_rfl) (by kernel_rfl) (by kernel_rfl) (fun _ _ _ h => h) (Or.inl ⟨by rfl, fun w => by go_simp⟩) ?_
      simp only [Act.put, List.setIfInBounds_toArray, List.set_cons_zero, List.set_cons_succ]
      refine wpAny_take (i := 27) (oi := ⟨some 72, _, _, _, _, _⟩) (v := .bool false) rfl (by kernel_rfl) (by kernel_rfl) (by kernel_rfl) (fun _ _ _ h => h) (Or.inl ⟨by rfl, fun w => by go_simp⟩) ?_
      simp only [Act.put, List.setIfInBounds_toArray, List.set_cons_zero, List.set_cons_succ]
      refine wpAny_done (by kernel_rfl) ?_ _
      clear s0 s1 s2 RZ B3
      have RZ := RZ3
      clear RZ3
      go_wp2_with fail
      refine (bits_any M m cm w3 (by unfold maxLen; omega) RZ.out).mono ?_
      rw [HB.out.1]
      rintro e wz ⟨rfl, rfl⟩
      have hk2 : (k : Int) ≤ 512 := by omega
      go_wp2_with fail
      obtain ⟨LP, hLP⟩ : ∃ LP, 2 ^ (k % 8) :: List.replicate (k / 8) 0 = LP := ⟨_, rfl⟩
      have pw := power_any k w3 (by omega)
      have hvp := val_pow2k k
      rw [hLP] at pw hvp
      have PW := Lib.hid pw
      have HVP := Lib.hid hvp
      clear pw hvp hLP
      refine PW.out.mono ?_
      clear PW
      rintro e wa ⟨P, cp, rfl, rp, hp1, hp2, hb⟩
      have Ba := bt B4 (Lib.hid hb)
      have RZa := Lib.hid (RZ.out.below hb)
      have RP := Lib.hid rp
      have HP := Lib.hid (And.intro hp1 hp2)
      clear hb rp hp1 hp2 B4 RZ
      go_wp2_with fail
      refine (cmp_any P M LP m cp cm wa HP.out.1 HM.out.1 HP.out.2 HM.out.2 RP.out RZa.out).mono ?_
      rw [HVP.out, show cmpI (2 ^ k) (val m) = 1 from by unfold cmpI; rw [if_neg (by have := HB.out.2.1; omega), if_pos HB.out.2.1]]
      rintro e wz ⟨rfl, rfl⟩
      clear RP HP
      by_cases hk0 : k = 0
      · have hkb : ((k : Int) == 0) = true := by simp [hk0]
        go_wp2_with fail
        refine (lives1 wa).mono ?_
        rintro e wb ⟨rfl, hb⟩
        have Bb := bt Ba (Lib.hid hb)
        clear hb
        go_wp2_with fail
        go_ret
        exact ⟨rfl, Bb.out⟩
      · have hkb : ((k : Int) == 0) = false := by simp; omega
        obtain ⟨j, hj⟩ : ∃ j, k = j + 1 := ⟨k - 1, by omega⟩
        have e1 : ((k : Int) - 1) = (j : Int) := by omega
        have hlow := HB.out.2.2 hk0
        rw [hj, Nat.add_sub_cancel] at hlow
        have hy : cmpI (2 ^ j) (val m) ≤ 0 := by unfold cmpI; split <;> (try split) <;> omega
        have hy2 := (cmpI_range2 (2 ^ j) (val m)).1
        obtain ⟨y, hye⟩ : ∃ y, cmpI (2 ^ j) (val m) = y := ⟨_, rfl⟩
        rw [hye] at hy hy2
        have HY := Lib.hid hye
        have HJ := Lib.hid hj
        have hj512 : j ≤ 511 := by omega
        clear hlow hye hj
        go_wp2_with fail
        obtain ⟨LQ, hLQ⟩ : ∃ LQ, 2 ^ (j % 8) :: List.replicate (j / 8) 0 = LQ := ⟨_, rfl⟩
        have pw := power_any j wa (by omega)
        have hvp := val_pow2k j
        rw [hLQ] at pw hvp
        have PW := Lib.hid pw
        have HVP2 := Lib.hid hvp
        clear pw hvp hLQ
        refine PW.out.mono ?_
        clear PW
        rintro e wb ⟨P2, cp2, rfl, rp, hp1, hp2, hb⟩
        have Bb := bt Ba (Lib.hid hb)
        have RZb := Lib.hid (RZa.out.below hb)
        have RP := Lib.hid rp
        have HP := Lib.hid (And.intro hp1 hp2)
        clear hb rp hp1 hp2 Ba RZa
        go_wp2_with fail
        refine (cmp_any P2 M LQ m cp2 cm wb HP.out.1 HM.out.1 HP.out.2 HM.out.2 RP.out RZb.out).mono ?_
        rw [HVP2.out, HY.out]
        rintro e wz ⟨rfl, rfl⟩
        clear RP HP
        go_wp2_with fail
        refine (lives1 wb).mono ?_
        rintro e wc ⟨rfl, hb⟩
        have Bc := bt Bb (Lib.hid hb)
        clear hb
        go_wp2_with fail
        go_ret
        exact ⟨rfl, Bc.out⟩
    · go_simp
      refine hK _ _ ?_
      clear hK K
      refine wpAny_ready (rs := [21]) (by kernel_rfl) (by simp) ?_
      refine AllReady.cons rfl (fun K hK => ?_) AllReady.nil
      go_simp
      refine hK _ _ ?_
      clear hK K
      refine wpAny_ready (rs := [24]) (by kernel_rfl) (by simp) ?_
      refine AllReady.cons rfl (fun K hK => ?_) AllReady.nil
      go_simp
      refine hK _ _ ?_
      clear hK K
      refine wpAny_take (i := 25) (oi := ⟨some 70, _, _, _, _, _⟩) (v := .bool false) rfl (by kernel_rfl) (by kernel_rfl) (by kernel_rfl) (fun _ _ _ h => h) (Or.inl ⟨by rfl, fun w => by go_simp⟩) ?_
      simp only [Act.put, List.setIfInBounds_toArray, List.set_cons_zero, List.set_cons_succ]
      refine wpAny_take (i := 26) (oi := ⟨some 71, _, _, _, _, _⟩) (v := .bool false) rfl (by kernel_rfl) (by kernel_rfl) (by kernel_rfl) (fun _ _ _ h => h) (Or.inl ⟨by rfl, fun w => by go_simp⟩) ?_
      simp only [Act.put, List.setIfInBounds_toArray, List.set_cons_zero, List.set_cons_succ]
      refine wpAny_take (i := 27) (oi := ⟨some 72, _, _, _, _, _⟩) (v := .bool false) rfl (by kernel_rfl) (by kernel_rfl) (by kernel_rfl) (fun _ _ _ h => h) (Or.inl ⟨by rfl, fun w => by go_simp⟩) ?_
      simp only [Act.put, List.setIfInBounds_toArray, List.set_cons_zero, List.set_cons_succ]
      refine wpAny_done (by kernel_rfl) ?_ _
      clear s0 s1 s2 RZ B3
      have RZ := RZ3
      clear RZ3
      go_wp2_with fail
      refine (bits_any M m cm w3 (by unfold maxLen; omega) RZ.out).mono ?_
      rw [HB.out.1]
      rintro e wz ⟨rfl, rfl⟩
      have hk2 : (k : Int) ≤ 512 := by omega
      go_wp2_with fail
      obtain ⟨LP, hLP⟩ : ∃ LP, 2 ^ (k % 8) :: List.replicate (k / 8) 0 = LP := ⟨_, rfl⟩
      have pw := power_any k w3 (by omega)
      have hvp := val_pow2k k
      rw [hLP] at pw hvp
      have PW := Lib.hid pw
      have HVP := Lib.hid hvp
      clear pw hvp hLP
      refine PW.out.mono ?_
      clear PW
      rintro e wa ⟨P, cp, rfl, rp, hp1, hp2, hb⟩
      have Ba := bt B4 (Lib.hid hb)
      have RZa := Lib.hid (RZ.out.below hb)
      have RP := Lib.hid rp
      have HP := Lib.hid (And.intro hp1 hp2)
      clear hb rp hp1 hp2 B4 RZ
      go_wp2_with fail
      refine (cmp_any P M LP m cp cm wa HP.out.1 HM.out.1 HP.out.2 HM.out.2 RP.out RZa.out).mono ?_
      rw [HVP.out, show cmpI (2 ^ k) (val m) = 1 from by unfold cmpI; rw [if_neg (by have := HB.out.2.1; omega), if_pos HB.out.2.1]]
      rintro e wz ⟨rfl, rfl⟩
      clear RP HP
      by_cases hk0 : k = 0
      · have hkb : ((k : Int) == 0) = true := by simp [hk0]
        go_wp2_with fail
        refine (lives1 wa).mono ?_
        rintro e wb ⟨rfl, hb⟩
        have Bb := bt Ba (Lib.hid hb)
        clear hb
        go_wp2_with fail
        go_ret
        exact ⟨rfl, Bb.out⟩
      · have hkb : ((k : Int) == 0) = false := by simp; omega
        obtain ⟨j, hj⟩ : ∃ j, k = j + 1 := ⟨k - 1, by omega⟩
        have e1 : ((k : Int) - 1) = (j : Int) := by omega
        have hlow := HB.out.2.2 hk0
        rw [hj, Nat.add_sub_cancel] at hlow
        have hy : cmpI (2 ^ j) (val m) ≤ 0 := by unfold cmpI; split <;> (try split) <;> omega
        have hy2 := (cmpI_range2 (2 ^ j) (val m)).1
        obtain ⟨y, hye⟩ : ∃ y, cmpI (2 ^ j) (val m) = y := ⟨_, rfl⟩
        rw [hye] at hy hy2
        have HY := Lib.hid hye
        have HJ := Lib.hid hj
        have hj512 : j ≤ 511 := by omega
        clear hlow hye hj
        go_wp2_with fail
        obtain ⟨LQ, hLQ⟩ : ∃ LQ, 2 ^ (j % 8) :: List.replicate (j / 8) 0 = LQ := ⟨_, rfl⟩
        have pw := power_any j wa (by omega)
        have hvp := val_pow2k j
        rw [hLQ] at pw hvp
        have PW := Lib.hid pw
        have HVP2 := Lib.hid hvp
        clear pw hvp hLQ
        refine PW.out.mono ?_
        clear PW
        rintro e wb ⟨P2, cp2, rfl, rp, hp1, hp2, hb⟩
        have Bb := bt Ba (Lib.hid hb)
        have RZb := Lib.hid (RZa.out.below hb)
        have RP := Lib.hid rp
        have HP := Lib.hid (And.intro hp1 hp2)
        clear hb rp hp1 hp2 Ba RZa
        go_wp2_with fail
        refine (cmp_any P2 M LQ m cp2 cm wb HP.out.1 HM.out.1 HP.out.2 HM.out.2 RP.out RZb.out).mono ?_
        rw [HVP2.out, HY.out]
        rintro e wz ⟨rfl, rfl⟩
        clear RP HP
        go_wp2_with fail
        refine (lives1 wb).mono ?_
        rintro e wc ⟨rfl, hb⟩
        have Bc := bt Bb (Lib.hid hb)
        clear hb
        go_wp2_with fail
        go_ret
        exact ⟨rfl, Bc.out⟩
  · go_simp
    refine hK _ _ ?_
    clear hK K
    refine wpAny_ready (rs := [20]) (by kernel_rfl) (by simp) ?_
    refine AllReady.cons rfl (fun K hK => ?_) AllReady.nil
    go_simp
    refine (CO.out _).mono ?_
    rintro e w3 ⟨Y, rfl, ry, hb⟩
    have s1 := run_str8 ry m.length
    have RZ3 := Lib.hid (RZ.out.below hb)
    have s2 := run_str8 RZ3.out cm
    have B4 := bt B3 (Lib.hid hb)
    clear hb ry CO
    refine hK _ _ ?_
    clear hK K
    refine wpAny_ready (rs := [21]) (by kernel_rfl) (by simp) ?_
    refine AllReady.cons rfl (fun K hK => ?_) AllReady.nil
    go_simp
    refine hK _ _ ?_
    clear hK K
    refine wpAny_ready (rs := [24]) (by kernel_rfl) (by simp) ?_
    refine AllReady.cons rfl (fun K hK => ?_) AllReady.nil
    go_simp
    refine hK _ _ ?_
    clear hK K
    refine wpAny_take (i := 25) (oi := ⟨some 70, _, _, _, _, _⟩) (v := .bool false) rfl (by kernel_rfl) (by kernel_rfl) (by kernel_rfl) (fun _ _ _ h => h) (Or.inl ⟨by rfl, fun w => by go_simp⟩) ?_
    simp only [Act.put, List.setIfInBounds_toArray, List.set_cons_zero, List.set_cons_succ]
    refine wpAny_take (i := 26) (oi := ⟨some 71, _, _, _, _, _⟩) (v := .bool false) rfl (by kernel_rfl) (by kernel_rfl) (by kernel_rfl) (fun _ _ _ h => h) (Or.inl ⟨by rfl, fun w => by go_simp⟩) ?_
    simp only [Act.put, List.setIfInBounds_toArray, List.set_cons_zero, List.set_cons_succ]
    refine wpAny_take (i := 27) (oi := ⟨some 72, _, _, _, _, _⟩) (v := .bool false) rfl (by kernel_rfl) (by kernel_rfl) (by kernel_rfl) (fun _ _ _ h => h) (Or.inl ⟨by rfl, fun w => by go_simp⟩) ?_
    simp only [Act.put, List.setIfInBounds_toArray, List.set_cons_zero, List.set_cons_succ]
    refine wpAny_done (by kernel_rfl) ?_ _
    clear s0 s1 s2 RZ B3
    have RZ := RZ3
    clear RZ3
    go_wp2_with fail
    refine (bits_any M m cm w3 (by unfold maxLen; omega) RZ.out).mono ?_
    rw [HB.out.1]
    rintro e wz ⟨rfl, rfl⟩
    have hk2 : (k : Int) ≤ 512 := by omega
    go_wp2_with fail
    obtain ⟨LP, hLP⟩ : ∃ LP, 2 ^ (k % 8) :: List.replicate (k / 8) 0 = LP := ⟨_, rfl⟩
    have pw := power_any k w3 (by omega)
    have hvp := val_pow2k k
    rw [hLP] at pw hvp
    have PW := Lib.hid pw
    have HVP := Lib.hid hvp
    clear pw hvp hLP
    refine PW.out.mono ?_
    clear PW
    rintro e wa ⟨P, cp, rfl, rp, hp1, hp2, hb⟩
    have Ba := bt B4 (Lib.hid hb)
    have RZa := Lib.hid (RZ.out.below hb)
    have RP := Lib.hid rp
    have HP := Lib.hid (And.intro hp1 hp2)
    clear hb rp hp1 hp2 B4 RZ
    go_wp2_with fail
    refine (cmp_any P M LP m cp cm wa HP.out.1 HM.out.1 HP.out.2 HM.out.2 RP.out RZa.out).mono ?_
    rw [HVP.out, show cmpI (2 ^ k) (val m) = 1 from by unfold cmpI; rw [if_neg (by have := HB.out.2.1; omega), if_pos HB.out.2.1]]
    rintro e wz ⟨rfl, rfl⟩
    clear RP HP
    by_cases hk0 : k = 0
    · have hkb : ((k : Int) == 0) = true := by simp [hk0]
      go_wp2_with fail
      refine (lives1 wa).mono ?_
      rintro e wb ⟨rfl, hb⟩
      have Bb := bt Ba (Lib.hid hb)
      clear hb
      go_wp2_with fail
      go_ret
      exact ⟨rfl, Bb.out⟩
    · have hkb : ((k : Int) == 0) = false := by simp; omega
      obtain ⟨j, hj⟩ : ∃ j, k = j + 1 := ⟨k - 1, by omega⟩
      have e1 : ((k : Int) - 1) = (j : Int) := by omega
      have hlow := HB.out.2.2 hk0
      rw [hj, Nat.add_sub_cancel] at hlow
      have hy : cmpI (2 ^ j) (val m) ≤ 0 := by unfold cmpI; split <;> (try split) <;> omega
      have hy2 := (cmpI_range2 (2 ^ j) (val m)).1
      obtain ⟨y, hye⟩ : ∃ y, cmpI (2 ^ j) (val m) = y := ⟨_, rfl⟩
      rw [hye] at hy hy2
      have HY := Lib.hid hye
      have HJ := Lib.hid hj
      have hj512 : j ≤ 511 := by omega
      clear hlow hye hj
      go_wp2_with fail
      obtain ⟨LQ, hLQ⟩ : ∃ LQ, 2 ^ (j % 8) :: List.replicate (j / 8) 0 = LQ := ⟨_, rfl⟩
      have pw := power_any j wa (by omega)
      have hvp := val_pow2k j
      rw [hLQ] at pw hvp
      have PW := Lib.hid pw
      have HVP2 := Lib.hid hvp
      clear pw hvp hLQ
      refine PW.out.mono ?_
      clear PW
      rintro e wb ⟨P2, cp2, rfl, rp, hp1, hp2, hb⟩
      have Bb := bt Ba (Lib.hid hb)
      have RZb := Lib.hid (RZa.out.below hb)
      have RP := Lib.hid rp
      have HP := Lib.hid (And.intro hp1 hp2)
      clear hb rp hp1 hp2 Ba RZa
      go_wp2_with fail
      refine (cmp_any P2 M LQ m cp2 cm wb HP.out.1 HM.out.1 HP.out.2 HM.out.2 RP.out RZb.out).mono ?_
      rw [HVP2.out, HY.out]
      rintro e wz ⟨rfl, rfl⟩
      clear RP HP
      go_wp2_with fail
      refine (lives1 wb).mono ?_
      rintro e wc ⟨rfl, hb⟩
      have Bc := bt Bb (Lib.hid hb)
      clear hb
      go_wp2_with fail
      go_ret
      exact ⟨rfl, Bc.out⟩

theorem small_walk (v : Nat) (A : Option Addr) (l : List Nat) (c : Nat) (w : World) (hv : v < 18446744073709551616) (hA : Rb w A l) (hlc : l.length ≤ c) (hc : c ≤ maxLen) :
    Calls Try.prog 11 #[.int .u64 v, .agg #[.slice A l.length c]] w fun e w' => e = .returned (.bool true) ∧ Below w.heap.size w w' := by
  by_cases h : 8 < (numL l).length
  · exact small_big v A l c w hv hA hlc hc h
  · exact small_low v A l c w hv hA hlc hc h

open Go.ChangeShapes Go.WideShapes Go.ChangeAt
set_option maxRecDepth 100000 in
theorem natsSmall_lifted (os : Os) (started : os.Started) (H : Type) (enc : TypeId × Value → H) :
    ReturnsInHanded {} Try.checked os 11 .any (Rows.natsSmallSpec.pre6 enc Try.prog Try.f11 Rows.natsSmallRow.domain false) (Rows.natsSmallSpec.post enc Try.prog Try.f11 false true false false) := by
  refine returnsInHanded_of_change (C := Try.checked) x_own started (by kernel_rfl) Try.func11
    (ChangeSpec.witness6 (enc := enc) (C := Try.checked) false ⟨#[], #[.int .u64 0, .agg #[.slice none 0 0]], []⟩ 8 (by kernel_rfl) (by kernel_rfl) (by kernel_rfl) (by kernel_rfl)) ?_
  intro W base args ds gs before hval0 hW hcnd _
  have hval : ∀ (j : Nat) t v, Try.f11.params[j]? = some t → args[j]? = some v → Value.okWide Try.prog W .any base t v := hval0
  have hW' := hW
  obtain ⟨p, q, hA0, hV, rfl, hfz, hnd⟩ := hW
  have hA : DataW.TrodAll enc Try.prog W 0 (fun _ => true) true Try.f11.params.toList args.toList ds p := hA0
  rw [Try.params11] at hA hval
  obtain ⟨v0, v1, d0, d1, p0, p1, rfl, rfl, rfl, h0, h1⟩ := trodAll_two hA
  obtain ⟨rfl, rfl⟩ := trodVars_none hV
  obtain ⟨x0, rfl, _, _, wf0⟩ := open_int Try.underlying30 (hval 0 _ v0 rfl rfl) h0
  simp [Lit.wf, IntKind.min, IntKind.max, IntKind.signed, IntKind.bits] at wf0
  obtain ⟨A1, l1, c1, rfl, hR1, hl1, hc1⟩ := open_num (hval 1 _ v1 rfl rfl) h1
  clear hA0 hval0
  obtain ⟨y, rfl⟩ : ∃ y : Nat, x0 = (y : Int) := ⟨x0.toNat, by omega⟩
  refine (small_walk y A1 l1 c1 W (by omega) hR1 hl1 hc1).mono fun e W' ⟨he, hb⟩ => ?_
  subst he
  exact ⟨_, rfl, law_post (tb := 4) x_laid (by decide +kernel) rfl rfl (by kernel_rfl) Try.underlying4 hW' hb⟩

/-- The statement. -/
theorem natsSmall_holds : Rows.NatsSmallSaid :=
  OpenClaim.holds_of_wide 11 Try.f11 rfl rfl rfl rfl rfl rfl rfl ⟨rfl, rfl, rfl, rfl, rfl⟩ rfl rfl rfl rfl rfl (by kernel_rfl) Try.func11 (by kernel_rfl)
    (of_decide_eq_true (by kernel_rfl)) (by unfold Func.isWrapper; first | (rw [if_pos (by decide +kernel)]; kernel_rfl) | (rw [if_neg (by decide +kernel)]; exact ⟨rfl, rfl⟩))
    (fun os started H enc _ => natsSmall_lifted os started H enc)
end Go.Proofs.Ytenbknmpkdidoaa
