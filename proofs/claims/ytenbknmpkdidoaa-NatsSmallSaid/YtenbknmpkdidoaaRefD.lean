/-
  The reference of layer 1: contracts of Times, Compare.
  Conditions: numbers are short, and read as digits.
-/
import Derived.Test.YtenbknmpkdidoaaRefC
namespace Go.Proofs.Ytenbknmpkdidoaa
open Go.RowKit

theorem times_step (P Pk x y ca o q : Nat) (h : q = ca + (o + x * y)) (V S T : Nat) (hv : V + P * Pk * ca = S + P * x * T) (V' : Nat) (hs : V' + P * Pk * o = V + P * Pk * (q % 10)) :
    V' + P * (Pk * 10) * (q / 10) = S + P * x * (T + Pk * y) := by
  have h3 := congrArg (P * Pk * ·) (Nat.div_add_mod q 10)
  simp only [Nat.mul_add] at h3
  have h4 : P * Pk * q = P * Pk * ca + (P * Pk * o + P * Pk * (x * y)) := by rw [h, Nat.mul_add, Nat.mul_add]
  have h5 : P * (Pk * 10) * (q / 10) = P * Pk * (10 * (q / 10)) := by rw [← Nat.mul_assoc P Pk 10, Nat.mul_assoc]
  have h6 : P * x * (T + Pk * y) = P * x * T + P * Pk * (x * y) := by
    rw [Nat.mul_add]
    congr 1
    rw [Nat.mul_assoc, Nat.mul_assoc, Nat.mul_left_comm x Pk y]
  rw [h5, h6]
  omega
theorem pow_lt_of {i k n : Nat} {T V : Nat} (h1 : 10 ^ (i + k) * 1 ≤ T) (h2 : T ≤ V) (h3 : V < 10 ^ n) : i + k < n := by
  rcases Nat.lt_or_ge (i + k) n with h | h
  · exact h
  · have := Nat.pow_le_pow_right (show 0 < 10 by omega) h
    omega
set_option maxHeartbeats 3200000 in
theorem times_any (A B : Option Addr) (a b : List Nat) (c d : Nat) (w : World) (ha : a.length ≤ 1000) (hb : b.length ≤ 1000) (hA : Ri w A a) (hB : Ri w B b) (h10 : Lt 10 a) (k10 : Lt 10 b) :
    Calls Try.prog 31 #[.slice A a.length c, .slice B b.length d] w (GiveI w (dgs 10 (vl 10 a * vl 10 b))) := by
  have hmk0 := make_ints (a.length + b.length) (by omega)
  rw [Int.natCast_add] at hmk0
  obtain ⟨Z, hZ⟩ : ∃ Z, csI (List.replicate (a.length + b.length) 0) = Z := ⟨_, rfl⟩
  have HZ := Lib.hid hZ
  rw [hZ] at hmk0
  have hmk := hmk0
  clear hZ hmk0
  go_enter Try.func31, Try.ntmps31
  go_wp2_with fail
  go_loopw [6] (fun i wr => ∃ (k : Nat) (ds : List Nat), k ≤ a.length ∧ i = .int .i64 k ∧ ds.length = a.length + b.length ∧ Lt 10 ds ∧ vl 10 ds = lo a k * vl 10 b ∧
    Bk wr w.heap.size 3 (csI ds) ∧ Below w.heap.size w wr) (fun i _ => a.length - (intOf i).toNat)
  case atStart => exact ⟨0, List.replicate (a.length + b.length) 0, Nat.zero_le _, rfl, by simp, by intro x hx; simp at hx; omega, by rw [vl_replicate, lo_zero, Nat.zero_mul], by rw [HZ.out]; exact Bk.new _ _ _, (Below.refl _ _).alloc (Nat.le_refl _) _⟩
  case round =>
    clear hmk HZ
    obtain ⟨i, ds, hi, rfl, hds, hd10, hv, hB', hbel⟩ := hrel
    have HV := Lib.hid hv
    have HD := Lib.hid hds
    have HBk := Lib.hid hB'
    have HBel := Lib.hid hbel
    clear hv hds hB' hbel
    by_cases hlt : i < a.length
    · have HA := Lib.hid hA
      have HB := Lib.hid hB
      clear hA hB
      go_wp2_with fail
      go_loopw [7, 8] (fun r k' wr => ∃ (k ca : Nat) (ds : List Nat), ca ≤ 9 ∧ k ≤ 1001 ∧ (b.length < k → ca = 0) ∧ k' = .int .i64 k ∧ r = .int .i64 ca ∧ ds.length = a.length + b.length ∧ Lt 10 ds ∧
        vl 10 ds + 10 ^ i * 10 ^ k * ca = lo a i * vl 10 b + 10 ^ i * a.getD i 0 * lo b k ∧ Bk wr w.heap.size 3 (csI ds) ∧ Below w.heap.size w wr) (fun _ k' _ => 1002 - (intOf k').toNat)
      case atStart => exact ⟨0, 0, ds, by omega, by omega, fun _ => rfl, rfl, rfl, HD.out, hd10, by rw [HV.out, lo_zero]; simp, HBk.out, HBel.out⟩
      case round =>
        clear HV HD HBk HBel hd10
        obtain ⟨k, ca, ds, hca, hk, hend, rfl, rfl, hds, hd10, hv, hB', hbel⟩ := hrel
        have HV := Lib.hid hv
        have HD := Lib.hid hds
        have HBk := Lib.hid hB'
        have HBel := Lib.hid hbel
        have HEnd := Lib.hid hend
        clear hv hds hB' hbel hend
        by_cases hgo : k < b.length ∨ 0 < ca
        · obtain ⟨ba, off, hAe, hba, hcell0⟩ := HA.out.at_ hlt
          subst hAe
          have hcell : wr.cell? ⟨ba, off + i, none⟩ = some (.int .i64 (a[i] : Int)) := (HBel.out.cell hba).trans hcell0
          have e0 : a.getD i 0 = a[i] := by rw [List.getD_eq_getElem?_getD, List.getElem?_eq_getElem hlt]; rfl
          have hx := getD_lt h10 i
          have hy := getD_lt k10 k
          have hk1000 : k ≤ 1000 := by
            rcases hgo with h | h
            · omega
            · have := HEnd.out; omega
          -- the place is in range
          have hin : i + k < a.length + b.length := by
            rcases hgo with h | h
            · omega
            · have h1 : 10 ^ (i + k) * 1 ≤ 10 ^ i * 10 ^ k * ca := by rw [← Nat.pow_add]; exact Nat.mul_le_mul_left _ h
              have h2 : lo a i * vl 10 b + 10 ^ i * a.getD i 0 * lo b k ≤ lo a (i + 1) * vl 10 b := by
                rw [lo_succ, Nat.add_mul]
                exact Nat.add_le_add_left (Nat.mul_le_mul_left _ (lo_mono b k)) _
              have h3 : lo a (i + 1) * vl 10 b < 10 ^ (a.length + b.length) := by
                rw [Nat.pow_add]
                have h4 := lo_lt h10 (i + 1)
                have h5 : 10 ^ (i + 1) ≤ 10 ^ a.length := Nat.pow_le_pow_right (by omega) (by omega)
                have h6 := vl_lt k10
                exact Nat.mul_lt_mul'' (by omega) h6
              have h7 := HV.out
              exact pow_lt_of h1 (by omega) h3
          have hind : i + k < ds.length := by rw [HD.out]; exact hin
          have hc2 : wr.cell? ⟨w.heap.size, i + k, none⟩ = some (.int .i64 ((ds[i + k] : Nat) : Int)) := by rw [HBk.out.cell, csI_get hind]
          have ho := hd10 _ (List.getElem_mem hind)
          have hfree : wr.frozen? ⟨w.heap.size, i + k, none⟩ = false := HBk.out.free _
          have C2 := Lib.hid (at_still B b d k wr.drew (HB.out.below HBel.out.drew))
          have HLB := Lib.hid (lo_succ b k)
          rw [e0] at hx HV
          obtain ⟨x, hxe⟩ : ∃ x, a[i] = x := ⟨_, rfl⟩
          obtain ⟨y, hye⟩ : ∃ y, b.getD k 0 = y := ⟨_, rfl⟩
          obtain ⟨o, hoe⟩ : ∃ o, ds[i + k] = o := ⟨_, rfl⟩
          rw [hxe] at hcell hx HV
          rw [hye] at C2 hy HLB
          rw [hoe] at hc2 ho
          have hxy : x * y ≤ 9 * 9 := Nat.mul_le_mul (by omega) (by omega)
          have hxy1 : (x : Int) * (y : Int) ≤ 81 := by rw [← Int.natCast_mul]; omega
          have hxy0 : 0 ≤ (x : Int) * (y : Int) := by rw [← Int.natCast_mul]; omega
          have hset := vl_set (b := 10) (l := ds) (p := i + k) hind ((ca + (o + x * y)) % 10)
          rw [hoe, Nat.pow_add] at hset
          have HS := Lib.hid (times_step (10 ^ i) (10 ^ k) x y ca o _ rfl _ _ _ HV.out _ hset)
          have HX : Hid (a.getD i 0 = x) := e0.trans hxe
          have HND : Hid (b.length < k + 1 → (ca + (o + x * y)) / 10 = 0) := fun hbk => by
            have hkb : ¬ k < b.length := by omega
            have hy0 : y = 0 := by rw [← hye, List.getD_eq_getElem?_getD, List.getElem?_eq_none (by omega)]; rfl
            have s0 := vl_set (b := 10) (l := ds) (p := i + k) hind 0
            rw [hoe, Nat.pow_add, Nat.mul_zero, Nat.add_zero] at s0
            have h2 : lo a i * vl 10 b + 10 ^ i * a.getD i 0 * lo b k ≤ lo a (i + 1) * vl 10 b := by
              rw [lo_succ, Nat.add_mul]
              exact Nat.add_le_add_left (Nat.mul_le_mul_left _ (lo_mono b k)) _
            rw [e0, hxe] at h2
            have h4 := lo_lt h10 (i + 1)
            have h6 := vl_lt k10
            have h5 : 10 ^ b.length ≤ 10 ^ k := Nat.pow_le_pow_right (by omega) (by omega)
            have h7 : lo a (i + 1) * vl 10 b < 10 ^ (i + 1) * 10 ^ k := Nat.mul_lt_mul'' h4 (by omega)
            have h8 := HV.out
            have h9 : 10 ^ i * 10 ^ k * (o + ca) < 10 ^ i * 10 ^ k * 10 := by
              have e : 10 ^ (i + 1) * 10 ^ k = 10 ^ i * 10 ^ k * 10 := by rw [Nat.pow_succ, Nat.mul_assoc, Nat.mul_assoc, Nat.mul_comm 10]
              rw [e] at h7
              rw [Nat.mul_add]
              omega
            have h11 := Nat.lt_of_mul_lt_mul_left h9
            rw [hy0, Nat.mul_zero]
            omega
          have q1 : IntKind.i64.wrap ((i : Int) + k) = (i : Int) + k := IntWalk.i64_in _ (by omega)
          have q2 : 0 ≤ (i : Int) + k := by omega
          have q3 : ((i : Int) + k).toNat = i + k := by omega
          have q4 : (i : Int) + k < (a.length : Int) + b.length := by omega
          have q5 : IntKind.i64.wrap ((x : Int) * y) = (x : Int) * y := IntWalk.i64_in _ (by omega)
          have q6 : IntKind.i64.wrap ((o : Int) + x * y) = (o : Int) + x * y := IntWalk.i64_in _ (by omega)
          have q7 : IntKind.i64.wrap ((ca : Int) + (o + x * y)) = (ca : Int) + (o + x * y) := IntWalk.i64_in _ (by omega)
          clear hset hcell0 e0 hxe hye hoe hba
          by_cases h1 : k < b.length
          · clear hgo
            go_wp2_with fail
            refine wp_region_still_tail 17 (by kernel_rfl) (by kernel_rfl) ?_
            simp only [List.take_succ_cons, List.take_zero, List.drop_succ_cons, List.drop_zero]
            repeat still_step
            still_call C2.out
            repeat still_step
            refine wpStill_nil ?_
            change wpList _ _ _ _ _ wr.drew
            clear q1 q5 q6 q7
            go_wp2_with fail
            refine ⟨⟨k + 1, (ca + (o + x * y)) / 10, ds.set (i + k) ((ca + (o + x * y)) % 10), by omega, by omega, ?_, by go_num, by go_num, by rw [List.length_set, HD.out], Lt.set hd10 (Nat.mod_lt _ (by omega)), ?_, ?_, ((HBel.out).drew).setCell (Nat.le_refl _) _⟩, by simp [intOf]; omega⟩
            · exact HND.out
            · rw [HX.out, HLB.out, Nat.pow_succ]
              exact HS.out
            · have hs := (show Bk wr.drew w.heap.size 3 (csI ds) from HBk.out).store (i + k) (int64 ((ca + (o + x * y)) % 10))
              rw [csI_set] at hs
              have e : (Value.int .i64 (((ca : Int) + (o + x * y)) % 10)) = int64 ((ca + (o + x * y)) % 10) := by unfold int64; congr 1
              rw [e]
              exact hs
          · have h2 : 0 < ca := by omega
            clear hgo
            go_wp2_with fail
            refine wp_region_still_tail 17 (by kernel_rfl) (by kernel_rfl) ?_
            simp only [List.take_succ_cons, List.take_zero, List.drop_succ_cons, List.drop_zero]
            repeat still_step
            still_call C2.out
            repeat still_step
            refine wpStill_nil ?_
            change wpList _ _ _ _ _ wr.drew
            clear q1 q5 q6 q7
            go_wp2_with fail
            refine ⟨⟨k + 1, (ca + (o + x * y)) / 10, ds.set (i + k) ((ca + (o + x * y)) % 10), by omega, by omega, ?_, by go_num, by go_num, by rw [List.length_set, HD.out], Lt.set hd10 (Nat.mod_lt _ (by omega)), ?_, ?_, ((HBel.out).drew).setCell (Nat.le_refl _) _⟩, by simp [intOf]; omega⟩
            · exact HND.out
            · rw [HX.out, HLB.out, Nat.pow_succ]
              exact HS.out
            · have hs := (show Bk wr.drew w.heap.size 3 (csI ds) from HBk.out).store (i + k) (int64 ((ca + (o + x * y)) % 10))
              rw [csI_set] at hs
              have e : (Value.int .i64 (((ca : Int) + (o + x * y)) % 10)) = int64 ((ca + (o + x * y)) % 10) := by unfold int64; congr 1
              rw [e]
              exact hs
        · have hca0 : ca = 0 := by omega
          have hkb : ¬ k < b.length := fun h => hgo (.inl h)
          subst hca0
          have hv2 : vl 10 ds = lo a (i + 1) * vl 10 b := by
            have h1 := HV.out
            rw [lo_all (l := b) (by omega)] at h1
            rw [lo_succ, Nat.add_mul]
            simpa using h1
          have HV2 := Lib.hid hv2
          clear hgo hv2
          go_wp2_with fail
          exact ⟨⟨i + 1, ds, by omega, by go_num, HD.out, hd10, HV2.out, HBk.out, HBel.out⟩, by simp [intOf]; omega⟩
    · have hia : i = a.length := by omega
      subst hia
      have hr : Ri wr (some ⟨w.heap.size, 0, none⟩) ds := by have := HBk.out.rd 0; simpa [Ri] using this
      have C2 := trim_any (some ⟨w.heap.size, 0, none⟩) ds (a.length + b.length) wr (by rw [HD.out]; exact Nat.le_refl _) (by unfold maxLen; omega) hr
      rw [HD.out] at C2
      have et : trimL ds = dgs 10 (vl 10 a * vl 10 b) := trimL_eq_of (by omega) hd10 (by rw [HV.out, lo_all (Nat.le_refl _)])
      have hcm : (trimL ds).length ≤ a.length + b.length := by rw [← HD.out]; exact trimL_length ds
      have HC := Lib.hid C2
      have HET := Lib.hid et
      have HCM := Lib.hid hcm
      clear hr C2 et hcm
      go_wp2_with fail
      refine HC.out.mono ?_
      rintro e w' ⟨rfl, h', rfl⟩
      go_wp2_with fail
      go_ret
      rw [← HET.out]
      exact ⟨_, _, rfl, h', HCM.out, by unfold maxLen; omega, HBel.out⟩

/-! Compare. -/
theorem hi_eq {l : List Nat} {k : Nat} (h : l.length ≤ k) : hi l k = 0 := by unfold hi; rw [List.drop_eq_nil_of_le h]; rfl
theorem bel_drewN {B : Nat} {a w : World} (h : Below B a w) (n : Nat) : Below B a (w.drewN n) := ⟨h.os, h.tape, h.output, h.size, h.block⟩
theorem hi_cmp {a b : List Nat} (h10 : Lt 10 a) {k : Nat} (ha : k < a.length) (hb : k < b.length) (he : hi a (k + 1) = hi b (k + 1)) (hlt : a[k] < b[k]) : vl 10 a < vl 10 b := by
  have e1 := vl_append 10 (a.take k) (a.drop k)
  have e2 := vl_append 10 (b.take k) (b.drop k)
  rw [List.take_append_drop, List.length_take, Nat.min_eq_left (by omega)] at e1 e2
  have h1 := hi_step ha
  have h2 := hi_step hb
  unfold hi at h1 h2 he
  rw [h1] at e1
  rw [h2, ← he] at e2
  have h3 := lo_lt h10 k
  unfold lo at h3
  have h4 : 10 ^ k * (a[k] + 10 * vl 10 (a.drop (k + 1)) + 1) ≤ 10 ^ k * (b[k] + 10 * vl 10 (a.drop (k + 1))) := Nat.mul_le_mul_left _ (by omega)
  rw [Nat.mul_add, Nat.mul_one] at h4
  omega
set_option maxHeartbeats 800000 in
theorem rcmp_gen (A B : Option Addr) (a b : List Nat) (c d : Nat) (w : World) (ha : a.length ≤ 1000) (hA : Ri w A a) (hB : Ri w B b) (h10 : Lt 10 a) (k10 : Lt 10 b) (hsh : a.length < b.length → vl 10 a < vl 10 b) (hlo : b.length < a.length → vl 10 b < vl 10 a) :
    Calls Try.prog 29 #[.slice A a.length c, .slice B b.length d] w fun e w' => e = .returned (.int .i64 (cmpI (vl 10 a) (vl 10 b))) ∧ Below w.heap.size w w' := by
  by_cases hl1 : a.length < b.length
  · have e : cmpI (vl 10 a) (vl 10 b) = -1 := if_pos (hsh hl1)
    rw [e]
    have hne : ((a.length : Int) != b.length) = true := by simp; omega
    clear e hsh hlo hA hB
    go_enter Try.func29, Try.ntmps29
    go_wp2_with fail
    go_ret
    exact ⟨rfl, Below.refl _ _⟩
  by_cases hl2 : b.length < a.length
  · have hlt := hlo hl2
    have e : cmpI (vl 10 a) (vl 10 b) = 1 := by unfold cmpI; rw [if_neg (by omega), if_pos hlt]
    rw [e]
    have hne : ((a.length : Int) != b.length) = true := by simp; omega
    clear e hsh hlo hlt hA hB
    go_enter Try.func29, Try.ntmps29
    go_wp2_with fail
    go_ret
    exact ⟨rfl, Below.refl _ _⟩
  have hle : b.length = a.length := by omega
  clear hsh hlo hl1 hl2
  obtain ⟨R, hR⟩ : ∃ R, cmpI (vl 10 a) (vl 10 b) = R := ⟨_, rfl⟩
  rw [hR]
  have HR := Lib.hid hR
  have HLE := Lib.hid hle
  have hne : ((a.length : Int) != b.length) = false := by simp; omega
  clear hR hle
  go_enter Try.func29, Try.ntmps29
  go_wp2_with fail
  go_loopw [5] (fun i wr => ∃ k : Nat, k ≤ a.length ∧ i = .int .i64 ((k : Int) - 1) ∧ hi a k = hi b k ∧ Below w.heap.size w wr) (fun i _ => (intOf i + 1).toNat)
  case atStart => exact ⟨a.length, Nat.le_refl _, rfl, by rw [hi_eq (Nat.le_refl _), hi_eq (by rw [HLE.out]; exact Nat.le_refl _)], Below.refl _ _⟩
  case round =>
    obtain ⟨k, hk, rfl, he, hbel⟩ := hrel
    have HE := Lib.hid he
    have HBel := Lib.hid hbel
    clear he hbel hne
    by_cases hk0 : k = 0
    · subst hk0
      have e := HE.out
      rw [hi_zero, hi_zero] at e
      have HF : Hid (R = 0) := by
        show R = 0
        rw [← HR.out, e]; unfold cmpI; rw [if_neg (by omega), if_neg (by omega)]
      clear e
      go_wp2_with fail
      go_ret
      exact ⟨by rw [HF.out]; rfl, HBel.out⟩
    · obtain ⟨j, rfl⟩ : ∃ j, k = j + 1 := ⟨k - 1, by omega⟩
      have hja : j < a.length := by omega
      have hjb : j < b.length := by rw [HLE.out]; exact hja
      obtain ⟨b1, o1, hA1, hb1, hc1⟩ := hA.at_ hja
      obtain ⟨b2, o2, hB1, hb2, hc2⟩ := hB.at_ hjb
      subst hA1
      subst hB1
      have hc1' : wr.cell? ⟨b1, o1 + j, none⟩ = some (.int .i64 (a[j] : Int)) := (HBel.out.cell hb1).trans hc1
      have hc2' : wr.cell? ⟨b2, o2 + j, none⟩ = some (.int .i64 (b[j] : Int)) := (HBel.out.cell hb2).trans hc2
      have e1 : (((j + 1 : Nat) : Int) - 1) = (j : Int) := by omega
      rw [e1]
      have HA := Lib.hid hA
      have HB := Lib.hid hB
      have hjb2 : j < b.length := hjb
      have HC1 := Lib.hid (hi_step hja)
      have HC2 := Lib.hid (hi_step hjb)
      have HL1 : Hid (a[j] < b[j] → R = -1) := fun h => by rw [← HR.out]; exact if_pos (hi_cmp h10 hja hjb HE.out h)
      have HL2 : Hid (b[j] < a[j] → R = 1) := fun h => by
        have := hi_cmp k10 hjb hja HE.out.symm h
        rw [← HR.out]; unfold cmpI; rw [if_neg (by omega), if_pos this]
      have HE2 : Hid (a[j] = b[j] → hi a j = hi b j) := fun h => by rw [HC1.out, HC2.out, h, HE.out]
      generalize a[j] = x at hc1' HC1 HL1 HL2 HE2
      generalize b[j] = y at hc2' HC2 HL1 HL2 HE2
      clear hc1 hc2 e1 hk0 hA hB
      rcases Nat.lt_trichotomy x y with hxy | hxy | hxy
      · have hne1 : ((x : Int) != y) = true := by simp; omega
        have HF : Hid (R = -1) := HL1.out hxy
        go_wp2_with fail
        go_quiet (fail)
        go_wp2_with fail
        go_quiet (fail)
        go_wp2_with fail
        go_ret
        exact ⟨by rw [HF.out]; rfl, by first | exact bel_drewN HBel.out _ | exact bel_drewN (bel_drewN HBel.out _) _⟩
      · have hne1 : ((x : Int) != y) = false := by simp; omega
        have HX := Lib.hid hxy
        clear hxy
        go_wp2_with fail
        go_quiet (fail)
        go_wp2_with fail
        exact ⟨⟨j, by omega, rfl, HE2.out HX.out, by first | exact bel_drewN HBel.out _ | exact bel_drewN (bel_drewN HBel.out _) _⟩, by simp [intOf]⟩
      · have hne1 : ((x : Int) != y) = true := by simp; omega
        have HF : Hid (R = 1) := HL2.out hxy
        have hge : (y : Int) ≤ x := by omega
        have hb0 : decide ((x : Int) < y) = false := by simp; omega
        have hb1' : decide (x < y) = false := by simp; omega
        go_wp2_with fail
        go_quiet (fail)
        go_wp2_with fail
        go_quiet (fail)
        go_wp2_with fail
        go_ret
        exact ⟨by rw [HF.out]; rfl, by first | exact bel_drewN HBel.out _ | exact bel_drewN (bel_drewN HBel.out _) _⟩
theorem rcmp_any (A B : Option Addr) (u v c d : Nat) (w : World) (hu : (dgs 10 u).length ≤ 1000) (hA : Ri w A (dgs 10 u)) (hB : Ri w B (dgs 10 v)) :
    Calls Try.prog 29 #[.slice A (dgs 10 u).length c, .slice B (dgs 10 v).length d] w fun e w' => e = .returned (.int .i64 (cmpI u v)) ∧ Below w.heap.size w w' := by
  have key : ∀ p q : Nat, (dgs 10 p).length < (dgs 10 q).length → p < q := fun p q h => by
    rcases Nat.lt_or_ge p q with h1 | h1
    · exact h1
    · have := (dgs_length (b := 10) (by omega) q (dgs 10 p).length).2 (Nat.lt_of_le_of_lt h1 ((dgs_length (b := 10) (by omega) p _).1 (Nat.le_refl _)))
      omega
  have h := rcmp_gen A B (dgs 10 u) (dgs 10 v) c d w hu hA hB (dgs_lt (by omega) _) (dgs_lt (by omega) _) (by rw [vl_dgs (by omega), vl_dgs (by omega)]; exact key u v) (by rw [vl_dgs (by omega), vl_dgs (by omega)]; exact key v u)
  rwa [vl_dgs (by omega), vl_dgs (by omega)] at h
end Go.Proofs.Ytenbknmpkdidoaa
