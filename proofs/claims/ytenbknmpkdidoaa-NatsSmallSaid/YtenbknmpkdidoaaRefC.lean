/-
  The reference of layer 1: contracts of Plus, Minus, Times, Compare.
  Conditions: numbers are short, and read as digits.
-/
import Derived.Test.YtenbknmpkdidoaaRefB
import Derived.StillTailTactics
namespace Go.Proofs.Ytenbknmpkdidoaa
open Go.RowKit

/-- The value of the k least significant decimal digits. -/
def lo (l : List Nat) (k : Nat) : Nat := vl 10 (l.take k)
theorem lo_succ (l : List Nat) (k : Nat) : lo l (k + 1) = lo l k + 10 ^ k * l.getD k 0 := by
  unfold lo
  by_cases hk : k < l.length
  · rw [List.take_succ_eq_append_getElem hk, vl_append, List.length_take, Nat.min_eq_left (by omega), List.getD_eq_getElem?_getD, List.getElem?_eq_getElem hk]
    simp [vl]
  · rw [List.take_of_length_le (by omega), List.take_of_length_le (by omega), List.getD_eq_getElem?_getD, List.getElem?_eq_none (by omega)]
    simp
theorem lo_all {l : List Nat} {k : Nat} (h : l.length ≤ k) : lo l k = vl 10 l := by unfold lo; rw [List.take_of_length_le h]
theorem lo_zero (l : List Nat) : lo l 0 = 0 := rfl
theorem getD_lt {l : List Nat} (h : Lt 10 l) (k : Nat) : l.getD k 0 < 10 := by
  rw [List.getD_eq_getElem?_getD]
  cases hx : l[k]? with
  | none => simp
  | some y => exact h y (List.mem_of_getElem? hx)
theorem lo_mono (l : List Nat) (k : Nat) : lo l k ≤ vl 10 l := by
  unfold lo
  have h := vl_append 10 (l.take k) (l.drop k)
  rw [List.take_append_drop] at h
  omega
theorem lo_lt {l : List Nat} (h : Lt 10 l) (k : Nat) : lo l k < 10 ^ k := by
  have h1 : Lt 10 (l.take k) := fun y hy => h y (List.mem_of_mem_take hy)
  have h2 := vl_lt h1
  have h3 : 10 ^ (l.take k).length ≤ 10 ^ k := Nat.pow_le_pow_right (by omega) (by simp; omega)
  unfold lo; omega

theorem plus_step (P a b c q : Nat) (h : q = c + (a + b)) (V S : Nat) (hv : V + P * c = S) : V + P * (q % 10) + P * 10 * (q / 10) = S + P * a + P * b := by
  have h3 := congrArg (P * ·) (Nat.div_add_mod q 10)
  simp only [Nat.mul_add] at h3
  have h4 : P * q = P * c + (P * a + P * b) := by rw [h, Nat.mul_add, Nat.mul_add]
  rw [Nat.mul_assoc]
  omega
set_option maxHeartbeats 1600000 in
theorem plus_any (A B : Option Addr) (a b : List Nat) (c d : Nat) (w : World) (ha : a.length ≤ 1000) (hb : b.length ≤ 1000) (hA : Ri w A a) (hB : Ri w B b) (h10 : Lt 10 a) (k10 : Lt 10 b) :
    Calls Try.prog 27 #[.slice A a.length c, .slice B b.length d] w (GiveI w (dgs 10 (vl 10 a + vl 10 b))) := by
  go_enter Try.func27, Try.ntmps27
  go_wp2_with fail
  go_loopw [5, 6, 7] (fun v r i wr => ∃ (k q : Nat) (o : List Nat), k ≤ 1001 ∧ (a.length < k → b.length < k → q = 0) ∧ q ≤ 1 ∧ i = .int .i64 k ∧ r = .int .i64 q ∧ o.length = k ∧ Lt 10 o ∧ vl 10 o + 10 ^ k * q = lo a k + lo b k ∧
    wr.ownsRow w.heap.size 3 1 v o.length (csI o) ∧ Below w.heap.size w wr) (fun _ _ i _ => 1002 - (intOf i).toNat)
  case atStart => exact ⟨0, 0, [], by omega, fun _ _ => rfl, by omega, rfl, rfl, rfl, Lt.nil, rfl, World.ownsRow_nil _ _ _ _, Below.refl _ _⟩
  case round =>
    obtain ⟨k, q, o, hk, hend, hq, rfl, rfl, ho, ho10, hv, hown, hbel⟩ := hrel
    have HV := Lib.hid hv
    have HO := Lib.hid ho
    have HEnd := Lib.hid hend
    have HBel := Lib.hid hbel
    have HOwn := Lib.hid hown
    have hA' := hA.below hbel
    have hB' := hB.below hbel
    clear hv ho hbel hown hend
    have C1 := Lib.hid (at_any A a c k wr hA')
    have C2 := Lib.hid (at_any B b d k wr hB')
    have hx := getD_lt h10 k
    have hy := getD_lt k10 k
    have HLA := Lib.hid (lo_succ a k)
    have HLB := Lib.hid (lo_succ b k)
    have HA := Lib.hid hA'
    have HB := Lib.hid hB'
    clear hA' hB'
    by_cases hgo : k < a.length ∨ k < b.length ∨ 0 < q
    · obtain ⟨x, hxe⟩ : ∃ x, a.getD k 0 = x := ⟨_, rfl⟩
      obtain ⟨y, hye⟩ : ∃ y, b.getD k 0 = y := ⟨_, rfl⟩
      rw [hxe] at C1 hx HLA
      rw [hye] at C2 hy HLB
      have hk1000 : k ≤ 1000 := by
        rcases hgo with h | h | h
        · omega
        · omega
        · have := HEnd.out; omega
      have HND : Hid (a.length < k + 1 → b.length < k + 1 → (q + (x + y)) / 10 = 0 ∨ (k < a.length ∨ k < b.length) ∨ (a.length ≤ k ∧ b.length ≤ k ∧ x = 0 ∧ y = 0)) := fun h1 h2 => .inr (.inr ⟨by omega, by omega, by
          rw [← hxe, List.getD_eq_getElem?_getD, List.getElem?_eq_none (by omega)]; rfl, by
          rw [← hye, List.getD_eq_getElem?_getD, List.getElem?_eq_none (by omega)]; rfl⟩)
      obtain ⟨v', w1, hrun, hown1, hb1⟩ := appI HOwn.out ((q + (x + y)) % 10) HBel.out.size (by rw [HO.out]; omega)
      have hyy : (((q + (x + y)) % 10 : Nat) : Int) = ((q : Int) + ((x : Int) + y)) % 10 := by omega
      rw [hyy] at hrun
      have HOwn1 := Lib.hid hown1
      have HB1 := Lib.hid hb1
      have HS := Lib.hid (plus_step (10 ^ k) x y q _ rfl _ _ HV.out)
      clear hown1 hb1 hyy hxe hye
      by_cases h1 : k < a.length
      · clear hgo
        go_wp2_with fail
        refine C1.out.mono ?_
        rintro e w' ⟨rfl, rfl⟩
        go_wp2_with fail
        refine C2.out.mono ?_
        rintro e w' ⟨rfl, rfl⟩
        go_wp2_with (at_builtin; refine wpList_app rfl _ _ _ _ rfl _ _ rfl rfl hrun ?_)
        refine ⟨⟨k + 1, (q + (x + y)) / 10, o ++ [(q + (x + y)) % 10], by omega, ?_, by omega, by go_num, by go_num, by simp [HO.out], ho10.app (Lt.cons (Nat.mod_lt _ (by omega)) Lt.nil), ?_, HOwn1.out, (HBel.out).trans ((HB1.out).mono (Nat.le_refl _))⟩, by simp [intOf]; omega⟩
        · intro h1 h2
          rcases HND.out h1 h2 with h | h | ⟨_, _, rfl, rfl⟩
          · exact h
          · omega
          · omega
        · rw [vl_append, HO.out, Nat.pow_succ, HLA.out, HLB.out]
          simp only [vl, Nat.mul_zero, Nat.add_zero]
          have := HS.out
          omega
      · by_cases h2 : k < b.length
        · clear hgo
          go_wp2_with fail
          refine C1.out.mono ?_
          rintro e w' ⟨rfl, rfl⟩
          go_wp2_with fail
          refine C2.out.mono ?_
          rintro e w' ⟨rfl, rfl⟩
          go_wp2_with (at_builtin; refine wpList_app rfl _ _ _ _ rfl _ _ rfl rfl hrun ?_)
          refine ⟨⟨k + 1, (q + (x + y)) / 10, o ++ [(q + (x + y)) % 10], by omega, ?_, by omega, by go_num, by go_num, by simp [HO.out], ho10.app (Lt.cons (Nat.mod_lt _ (by omega)) Lt.nil), ?_, HOwn1.out, (HBel.out).trans ((HB1.out).mono (Nat.le_refl _))⟩, by simp [intOf]; omega⟩
          · intro h1 h2
            rcases HND.out h1 h2 with h | h | ⟨_, _, rfl, rfl⟩
            · exact h
            · omega
            · omega
          · rw [vl_append, HO.out, Nat.pow_succ, HLA.out, HLB.out]
            simp only [vl, Nat.mul_zero, Nat.add_zero]
            have := HS.out
            omega
        · have hq1 : 0 < q := by omega
          clear hgo
          go_wp2_with fail
          refine C1.out.mono ?_
          rintro e w' ⟨rfl, rfl⟩
          go_wp2_with fail
          refine C2.out.mono ?_
          rintro e w' ⟨rfl, rfl⟩
          go_wp2_with (at_builtin; refine wpList_app rfl _ _ _ _ rfl _ _ rfl rfl hrun ?_)
          refine ⟨⟨k + 1, (q + (x + y)) / 10, o ++ [(q + (x + y)) % 10], by omega, ?_, by omega, by go_num, by go_num, by simp [HO.out], ho10.app (Lt.cons (Nat.mod_lt _ (by omega)) Lt.nil), ?_, HOwn1.out, (HBel.out).trans ((HB1.out).mono (Nat.le_refl _))⟩, by simp [intOf]; omega⟩
          · intro h1 h2
            rcases HND.out h1 h2 with h | h | ⟨_, _, rfl, rfl⟩
            · exact h
            · omega
            · omega
          · rw [vl_append, HO.out, Nat.pow_succ, HLA.out, HLB.out]
            simp only [vl, Nat.mul_zero, Nat.add_zero]
            have := HS.out
            omega
    · have hq0 : q = 0 := by omega
      have hka : ¬ k < a.length := fun h => hgo (.inl h)
      have hkb : ¬ k < b.length := fun h => hgo (.inr (.inl h))
      subst hq0
      obtain ⟨A', c', hv', hr', hc1, hc2⟩ := own_open (by rw [csI_length]; exact HOwn.out)
      rw [csI_length] at hc1 hv'
      subst hv'
      have HR := Lib.hid (show Ri wr A' o from hr')
      have C1 := Lib.hid (trim_any A' o c' wr hc1 hc2 HR.out)
      have ht : trimL o = dgs 10 (vl 10 a + vl 10 b) := trimL_eq_of (by omega) ho10 (by
        have h1 := HV.out
        rw [lo_all (by omega), lo_all (by omega)] at h1
        simpa using h1)
      have HT := Lib.hid ht
      have hcm : (trimL o).length ≤ c' := Nat.le_trans (trimL_length o) hc1
      have hcm2 := Lib.hid hcm
      have hc2' := Lib.hid hc2
      clear hr' ht hcm hc2 hc1 hgo
      go_wp2_with fail
      refine C1.out.mono ?_
      rintro e w' ⟨rfl, hr2, rfl⟩
      go_wp2_with fail
      go_ret
      rw [← HT.out]
      exact ⟨A', c', rfl, hr2, hcm2.out, hc2'.out, HBel.out⟩

/-! Minus. -/
theorem at_still (A : Option Addr) (l : List Nat) (c i : Nat) (w : World) (h : Ri w A l) :
    Calls Try.prog 51 #[.slice A l.length c, .int .i64 i] w fun e w' => e = .returned (.int .i64 (l.getD i 0)) ∧ w' = w :=
  (at_any A l c i w h).mono fun _ _ ⟨h1, h2⟩ => ⟨h1, h2.symm⟩
theorem minus_step (P x y bo : Nat) (V M L : Nat) (h : V + M = L + bo * P) (z bo' : Nat) (hz : z + y + bo = x + 10 * bo') : V + P * z + (M + P * y) = L + P * x + bo' * (P * 10) := by
  have h2 := congrArg (P * ·) hz
  simp only [Nat.mul_add] at h2
  have h3 : P * (10 * bo') = bo' * (P * 10) := by rw [← Nat.mul_assoc, Nat.mul_comm]
  have h4 : P * bo = bo * P := Nat.mul_comm _ _
  omega
set_option maxHeartbeats 1600000 in
theorem minus_gen (A B : Option Addr) (a b : List Nat) (c d : Nat) (w : World) (hu : a.length ≤ 1000) (hlen : b.length ≤ a.length) (hvu : vl 10 b ≤ vl 10 a) (h10 : Lt 10 a) (k10 : Lt 10 b) (hA : Ri w A a) (hB : Ri w B b) :
    Calls Try.prog 30 #[.slice A a.length c, .slice B b.length d] w (GiveI w (dgs 10 (vl 10 a - vl 10 b))) := by
  have HLE := Lib.hid hvu
  clear hvu
  go_enter Try.func30, Try.ntmps30
  go_wp2_with fail
  go_loopw [5, 6, 7] (fun o' r i wr => ∃ (k bo : Nat) (o : List Nat), k ≤ a.length ∧ bo ≤ 1 ∧ i = .int .i64 k ∧ r = .int .i64 bo ∧ o.length = k ∧ Lt 10 o ∧ vl 10 o + lo b k = lo a k + bo * 10 ^ k ∧
    wr.ownsRow w.heap.size 3 1 o' o.length (csI o) ∧ Below w.heap.size w wr) (fun _ _ i _ => a.length - (intOf i).toNat)
  case atStart => exact ⟨0, 0, [], by omega, by omega, rfl, rfl, rfl, Lt.nil, rfl, World.ownsRow_nil _ _ _ _, Below.refl _ _⟩
  case round =>
    obtain ⟨k, bo, o, hk, hbo, rfl, rfl, ho, ho10, hv, hown, hbel⟩ := hrel
    have HV := Lib.hid hv
    have HO := Lib.hid ho
    have HBel := Lib.hid hbel
    have HOwn := Lib.hid hown
    have HLen := Lib.hid hlen
    clear hv ho hbel hown hlen
    by_cases hlt : k < a.length
    · obtain ⟨bb, off, rfl, hbb, hcell0⟩ := hA.at_ hlt
      have hcell : wr.cell? ⟨bb, off + k, none⟩ = some (.int .i64 (a[k] : Int)) := (HBel.out.cell hbb).trans hcell0
      have hx := h10 _ (List.getElem_mem hlt)
      have hy := getD_lt k10 k
      have C2 := Lib.hid (at_still B b d k wr.drew (hB.below HBel.out.drew))
      have HLA := Lib.hid (lo_succ a k)
      have HLB := Lib.hid (lo_succ b k)
      have e0 : a.getD k 0 = a[k] := by rw [List.getD_eq_getElem?_getD, List.getElem?_eq_getElem hlt]; rfl
      rw [e0] at HLA
      have HA := Lib.hid hA
      have HB := Lib.hid hB
      clear hA hB hcell0 e0
      obtain ⟨x, hxe⟩ : ∃ x, a[k] = x := ⟨_, rfl⟩
      obtain ⟨y, hye⟩ : ∃ y, b.getD k 0 = y := ⟨_, rfl⟩
      rw [hxe] at hcell hx HLA
      rw [hye] at C2 hy HLB
      have HS := Lib.hid (minus_step (10 ^ k) x y bo _ _ _ HV.out)
      clear hxe hye
      by_cases hneg : x < y + bo
      · have hn : (x : Int) - y - bo < 0 := by omega
        obtain ⟨z, hz⟩ : ∃ z : Nat, z = (x + 10 - y - bo) := ⟨_, rfl⟩
        have hz10 : z < 10 := by omega
        have hzz : z + y + bo = x + 10 * 1 := by omega
        have hzi : ((z : Nat) : Int) = (x : Int) - y - bo + 10 := by omega
        obtain ⟨v', w1, hrun, hown1, hb1⟩ := appI (w := wr.drew) (show wr.drew.ownsRow _ _ _ _ _ _ from HOwn.out) z HBel.out.size (by rw [HO.out]; omega)
        rw [hzi] at hrun
        have HOwn1 := Lib.hid hown1
        have HB1 := Lib.hid (HBel.out.drew.trans (hb1.mono (Nat.le_refl _)))
        have HV1 := Lib.hid (HS.out z 1 hzz)
        clear hown1 hb1 hzi hz hzz
        go_wp2_with fail
        refine wp_region_still_tail 10 (by kernel_rfl) (by kernel_rfl) ?_
        simp only [List.take_succ_cons, List.take_zero, List.drop_succ_cons, List.drop_zero]
        repeat still_step
        still_call C2.out
        repeat still_step
        refine wpStill_nil ?_
        change wpList _ _ _ _ _ wr.drew
        go_wp2_with (at_builtin; refine wpList_app rfl _ _ _ _ rfl _ _ rfl rfl hrun ?_)
        refine ⟨⟨k + 1, 1, o ++ [z], by omega, by omega, by go_num, rfl, by simp [HO.out], ho10.app (Lt.cons hz10 Lt.nil), ?_, HOwn1.out, HB1.out⟩, by simp [intOf]; omega⟩
        rw [vl_append, HO.out, Nat.pow_succ, HLA.out, HLB.out]
        simp only [vl, Nat.mul_zero, Nat.add_zero]
        exact HV1.out
      · have hn : 0 ≤ (x : Int) - y - bo := by omega
        obtain ⟨z, hz⟩ : ∃ z : Nat, z = (x - y - bo) := ⟨_, rfl⟩
        have hz10 : z < 10 := by omega
        have hzz : z + y + bo = x + 10 * 0 := by omega
        have hzi : ((z : Nat) : Int) = (x : Int) - y - bo := by omega
        obtain ⟨v', w1, hrun, hown1, hb1⟩ := appI (w := wr.drew) (show wr.drew.ownsRow _ _ _ _ _ _ from HOwn.out) z HBel.out.size (by rw [HO.out]; omega)
        rw [hzi] at hrun
        have HOwn1 := Lib.hid hown1
        have HB1 := Lib.hid (HBel.out.drew.trans (hb1.mono (Nat.le_refl _)))
        have HV1 := Lib.hid (HS.out z 0 hzz)
        clear hown1 hb1 hzi hz hzz
        go_wp2_with fail
        refine wp_region_still_tail 10 (by kernel_rfl) (by kernel_rfl) ?_
        simp only [List.take_succ_cons, List.take_zero, List.drop_succ_cons, List.drop_zero]
        repeat still_step
        still_call C2.out
        repeat still_step
        refine wpStill_nil ?_
        change wpList _ _ _ _ _ wr.drew
        go_wp2_with (at_builtin; refine wpList_app rfl _ _ _ _ rfl _ _ rfl rfl hrun ?_)
        refine ⟨⟨k + 1, 0, o ++ [z], by omega, by omega, by go_num, rfl, by simp [HO.out], ho10.app (Lt.cons hz10 Lt.nil), ?_, HOwn1.out, HB1.out⟩, by simp [intOf]; omega⟩
        rw [vl_append, HO.out, Nat.pow_succ, HLA.out, HLB.out]
        simp only [vl, Nat.mul_zero, Nat.add_zero]
        exact HV1.out
    · have hka : k = a.length := by omega
      subst hka
      obtain ⟨A', c', hv', hr', hc1, hc2⟩ := own_open (by rw [csI_length]; exact HOwn.out)
      rw [csI_length] at hc1 hv'
      subst hv'
      have HR := Lib.hid (show Ri wr A' o from hr')
      have C1 := Lib.hid (trim_any A' o c' wr hc1 hc2 HR.out)
      have ht : trimL o = dgs 10 (vl 10 a - vl 10 b) := trimL_eq_of (by omega) ho10 (by
        have h1 := HV.out
        have h2 := HLE.out
        have h3 := vl_lt ho10
        rw [HO.out] at h3
        rw [lo_all (Nat.le_refl _), lo_all HLen.out] at h1
        have hb2 : bo = 0 ∨ bo = 1 := by omega
        rcases hb2 with rfl | rfl <;> omega)
      have HT := Lib.hid ht
      have hcm : (trimL o).length ≤ c' := Nat.le_trans (trimL_length o) hc1
      have hcm2 := Lib.hid hcm
      have hc2' := Lib.hid hc2
      clear hr' ht hcm hc2 hc1
      go_wp2_with fail
      refine C1.out.mono ?_
      rintro e w' ⟨rfl, hr2, rfl⟩
      go_wp2_with fail
      go_ret
      rw [← HT.out]
      exact ⟨A', c', rfl, hr2, hcm2.out, hc2'.out, HBel.out⟩
theorem minus_any (A B : Option Addr) (u v c d : Nat) (w : World) (hu : (dgs 10 u).length ≤ 1000) (hvu : v ≤ u) (hA : Ri w A (dgs 10 u)) (hB : Ri w B (dgs 10 v)) :
    Calls Try.prog 30 #[.slice A (dgs 10 u).length c, .slice B (dgs 10 v).length d] w (GiveI w (dgs 10 (u - v))) := by
  have h := minus_gen A B (dgs 10 u) (dgs 10 v) c d w hu ((dgs_length (by omega) v _).2 (Nat.lt_of_le_of_lt hvu ((dgs_length (b := 10) (by omega) u _).1 (Nat.le_refl _)))) (by rw [vl_dgs (by omega), vl_dgs (by omega)]; exact hvu) (dgs_lt (by omega) _) (dgs_lt (by omega) _) hA hB
  rwa [vl_dgs (by omega), vl_dgs (by omega)] at h
end Go.Proofs.Ytenbknmpkdidoaa
