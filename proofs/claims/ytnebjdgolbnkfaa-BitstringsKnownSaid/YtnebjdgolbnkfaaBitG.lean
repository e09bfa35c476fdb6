/-
  Package bitstrings: contracts of PutNamed, GetNamed.
  Conditions: slices read as bytes, and are not longer than a million.
-/
import Derived.Test.YtnebjdgolbnkfaaBitF
import Derived.Test.YtnebjdgolbnkfaaBitL
namespace Go.Proofs.Ytnebjdgolbnkfaa.Bit
open Go.RowKit

theorem u64_nat (n : Nat) (h : n < 2 ^ 64) : (BitVec.ofInt 64 (n : Int)).toNat = n := by
  rw [BitVec.toNat_ofInt]
  omega
theorem u64_pow {k : Nat} (hk : k < 64) : IntKind.u64.wrap ((2 : Int) ^ k) = ((2 ^ k : Nat) : Int) := by
  have h : 2 ^ k < 2 ^ 64 := Nat.pow_lt_pow_right (by omega) hk
  rw [show (2 : Int) ^ k = ((2 ^ k : Nat) : Int) by simp]
  generalize 2 ^ k = m at *
  show (m : Int) % 18446744073709551616 = _
  omega
theorem and_pow (v k : Nat) : (v &&& 2 ^ k = 0) ↔ v / 2 ^ k % 2 = 0 := by
  have ht : v.testBit k = decide (v / 2 ^ k % 2 = 1) := by rw [Nat.testBit_eq_decide_div_mod_eq]
  constructor
  · intro h
    have h1 : (v &&& 2 ^ k).testBit k = false := by rw [h]; simp
    rw [Nat.testBit_and, Nat.testBit_two_pow, ht] at h1
    simp at h1
    omega
  · intro h
    apply Nat.eq_of_testBit_eq
    intro i
    rw [Nat.testBit_and, Nat.testBit_two_pow, Nat.zero_testBit]
    by_cases e : k = i
    · subst e; rw [ht, decide_eq_false (by omega)]; rfl
    · rw [decide_eq_false e, Bool.and_false]
theorem and_bit {v k : Nat} (hv : v < 2 ^ 64) (hk : k < 64) : (bits .and .u64 (v : Int) (IntKind.u64.wrap (2 ^ k)) != 0) = decide (v / 2 ^ k % 2 = 1) := by
  have h : 2 ^ k < 2 ^ 64 := Nat.pow_lt_pow_right (by omega) hk
  rw [u64_pow hk]
  show (IntKind.u64.wrap (((BitVec.ofInt 64 (v : Int) &&& BitVec.ofInt 64 ((2 ^ k : Nat) : Int)).toNat : Nat) : Int) != 0) = _
  rw [BitVec.toNat_and, u64_nat v hv, u64_nat (2 ^ k) h]
  have hle : v &&& 2 ^ k ≤ v := Nat.and_le_left
  have hz := and_pow v k
  generalize v &&& 2 ^ k = m at *
  show ((m : Int) % 18446744073709551616 != 0) = _
  by_cases hb : v / 2 ^ k % 2 = 1
  · rw [decide_eq_true hb, bne_iff_ne]
    have : m ≠ 0 := fun e => by have := hz.1 e; omega
    omega
  · rw [decide_eq_false hb, hz.2 (by omega)]; rfl
theorem or_bit {x k : Nat} (hx : x < 2 ^ k) (hk : k < 64) : bits .or .u64 (x : Int) (IntKind.u64.wrap (2 ^ k)) = ((x + 2 ^ k : Nat) : Int) := by
  have h : 2 ^ k < 2 ^ 64 := Nat.pow_lt_pow_right (by omega) hk
  have h2 : 2 ^ k + 2 ^ k ≤ 2 ^ 64 := by
    have := Nat.pow_le_pow_right (n := 2) (by omega) (show k + 1 ≤ 64 by omega)
    rw [Nat.pow_succ] at this; omega
  rw [u64_pow hk]
  show IntKind.u64.wrap (((BitVec.ofInt 64 (x : Int) ||| BitVec.ofInt 64 ((2 ^ k : Nat) : Int)).toNat : Nat) : Int) = _
  have e : x ||| 2 ^ k = x + 2 ^ k := by
    have := Nat.two_pow_add_eq_or_of_lt hx 1
    rw [Nat.mul_one] at this
    rw [Nat.or_comm, ← this, Nat.add_comm]
  rw [BitVec.toNat_or, u64_nat x (by omega), u64_nat (2 ^ k) h, e]
  generalize 2 ^ k = m at *
  show ((x + m : Nat) : Int) % 18446744073709551616 = _
  omega
theorem or8 : ∀ x s : Nat, x < 256 → s < 8 → x / 2 ^ (7 - s) % 2 = 0 → bits .or .u8 (x : Int) (128 / 2 ^ s) = ((x + 2 ^ (7 - s) : Nat) : Int) := by
  have h : ∀ x : Fin 256, ∀ s : Fin 8, x.val / 2 ^ (7 - s.val) % 2 = 0 → bits .or .u8 ((x.val : Nat) : Int) (128 / 2 ^ s.val) = ((x.val + 2 ^ (7 - s.val) : Nat) : Int) := by decide +kernel
  exact fun x s hx hs => h ⟨x, hx⟩ ⟨s, hs⟩
theorem slice_arr (g : Nat) (W : World) : (Instr.sliceAt 72 (.pointer (some ⟨g, 0, none⟩)) none none none).run Try.prog W = .ok (.slice (some ⟨g, 0, none⟩) 8 8) W := by kernel_rfl
theorem z8 : ∀ w : World, (zeroValue 72).run Try.prog w = .ok (.agg (cs8 (List.replicate 8 0)).toArray) w := fun _ => by kernel_rfl

set_option maxHeartbeats 1000000 in
set_option maxRecDepth 100000 in
theorem putn_any (v : Nat) (w : World) (hv : v < 2 ^ 64) :
    Calls Try.prog 23 #[.int .u64 (v : Int)] w (GiveN w (pnB v) (pnB v).length) := by
  have HL := Lib.hid (len_any v w hv)
  have hn := dgs2_len hv
  have HV := Lib.hid hv
  obtain ⟨n, hne⟩ : ∃ n, (dgs 2 v).length = n := ⟨_, rfl⟩
  rw [hne] at hn HL
  have HN := Lib.hid hne
  clear hne hv
  go_enter Try.func23, Try.ntmps23
  go_wp2_with fail
  refine HL.out.mono ?_
  rintro e w' ⟨rfl, rfl⟩
  go_wp2_with fail
  go_loopw [9] (fun i wr => ∃ k : Nat, k ≤ n ∧ i = .int .i64 (k : Int) ∧ Bk wr w.heap.size 72 (cs8 (byt8 ((dgs 2 v).take k))) ∧ Below w.heap.size w wr) (fun i _ => n - (intOf i).toNat)
  case atStart => exact ⟨0, Nat.zero_le _, rfl, by rw [List.take_zero, byt8_nil]; exact Bk.new _ _ _, bel1 _ _⟩
  case round =>
    obtain ⟨k, hk, rfl, hB, hbel⟩ := hrel
    have HB := Lib.hid hB
    have HBel := Lib.hid hbel
    have HBel' : Hid (Below w.heap.size w wr) := HBel
    clear hB hbel
    by_cases hlt : k < n
    · have hstep := dgs2_step HV.out (k := k) (by rw [HN.out]; exact hlt)
      have hclear := dgs2_clear (w := v) (k := k) (by rw [HN.out]; exact hlt)
      have hlt2 : vP ((dgs 2 v).take k) (8 * (k / 8)) 8 < 256 := vP_lt (fun x hx => dgs_lt (by omega) v x (List.mem_of_mem_take hx)) _ 8
      have hcell : wr.cell? ⟨w.heap.size, k / 8, none⟩ = some (.int .u8 ((vP ((dgs 2 v).take k) (8 * (k / 8)) 8 : Nat) : Int)) := by
        rw [HB.out.cell]; unfold cs8; rw [List.getElem?_map, byt8_get (by omega)]; rfl
      have hfree := HB.out.free (k / 8)
      have hsz := HB.out.lt
      have hor := or8 _ (k % 8) hlt2 (by omega) hclear
      have hand := and_bit HV.out (show k < 64 by omega)
      generalize vP ((dgs 2 v).take k) (8 * (k / 8)) 8 = x at *
      have HST := Lib.hid hstep
      have w1 : IntKind.i64.wrap ((k : Int) / 8) = (k : Int) / 8 := IntWalk.i64_in _ (by omega)
      have w2 : (k : Int).tmod 8 = (k : Int) % 8 := Int.tmod_eq_emod_of_nonneg (by omega)
      have w3 : ((k : Int) / 8).toNat = k / 8 := by omega
      have w4 : ((k : Int) % 8).toNat = k % 8 := by omega
      have w5 : 0 ≤ (k : Int) / 8 := by omega
      have w6 : (k : Int) / 8 < 8 := by omega
      have w7 : 0 ≤ (k : Int) % 8 := by omega
      have hk8 : k / 8 < 8 := by omega
      clear hstep hclear
      by_cases hb : v / 2 ^ k % 2 = 1
      · rw [decide_eq_true hb] at hand
        have HBT := Lib.hid hb
        clear hb
        go_wp2_with fail
        refine wp_region_still_tail 8 (by kernel_rfl) (by kernel_rfl) ?_
        simp only [List.take_succ_cons, List.take_zero, List.drop_succ_cons, List.drop_zero]
        repeat still_step
        refine wpStill_nil ?_
        change wpList _ _ _ _ _ wr.drew
        clear w1 w2
        go_wp2_with fail
        have hx : ((x : Int) + 2 ^ (7 - k % 8)) = ((x + 2 ^ (7 - k % 8) : Nat) : Int) := by simp
        rw [hx]
        have hs := HB.out.store (k / 8) (.int .u8 ((x + 2 ^ (7 - k % 8) : Nat) : Int))
        rw [cs8_set] at hs
        have hst := HST.out
        rw [HBT.out, Nat.one_mul] at hst
        rw [← hst] at hs
        exact ⟨⟨k + 1, by omega, by go_num, hs, (HBel.out.setCell (p := ⟨w.heap.size, k / 8, none⟩) (Nat.le_refl _) _).drew⟩, by simp [intOf]; omega⟩
      · have hb0 : v / 2 ^ k % 2 = 0 := by omega
        rw [decide_eq_false hb] at hand
        have HBT := Lib.hid hb0
        clear hb hb0
        go_wp2_with fail
        exact ⟨⟨k + 1, by omega, by go_num, by rw [dgs2_skip HV.out (by rw [HN.out]; exact hlt) HBT.out]; exact HB.out, HBel.out⟩, by simp [intOf]; omega⟩
    · obtain rfl : k = n := by omega
      have e1 : (dgs 2 v).take k = dgs 2 v := by rw [← HN.out, List.take_length]
      rw [e1] at HB
      have q := slice_arr w.heap.size
      have HF := Lib.hid (first_any (some ⟨w.heap.size, 0, none⟩) (byt8 (dgs 2 v)) 8 8 k ((k + 7) / 8) (8 * ((k + 7) / 8) - k) wr (rb_bk HB.out (byt8_all (dgs_lt (by omega) v))) (byt8_length _) (by omega) (Nat.le_refl _) (by omega) rfl rfl)
      have e2 : (8 * ((k + 7) / 8) - k) :: (byt8 (dgs 2 v)).take ((k + 7) / 8) = pnB v := by
        unfold pnB putB
        have := byt8_take (l := dgs 2 v) (by rw [HN.out]; exact hn)
        rw [HN.out] at this ⊢
        rw [this]
      rw [e2] at HF
      have HP := Lib.hid (show (pnB v).length = (k + 7) / 8 + 1 by rw [← e2]; simp [byt8_length]; omega)
      clear e1 e2 HB HN hlt
      generalize pnB v = P at *
      generalize (k + 7) / 8 + 1 = M at *
      unfold GiveN at HF
      go_wp2_with fail
      refine HF.out.mono ?_
      rintro e w1 ⟨g, rfl, hr, hl, hb, hg⟩
      have HR := Lib.hid hr
      have HB1 := bt HBel' (Lib.hid hb)
      have HG := Lib.hid hg
      clear hr hb hg hl
      go_wp2_with fail
      go_ret
      exact ⟨g, by rw [HP.out]; rfl, HR.out, rfl, HB1.out, Nat.le_trans HBel'.out.size HG.out⟩
end Go.Proofs.Ytnebjdgolbnkfaa.Bit
