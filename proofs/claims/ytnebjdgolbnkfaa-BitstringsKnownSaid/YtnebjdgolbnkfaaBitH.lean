/-
  Package bitstrings: the contract of GetNamed.
  Conditions: slices read as bytes, and are not longer than a million.
-/
import Derived.Test.YtnebjdgolbnkfaaBitG
namespace Go.Proofs.Ytnebjdgolbnkfaa.Bit
open Go.RowKit

/-- A list of named bits and an error are returned. -/
def GiveV (w : World) (v f : Nat) (e : Ending) (w' : World) : Prop :=
  e = .returned (.tuple #[.int .u64 (v : Int), .int .i64 (f : Int)]) ∧ Below w.heap.size w w'
theorem gnE_sz {l : List Nat} (h : szE l = 11) : gnE l = 11 ∧ gnV l = 0 := by
  have e : gnE l = 11 := by unfold gnE; rw [if_neg (by omega)]
  exact ⟨e, by unfold gnV; rw [if_neg (by omega)]⟩
theorem gnE_zero {l : List Nat} (h : szE l = 0) (h0 : 0 < szN l) (hb : bt1 l.tail (szN l - 1) = 0) : gnE l = 11 ∧ gnV l = 0 := by
  have e : gnE l = 11 := by unfold gnE; rw [if_pos h, if_pos ⟨h0, hb⟩]
  exact ⟨e, by unfold gnV; rw [if_neg (by omega)]⟩
theorem gnE_big {l : List Nat} (h : szE l = 0) (hb : ¬ (0 < szN l ∧ bt1 l.tail (szN l - 1) = 0)) (h64 : 64 < szN l) : gnE l = 3 ∧ gnV l = 0 := by
  have e : gnE l = 3 := by unfold gnE; rw [if_pos h, if_neg hb, if_pos h64]
  exact ⟨e, by unfold gnV; rw [if_neg (by omega)]⟩
theorem gnE_ok {l : List Nat} (h : szE l = 0) (hb : ¬ (0 < szN l ∧ bt1 l.tail (szN l - 1) = 0)) (h64 : ¬ 64 < szN l) : gnE l = 0 ∧ gnV l = vl 2 ((bts l.tail).take (szN l)) := by
  have e : gnE l = 0 := by unfold gnE; rw [if_pos h, if_neg hb, if_neg h64]
  exact ⟨e, by unfold gnV; rw [if_pos e]⟩
theorem bt1_or (l : List Nat) (i : Nat) : bt1 l i = 0 ∨ bt1 l i = 1 := by have := bt1_lt l i; omega

set_option maxHeartbeats 1000000 in
set_option maxRecDepth 100000 in
/-- The last part of GetNamed: what its loop makes. -/
theorem getn_any (A : Option Addr) (l : List Nat) (N c : Nat) (w : World) (h : Rb w A l) (hN : l.length = N) (hm : N ≤ 1000000) (hc : N ≤ c) :
    Calls Try.prog 35 #[.slice A N c] w (GiveV w (gnV l) (gnE l)) := by
  have HC := Lib.hid (size_any A l N c w h hN hm hc)
  rcases szE_or l with hs | hs
  rotate_left
  · rw [(gnE_sz hs).1, (gnE_sz hs).2]
    rw [hs] at HC
    generalize szN l = k at *
    clear h hN hs
    go_enter Try.func35, Try.ntmps35
    go_wp2_with fail
    refine HC.out.mono ?_
    rintro e w' ⟨rfl, rfl⟩
    go_wp2_with fail
    go_ret2
    exact ⟨rfl, Below.refl _ _⟩
  obtain ⟨u, t, rfl, x1, x2, x3, x4⟩ := szE_0 hs
  have hN1 : 1 ≤ N := by rw [← hN]; simp
  obtain ⟨A', q1, q2, hA'⟩ := slice_one N c A (u :: t) hN hN1 hc
  obtain ⟨M, hM⟩ : ∃ M, N - 1 = M := ⟨_, rfl⟩
  rw [hM] at q1 q2
  have hM6 : M ≤ 1000000 := by omega
  have hr := hA' w h
  simp only [List.tail_cons] at hr
  have htl : t.length = M := by rw [List.length_cons] at hN; omega
  have hk8 : szN (u :: t) ≤ 8 * M := by rw [x2]; omega
  have HG0 := Lib.hid (gnE_zero hs)
  have HG1 := Lib.hid (gnE_big hs)
  have HG2 := Lib.hid (gnE_ok hs)
  simp only [List.tail_cons] at HG0 HG1 HG2
  rw [hs] at HC
  generalize szN (u :: t) = n at *
  generalize gnE (u :: t) = E at *
  generalize gnV (u :: t) = V at *
  have HS := Lib.hid (fun (W : World) (hW : Rb W A' t) (i : Nat) (hi : i < 8 * M) => isset_any A' t M (c - 1) i W hW htl hM6 hi)
  have HR := Lib.hid hr
  have HT := Lib.hid htl
  clear h hN hA' hM hr htl x1 x2 x3 x4 hs
  by_cases hz : n = 0
  · subst hz
    obtain ⟨e1, e2⟩ := HG2.out (by omega) (by omega)
    rw [e1, e2, List.take_zero]
    clear HG0 HG1 HG2 e1 e2
    go_enter Try.func35, Try.ntmps35
    go_wp2_with fail
    refine HC.out.mono ?_
    rintro e w' ⟨rfl, rfl⟩
    go_wp2_with fail
    go_loopw [7, 31] (fun v i wr => v = .int .u64 0 ∧ i = .int .i64 0 ∧ wr = w) (fun _ _ _ => 0)
    case atStart => exact ⟨rfl, rfl, rfl⟩
    case round =>
      obtain ⟨rfl, rfl, rfl⟩ := hrel
      go_wp2_with fail
      go_ret2
      exact ⟨rfl, Below.refl _ _⟩
  have hn0 : (0 : Int) < (n : Int) := by omega
  have hcast : ((n : Int) - 1) = ((n - 1 : Nat) : Int) := by omega
  have HS1 := Lib.hid (HS.out w HR.out (n - 1) (by omega))
  rw [← hcast] at HS1
  rcases bt1_or t (n - 1) with hb | hb
  · obtain ⟨rfl, rfl⟩ := HG0.out (by omega) hb
    rw [hb] at HS1
    rw [show decide ((0 : Nat) = 1) = false from rfl] at HS1
    clear HG0 HG1 HG2 hb hcast HS
    go_enter Try.func35, Try.ntmps35
    go_wp2_with fail
    refine HC.out.mono ?_
    rintro e w' ⟨rfl, rfl⟩
    go_wp2_with fail
    refine HS1.out.mono ?_
    rintro e w1 ⟨rfl, m, rfl⟩
    go_wp2_with fail
    go_ret2
    exact ⟨rfl, bel_drewN _ _⟩
  by_cases h64 : 64 < n
  · obtain ⟨rfl, rfl⟩ := HG1.out (by omega) h64
    rw [hb] at HS1
    rw [show decide ((1 : Nat) = 1) = true from rfl] at HS1
    clear HG0 HG1 HG2 hb hcast HS
    go_enter Try.func35, Try.ntmps35
    go_wp2_with fail
    refine HC.out.mono ?_
    rintro e w' ⟨rfl, rfl⟩
    go_wp2_with fail
    refine HS1.out.mono ?_
    rintro e w1 ⟨rfl, m, rfl⟩
    go_wp2_with fail
    go_ret2
    exact ⟨rfl, bel_drewN _ _⟩
  obtain ⟨e1, e2⟩ := HG2.out (by omega) h64
  rw [e1, e2]
  rw [hb] at HS1
  rw [show decide ((1 : Nat) = 1) = true from rfl] at HS1
  have HL := Lib.hid (show ((bts t).take n).length = n by rw [List.length_take, bts_length, HT.out]; omega)
  have HLt := Lib.hid (show Lt 2 ((bts t).take n) from fun x hx => bts_lt t x (List.mem_of_mem_take hx))
  have HD := Lib.hid (show ∀ k, k < n → ((bts t).take n).getD k 0 = bt1 t k from fun k hk => by
    rw [List.getD_eq_getElem?_getD, List.getElem?_take, if_pos hk, ← List.getD_eq_getElem?_getD, bts_getD])
  generalize (bts t).take n = L at *
  clear HG0 HG1 HG2 hb hcast e1 e2
  go_enter Try.func35, Try.ntmps35
  go_wp2_with fail
  refine HC.out.mono ?_
  rintro e w' ⟨rfl, rfl⟩
  go_wp2_with fail
  refine HS1.out.mono ?_
  rintro e w1 ⟨rfl, m, rfl⟩
  go_wp2_with fail
  go_loopw [7, 31] (fun v i wr => ∃ k : Nat, k ≤ n ∧ i = .int .i64 (k : Int) ∧ v = .int .u64 ((vl 2 (L.take k) : Nat) : Int) ∧ Below w.heap.size w wr) (fun _ i _ => n - (intOf i).toNat)
  case atStart => exact ⟨0, Nat.zero_le _, rfl, rfl, bel_drewN _ _⟩
  case round =>
    obtain ⟨k, hk, rfl, rfl, hbel⟩ := hrel
    have HBel := Lib.hid hbel
    clear hbel
    by_cases hlt : k < n
    · have HSk := Lib.hid (HS.out wr (HR.out.below HBel.out) k (by omega))
      have HST := Lib.hid (vl2_take (l := L) (k := k) (by rw [HL.out]; exact hlt))
      rw [HD.out k hlt] at HST
      have hor := or_bit (vl2_lt_take HLt.out k) (show k < 64 by omega)
      generalize vl 2 (L.take k) = x at *
      rcases bt1_or t k with hb | hb
      · rw [hb] at HSk HST
        rw [show decide ((0 : Nat) = 1) = false from rfl] at HSk
        clear hb hor
        go_wp2_with fail
        refine HSk.out.mono ?_
        rintro e w1 ⟨rfl, m, rfl⟩
        go_wp2_with fail
        exact ⟨⟨k + 1, by omega, by go_num, by rw [HST.out, Nat.mul_zero, Nat.add_zero], HBel.out.trans ((bel_drewN wr m).mono HBel.out.size)⟩, by simp [intOf]; omega⟩
      · rw [hb] at HSk HST
        rw [show decide ((1 : Nat) = 1) = true from rfl] at HSk
        clear hb
        go_wp2_with fail
        refine HSk.out.mono ?_
        rintro e w1 ⟨rfl, m, rfl⟩
        go_wp2_with fail
        exact ⟨⟨k + 1, by omega, by go_num, by rw [HST.out, Nat.mul_one]; simp, HBel.out.trans ((bel_drewN wr m).mono HBel.out.size)⟩, by simp [intOf]; omega⟩
    · obtain rfl : k = n := by omega
      have HLL := Lib.hid (show L.take k = L by rw [← HL.out, List.take_length])
      clear hlt
      go_wp2_with fail
      go_ret2
      exact ⟨by rw [HLL.out]; rfl, HBel.out⟩
end Go.Proofs.Ytnebjdgolbnkfaa.Bit
