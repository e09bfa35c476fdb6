/-
  Layer 10: Seconds of the reference.
  Conditions: the time's fields are in their ranges.
-/
import Derived.Test.YtecmgkmonehmfaaDoorTimE
namespace Go.Proofs.YtecmgkmonehmfaaDoor.Tim
open Go.RowKit

theorem lpT_nat (k : Nat) : lpT (k : Int) = decide (k % 4 = 0 ∧ k % 100 ≠ 0 ∨ k % 400 = 0) := by
  have e : ∀ j : Nat, ((k : Int).tmod (j : Int) == 0) = decide (k % j = 0) := fun j => by
    rw [show (k : Int).tmod (j : Int) = ((k % j : Nat) : Int) from rfl]
    by_cases h : k % j = 0
    · rw [h]; rfl
    · rw [decide_eq_false h, beq_eq_false_iff_ne]; omega
  unfold lpT
  rw [show (4 : Int) = ((4 : Nat) : Int) from rfl, show (100 : Int) = ((100 : Nat) : Int) from rfl, show (400 : Int) = ((400 : Nat) : Int) from rfl, e, e, e]
  simp
theorem mul_succ (k j : Nat) (hj : j = 4 ∨ j = 100 ∨ j = 400) : mulT (k + 1) j = mulT k j + (if k % j = 0 then 1 else 0) := by
  unfold mulT
  rcases hj with rfl | rfl | rfl <;> split <;> omega
theorem m100_le (k : Nat) : mulT k 100 ≤ mulT k 4 := by unfold mulT; omega
theorem dbT_succ (k : Nat) : dbT (k + 1) = dbT k + 365 + (if lpT (k : Int) = true then 1 else 0) := by
  have h1 := m100_le k
  unfold dbT
  rw [mul_succ k 4 (by simp), mul_succ k 100 (by simp), mul_succ k 400 (by simp), lpT_nat]
  by_cases h4 : k % 4 = 0
  · by_cases h100 : k % 100 = 0
    · by_cases h400 : k % 400 = 0
      · simp [h4, h100, h400]; omega
      · simp [h4, h100, h400]; omega
    · have h400 : ¬ k % 400 = 0 := by omega
      simp [h4, h100, h400]; omega
  · have h100 : ¬ k % 100 = 0 := by omega
    have h400 : ¬ k % 400 = 0 := by omega
    simp [h4, h100, h400]; omega
theorem dbT_0 : dbT 0 = 0 := rfl
theorem dbT_mono {a b : Nat} (h : a ≤ b) : dbT a ≤ dbT b := by
  induction b with
  | zero => rw [show a = 0 by omega]; exact Nat.le_refl _
  | succ b ih =>
    rcases Nat.lt_or_ge a (b + 1) with h1 | h1
    · have := ih (by omega); rw [dbT_succ]; omega
    · rw [show a = b + 1 by omega]; exact Nat.le_refl _

set_option linter.unusedSimpArgs false in
set_option linter.unusedVariables false in
set_option maxHeartbeats 4000000 in
set_option maxRecDepth 100000 in
theorem rsecs_any (y m d h mi s : Nat) (hy : y ≤ 9999) (hm0 : 1 ≤ m) (hm : m ≤ 12) (hd0 : 1 ≤ d) (hd : d ≤ 31) (hh : h ≤ 23) (hmi : mi ≤ 59) (hs : s ≤ 59) (w : World) :
    Calls Tryd.prog 30 #[tV y m d h mi s] w fun e w' => e = .returned (.int .i64 (ssT y m d h mi s : Int)) ∧ Below w.heap.size w w' := by
  obtain ⟨g, hg⟩ : ∃ g, w.heap.size = g := ⟨_, rfl⟩
  obtain ⟨w1, hw1⟩ : ∃ w1, w.alloc (.cells #[.int .i64 (y : Int), .int .i64 (m : Int), .int .i64 (d : Int), .int .i64 (h : Int), .int .i64 (mi : Int), .int .i64 (s : Int)] 23) = w1 := ⟨_, rfl⟩
  have B1 : Hid (Below w.heap.size w w1) := Lib.hid (by rw [← hw1]; exact bel1 w _)
  have K1 : Hid (Bk w1 g 23 (tL y m d h mi s)) := Lib.hid (by rw [← hw1, ← hg]; exact Bk.new w _ (tL y m d h mi s))
  have HW1 := Lib.hid hw1
  have HG := Lib.hid hg
  clear hw1 hg
  obtain ⟨R, hR⟩ : ∃ R, ssT y m d h mi s = R := ⟨_, rfl⟩
  rw [hR]
  have HR := Lib.hid hR
  have CL := Lib.hid (fun (k : Nat) W => rleap_any k W)
  clear hR
  have c0 : w1.cell? ⟨g, 0, none⟩ = some (.int .i64 (y : Int)) := by rw [K1.out.cell]; rfl
  have c1 : w1.cell? ⟨g, 1, none⟩ = some (.int .i64 (m : Int)) := by rw [K1.out.cell]; rfl
  have c2 : w1.cell? ⟨g, 2, none⟩ = some (.int .i64 (d : Int)) := by rw [K1.out.cell]; rfl
  have c3 : w1.cell? ⟨g, 3, none⟩ = some (.int .i64 (h : Int)) := by rw [K1.out.cell]; rfl
  have c4 : w1.cell? ⟨g, 4, none⟩ = some (.int .i64 (mi : Int)) := by rw [K1.out.cell]; rfl
  have c5 : w1.cell? ⟨g, 5, none⟩ = some (.int .i64 (s : Int)) := by rw [K1.out.cell]; rfl
  go_enter Tryd.func30, Tryd.ntmps30
  go_upto_region 1 with fail
  rw [HW1.out, HG.out]
  go_upto_region 3 with fail
  go_loopw [3, 4] (fun n i wr => ∃ k : Nat, k ≤ y ∧ n = .int .i64 (dbT k : Int) ∧ i = .int .i64 (k : Int) ∧ w1 = wr) (fun _ i _ => y - (intOf i).toNat)
  case atStart => exact ⟨0, Nat.zero_le _, rfl, rfl, rfl⟩
  case round =>
    obtain ⟨k, hk, rfl, rfl, rfl⟩ := hrel
    by_cases hlt : k < y
    · have hle := dbT_le k (by omega)
      have HS := Lib.hid (dbT_succ k)
      generalize dbT k = N at *
      have q1 : IntKind.i64.wrap ((N : Int) + 365) = (N : Int) + 365 := by rw [IntKind.wrap_i64]; omega
      have q2 : IntKind.i64.wrap ((N : Int) + 365 + 1) = (N : Int) + 365 + 1 := by rw [IntKind.wrap_i64]; omega
      have hlti : (k : Int) < (y : Int) := by omega
      have CK := Lib.hid (CL.out k w1)
      obtain ⟨v, hv⟩ : ∃ v, lpT (k : Int) = v := ⟨_, rfl⟩
      rw [hv] at CK HS
      clear hv hlt CL
      cases v
      · go_wp2_with fail
        refine CK.out.mono ?_
        rintro e w4 ⟨rfl, rfl⟩
        go_wp2_with fail
        exact ⟨⟨k + 1, by omega, by rw [HS.out]; go_num, by go_num, trivial⟩, by simp [intOf]; omega⟩
      · go_wp2_with fail
        refine CK.out.mono ?_
        rintro e w4 ⟨rfl, rfl⟩
        go_wp2_with fail
        exact ⟨⟨k + 1, by omega, by rw [HS.out]; go_num, by go_num, trivial⟩, by simp [intOf]; omega⟩
    · obtain rfl : k = y := by omega
      obtain ⟨N0, hN0⟩ : ∃ N0, dbT k = N0 := ⟨_, rfl⟩
      have hN0l : N0 ≤ 3700000 := by rw [← hN0]; exact dbT_le k (by omega)
      rw [hN0]
      have HN0 := Lib.hid hN0
      have CD := Lib.hid (fun (q : Nat) W => rdays_any k q W)
      clear hN0 hlt CL
      go_upto_region 9 with fail
      go_loopw [3, 5] (fun n i wr => ∃ q : Nat, 1 ≤ q ∧ q ≤ m ∧ n = .int .i64 ((N0 + msT k (q - 1) : Nat) : Int) ∧ i = .int .i64 (q : Int) ∧ w1 = wr) (fun _ i _ => m - (intOf i).toNat)
      case atStart => exact ⟨1, Nat.le_refl _, hm0, rfl, rfl, rfl⟩
      case round =>
        obtain ⟨q, hq1, hqm, rfl, rfl, rfl⟩ := hrel
        have hml := msT_le k (q - 1)
        obtain ⟨N, hN⟩ : ∃ N, N0 + msT k (q - 1) = N := ⟨_, rfl⟩
        rw [hN]
        have hNl : N ≤ 3702000 := by omega
        by_cases hlt : q < m
        · have CD2 := Lib.hid (CD.out q w1)
          have hz := dyT_le k q
          have HZ : Hid (N0 + msT k (q + 1 - 1) = N + dyT k q) := Lib.hid (by
            rw [← hN, Nat.add_sub_cancel]
            obtain ⟨p, rfl⟩ : ∃ p, q = p + 1 := ⟨q - 1, by omega⟩
            rw [Nat.add_sub_cancel]
            show _ + (msT k p + dyT k ((p : Int) + 1)) = _
            rw [Int.natCast_add]
            show _ + (_ + _) = _ + _ + dyT k ((p : Int) + 1)
            omega)
          generalize dyT k q = Z at *
          have q3 : IntKind.i64.wrap ((N : Int) + (Z : Int)) = (N : Int) + (Z : Int) := by rw [IntKind.wrap_i64]; omega
          have hlti : (q : Int) < (m : Int) := by omega
          clear hN hml CD
          go_wp2_with fail
          refine CD2.out.mono ?_
          rintro e w4 ⟨rfl, rfl⟩
          go_wp2_with fail
          exact ⟨⟨q + 1, by omega, by omega, by rw [HZ.out]; go_num, by go_num, trivial⟩, by simp [intOf]; omega⟩
        · obtain rfl : q = m := by omega
          have HF : Hid (((24 * ((N : Int) + (d : Int) - 1) + (h : Int)) * 60 + (mi : Int)) * 60 + (s : Int) = (R : Int)) := Lib.hid (by rw [← HR.out, ← hN, ← HN0.out]; unfold ssT; omega)
          have q1 : IntKind.i64.wrap ((N : Int) + (d : Int)) = (N : Int) + (d : Int) := by rw [IntKind.wrap_i64]; omega
          have q2 : IntKind.i64.wrap ((N : Int) + (d : Int) - 1) = (N : Int) + (d : Int) - 1 := by rw [IntKind.wrap_i64]; omega
          have q3 : IntKind.i64.wrap (24 * ((N : Int) + (d : Int) - 1)) = 24 * ((N : Int) + (d : Int) - 1) := by rw [IntKind.wrap_i64]; omega
          have q4 : IntKind.i64.wrap (24 * ((N : Int) + (d : Int) - 1) + (h : Int)) = 24 * ((N : Int) + (d : Int) - 1) + (h : Int) := by rw [IntKind.wrap_i64]; omega
          have q5 : IntKind.i64.wrap ((24 * ((N : Int) + (d : Int) - 1) + (h : Int)) * 60) = (24 * ((N : Int) + (d : Int) - 1) + (h : Int)) * 60 := by rw [IntKind.wrap_i64]; omega
          have q6 : IntKind.i64.wrap ((24 * ((N : Int) + (d : Int) - 1) + (h : Int)) * 60 + (mi : Int)) = (24 * ((N : Int) + (d : Int) - 1) + (h : Int)) * 60 + (mi : Int) := by rw [IntKind.wrap_i64]; omega
          have q7 : IntKind.i64.wrap (((24 * ((N : Int) + (d : Int) - 1) + (h : Int)) * 60 + (mi : Int)) * 60) = ((24 * ((N : Int) + (d : Int) - 1) + (h : Int)) * 60 + (mi : Int)) * 60 := by rw [IntKind.wrap_i64]; omega
          have q8 : IntKind.i64.wrap (((24 * ((N : Int) + (d : Int) - 1) + (h : Int)) * 60 + (mi : Int)) * 60 + (s : Int)) = ((24 * ((N : Int) + (d : Int) - 1) + (h : Int)) * 60 + (mi : Int)) * 60 + (s : Int) := by rw [IntKind.wrap_i64]; omega
          clear hN hml hlt
          go_wp2_with fail
          go_ret
          exact ⟨by rw [← HF.out]; rfl, B1.out⟩
end Go.Proofs.YtecmgkmonehmfaaDoor.Tim
