/-
  Layer 10: digits of the reference.
  Conditions: the number is not negative.
-/
import Derived.Test.YtecmgkmonehmfaaDoorTimJ
namespace Go.Proofs.YtecmgkmonehmfaaDoor.Tim
open Go.RowKit
attribute [local go_sem] Oper.semAt_some

/-- The digits of a number, the last ones. -/
def dgl : Nat → Nat → List Nat
  | 0, _ => []
  | k + 1, n => (48 + n / 10 ^ k % 10) :: dgl k n
theorem dgl_len (k n : Nat) : (dgl k n).length = k := by
  induction k with
  | zero => rfl
  | succ k ih => unfold dgl; rw [List.length_cons, ih]
theorem dgl_8 (k n : Nat) : All8 (dgl k n) := by
  induction k with
  | zero => exact fun _ h => by cases h
  | succ k ih =>
    intro x hx
    unfold dgl at hx
    rcases List.mem_cons.1 hx with rfl | h
    · omega
    · exact ih x h
def S10 : ByteArray := ⟨#[48, 49, 50, 51, 52, 53, 54, 55, 56, 57]⟩
theorem S10_at (d : Nat) (h : d < 10) : S10.extract d (d + 1) = bstr [48 + d] := by
  rcases (show d = 0 ∨ d = 1 ∨ d = 2 ∨ d = 3 ∨ d = 4 ∨ d = 5 ∨ d = 6 ∨ d = 7 ∨ d = 8 ∨ d = 9 by omega) with rfl | rfl | rfl | rfl | rfl | rfl | rfl | rfl | rfl | rfl <;> rfl
theorem S10_slice (d : Nat) (h : d < 10) (W : World) : (Instr.slice 9 (.string S10) (some (.int .i64 (d : Int))) (some (.int .i64 ((d : Int) + 1))) none).run Tryd.prog W = .ok (.string (bstr [48 + d])) W := by
  rw [run_slice_string (P := Tryd.prog) W 9 S10 .i64 .i64 (d : Int) ((d : Int) + 1) Tryd.underlying9 (by omega) (by omega) (by have : S10.size = 10 := rfl; omega)]
  rw [← S10_at d h]
  congr 3
  
set_option linter.unusedSimpArgs false in
set_option linter.unusedVariables false in
set_option maxHeartbeats 4000000 in
set_option maxRecDepth 100000 in
theorem digits_any (n m : Nat) (hn : n ≤ 1000000) (hm : m ≤ 100) (w : World) : Calls Tryd.prog 37 #[.int .i64 (n : Int), .int .i64 (m : Int)] w fun e w' => e = .returned (.string (bstr (dgl m n))) ∧ w = w' := by
  have hS : (⟨#[48, 49, 50, 51, 52, 53, 54, 55, 56, 57]⟩ : ByteArray) = S10 := rfl
  have hSl := S10_slice
  go_enter Tryd.func37, Tryd.ntmps37
  go_upto_region 3 with fail
  go_loopw [0, 5, 6] (fun a s i wr => ∃ k : Nat, k ≤ m ∧ a = .int .i64 ((n / 10 ^ k : Nat) : Int) ∧ s = .string (bstr (dgl k n)) ∧ i = .int .i64 (k : Int) ∧ w = wr) (fun _ _ i _ => m - (intOf i).toNat)
  case atStart => exact ⟨0, Nat.zero_le _, by rw [Nat.pow_zero, Nat.div_one], rfl, rfl, rfl⟩
  case round =>
    obtain ⟨k, hk, rfl, rfl, rfl, rfl⟩ := hrel
    by_cases hlt : k < m
    · have hN2 : Hid (n / 10 ^ (k + 1) = n / 10 ^ k / 10) := Lib.hid (by rw [Nat.pow_succ, Nat.div_div_eq_div_mul])
      have hle : n / 10 ^ k ≤ 1000000 := Nat.le_trans (Nat.div_le_self _ _) hn
      have hD2 : Hid (bstr (dgl (k + 1) n) = bstr [48 + n / 10 ^ k % 10] ++ bstr (dgl k n)) := Lib.hid (by rw [bstr_app]; rfl)
      generalize n / 10 ^ k = q at *
      obtain ⟨T, hT⟩ : ∃ T, bstr (dgl k n) = T := ⟨_, rfl⟩
      rw [hT] at hD2
      rw [hT]
      have hsl := hSl (q % 10) (by omega)
      have hTz : T.size = k := by rw [← hT, bstr_size, dgl_len]
      obtain ⟨T1, hT1⟩ : ∃ T1, bstr [48 + q % 10] = T1 := ⟨_, rfl⟩
      have hT1z : T1.size = 1 := by rw [← hT1, bstr_size]; rfl
      have hsz : ¬ 9223372036854775807 < T1.size + T.size := by omega
      rw [hT1] at hsl hD2
      have hli : (k : Int) < (m : Int) := by omega
      obtain ⟨d, hd⟩ : ∃ d, q % 10 = d := ⟨_, rfl⟩
      have hdi : (q : Int) % 10 = (d : Int) := by omega
      obtain ⟨q2, hq2⟩ : ∃ q2, q / 10 = q2 := ⟨_, rfl⟩
      have hqi : (q : Int) / 10 = (q2 : Int) := by omega
      have hd10 : d < 10 := by omega
      have hw1 : IntKind.i64.wrap ((d : Int) + 1) = (d : Int) + 1 := by rw [IntKind.wrap_i64]; omega
      rw [hd] at hsl
      clear hT hT1 hd hlt hSl hTz hT1z
      rw [hq2] at hN2
      clear hq2
      go_wp2_with fail
      exact ⟨⟨k + 1, by omega, by rw [hN2.out], by rw [hD2.out], by go_num, trivial⟩, by simp [intOf]; omega⟩
    · obtain rfl : k = m := by omega
      go_wp2_with fail
      go_ret
      exact ⟨rfl, rfl⟩
end Go.Proofs.YtecmgkmonehmfaaDoor.Tim
