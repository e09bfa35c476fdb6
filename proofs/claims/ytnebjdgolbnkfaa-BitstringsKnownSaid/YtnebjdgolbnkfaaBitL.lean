/-
  bits.Len64: its contract: how many binary digits a number has.
  Conditions: none.
-/
import Derived.Test.YtnebjdgolbnkfaaRows
import Derived.Test.YtnebjdgolbnkfaaBitV
import Derived.Lib.Strings
import Derived.Lib.Slices
import Derived.Lib.Small
import Derived.Lib.Walk
import Derived.Lib.BitFns
import Derived.Lib.ItoaNum
namespace Go.Proofs.Ytnebjdgolbnkfaa.Bit
open Go.RowKit

theorem blen {n : Nat} (h : n < 2 ^ 64) : Lib.bitLen n = (dgs 2 n).length := by
  by_cases h0 : n = 0
  · subst h0; rfl
  · obtain ⟨h1, h2, h3⟩ := Lib.bitLenAux_bounds 64 n h (by omega)
    change 1 ≤ Lib.bitLen n at h1
    change 2 ^ (Lib.bitLen n - 1) ≤ n at h2
    change n < 2 ^ Lib.bitLen n at h3
    have a := (dgs_length (b := 2) (by omega) n (Lib.bitLen n)).2 h3
    have b : ¬ (dgs 2 n).length ≤ Lib.bitLen n - 1 := fun e => by
      have := (dgs_length (b := 2) (by omega) n (Lib.bitLen n - 1)).1 e
      omega
    omega
theorem dgs_shift : ∀ (k n : Nat), 2 ^ k ≤ n → (dgs 2 n).length = k + (dgs 2 (n / 2 ^ k)).length := by
  intro k
  induction k with
  | zero => intro n _; simp
  | succ k ih =>
    intro n h
    rw [Nat.pow_succ] at h
    have hp : 0 < 2 ^ k := Nat.pow_pos (by omega)
    rw [dgs_pos (by omega) (show n ≠ 0 by omega), List.length_cons, ih (n / 2) (by omega), Nat.div_div_eq_div_mul, Nat.pow_succ, Nat.mul_comm 2 (2 ^ k)]
    omega
theorem tab_size : (Lib.len8tab.size : Int) = 256 := by
  have : Lib.len8tab.size = 256 := by decide +kernel
  omega
theorem tab_get : ∀ (n : Nat) (h : n < Lib.len8tab.size), n < 256 → (Lib.len8tab[n]'h).toNat = Lib.bitLen n := by
  have e : ∀ i : Fin 256, ∀ h : i.val < Lib.len8tab.size, (Lib.len8tab[i.val]'h).toNat = Lib.bitLen i.val := by decide +kernel
  exact fun n h hn => e ⟨n, hn⟩ h
/-- The eight ways: by how much is shifted ahead of the table. -/
theorem len_way {x : Int} (h0 : 0 ≤ x) (h1 : x ≤ 18446744073709551615) (k : Nat) (hk : 2 ^ k ≤ x.toNat ∨ k = 0) {y : Int} (hy : y = x / 2 ^ k) (h8 : y < 256) (h : y.toNat < Lib.len8tab.size) {r : Int} (hr : r = (k : Int) + ((Lib.len8tab[y.toNat]'h).toNat : Int)) : r = ((dgs 2 x.toNat).length : Int) := by
  have hp : (0 : Int) < 2 ^ k := Int.pow_pos (by omega)
  have hd0 : 0 ≤ x / 2 ^ k := Int.ediv_nonneg h0 (by omega)
  have hyn : y.toNat = x.toNat / 2 ^ k := by
    rw [hy]
    obtain ⟨n, rfl⟩ : ∃ n : Nat, x = n := ⟨x.toNat, by omega⟩
    rw [show (2 : Int) ^ k = ((2 ^ k : Nat) : Int) by simp, ← Int.natCast_ediv]
    rfl
  rw [hr, tab_get _ h (by omega), blen (by omega), hyn]
  rcases hk with hk | rfl
  · rw [dgs_shift k x.toNat hk]; omega
  · simp
theorem wrap_small {z : Int} (h0 : 0 ≤ z) (h1 : z < 1000) : wrap64 z = z := by unfold wrap64; omega
theorem tab_le {n : Nat} (h : n < Lib.len8tab.size) : (Lib.len8tab[n]'h).toNat < 256 := (Lib.len8tab[n]'h).toNat_lt
theorem wrap_in {t : Nat} (h : t < 256) : wrap64 (t : Int) = (t : Int) := wrap_small (by omega) (by omega)
theorem wrap_in2 {t : Nat} (h : t < 256) (k : Nat) (hk : k < 100) : wrap64 ((k : Int) + (t : Int)) = (k : Int) + (t : Int) := wrap_small (by omega) (by omega)
set_option maxHeartbeats 4000000 in
set_option maxRecDepth 100000 in
theorem len_int (x : Int) (w : World) (h0 : 0 ≤ x) (h1 : x ≤ 18446744073709551615) :
    Calls Try.prog 36 #[.int .u64 x] w fun e w' => e = .returned (.int .i64 ((dgs 2 x.toNat).length : Int)) ∧ w = w' := by
  have hs := tab_size
  go_enter Try.func36, Try.ntmps36
  go_wp2
  all_goals (go_ret; refine ⟨congrArg Ending.returned (congrArg (Value.int IntKind.i64) ?_), rfl⟩)
  all_goals rw [wrap_in (tab_le _)]
  · exact len_way h0 h1 56 (Or.inl (by omega)) (by omega) (by omega) _ (wrap_in2 (tab_le _) 56 (by omega))
  · exact len_way h0 h1 48 (Or.inl (by omega)) (by omega) (by omega) _ (wrap_in2 (tab_le _) 48 (by omega))
  · exact len_way h0 h1 40 (Or.inl (by omega)) (by omega) (by omega) _ (wrap_in2 (tab_le _) 40 (by omega))
  · exact len_way h0 h1 32 (Or.inl (by omega)) (by omega) (by omega) _ (wrap_in2 (tab_le _) 32 (by omega))
  · exact len_way h0 h1 24 (Or.inl (by omega)) (by omega) (by omega) _ (wrap_in2 (tab_le _) 24 (by omega))
  · exact len_way h0 h1 16 (Or.inl (by omega)) (by omega) (by omega) _ (wrap_in2 (tab_le _) 16 (by omega))
  · exact len_way h0 h1 8 (Or.inl (by omega)) (by omega) (by omega) _ (wrap_in2 (tab_le _) 8 (by omega))
  · exact len_way (y := x) h0 h1 0 (Or.inr rfl) (by simp) (by omega) (by omega) (by rw [wrap_in (tab_le _)]; simp)
theorem len_any (x : Nat) (w : World) (h : x < 2 ^ 64) :
    Calls Try.prog 36 #[.int .u64 (x : Int)] w fun e w' => e = .returned (.int .i64 ((dgs 2 x).length : Int)) ∧ w = w' :=
  len_int (x : Int) w (by omega) (by omega)
end Go.Proofs.Ytnebjdgolbnkfaa.Bit
