/-
  Plain arithmetic: the groups of seven bits of a number.
  Conditions: none (no program is named here).
-/
import Derived.Test.YtgdjgahmnnjeeaaNum
import Derived.Lib.ItoaNum
namespace Go.Proofs.Ytgdjgahmnnjeeaa

/-- The groups of a number above 0, as octets. -/
def gl (n : Nat) : List Nat := ((dgs 128 (n / 128)).map (128 + ·)).reverse ++ [n % 128]
/-- What the iterator yields at the place i, counted from the last one. -/
def item (n i : Nat) : Nat × Bool := (n / 128 ^ i % 128, decide (0 < i))
/-- What it yields in all. -/
def items (n L : Nat) : List (Nat × Bool) := (List.range L).map fun j => item n (L - 1 - j)
/-- The octet of a group. -/
def oct (x : Nat × Bool) : Nat := if x.2 then 128 + x.1 else x.1
theorem items_length (n L : Nat) : (items n L).length = L := by simp [items]
theorem oct_lt {n i : Nat} : oct (item n i) < 256 := by
  have : n / 128 ^ i % 128 < 128 := Nat.mod_lt _ (by omega)
  unfold oct item; split <;> simp <;> omega
theorem items_lt {n L : Nat} {x : Nat × Bool} (h : x ∈ items n L) : x.1 < 128 := by
  simp only [items, List.mem_map, List.mem_range] at h
  obtain ⟨j, _, rfl⟩ := h
  exact Nat.mod_lt _ (by omega)
theorem items_take {n L j : Nat} (h : j < L) : (items n L).take (j + 1) = (items n L).take j ++ [item n (L - 1 - j)] := by
  rw [List.take_succ_eq_append_getElem (by rw [items_length]; exact h)]
  congr 1
  simp [items]
theorem am_eq (L : Nat) : ∀ m : Nat, m < 128 ^ L → (L ≠ 0 → 128 ^ (L - 1) ≤ m) → (List.range L).map (fun j => 128 + m / 128 ^ (L - 1 - j) % 128) = ((dgs 128 m).map (128 + ·)).reverse := by
  induction L with
  | zero => intro m h _; obtain rfl : m = 0 := by simpa using h
            rfl
  | succ L ih =>
    intro m h h1
    have h1 : 128 ^ L ≤ m := by simpa using h1
    have hp : 0 < 128 ^ L := Nat.pow_pos (by omega)
    rw [dgs_pos (by omega) (by omega), List.map_cons, List.reverse_cons, ← ih (m / 128) (by rw [Nat.pow_succ] at h; omega) (fun hL => by
      obtain ⟨K, rfl⟩ : ∃ K, L = K + 1 := ⟨L - 1, by omega⟩
      rw [Nat.pow_succ] at h1
      simp only [Nat.add_sub_cancel]
      omega), List.range_succ, List.map_append]
    simp only [List.map_cons, List.map_nil, Nat.add_sub_cancel, Nat.sub_self, Nat.pow_zero, Nat.div_one]
    congr 1
    apply List.map_congr_left
    intro j hj
    have hj := List.mem_range.1 hj
    rw [show L - j = (L - 1 - j) + 1 by omega, Nat.pow_succ, Nat.mul_comm, ← Nat.div_div_eq_div_mul]
theorem octs_eq {n L : Nat} (h : n < 128 ^ (L + 1)) (h1 : 128 ^ L ≤ n) : (items n (L + 1)).map oct = gl n := by
  unfold gl
  rw [← am_eq L (n / 128) (by rw [Nat.pow_succ] at h; omega) (fun hL => by
      obtain ⟨K, rfl⟩ : ∃ K, L = K + 1 := ⟨L - 1, by omega⟩
      rw [Nat.pow_succ] at h1
      simp only [Nat.add_sub_cancel]
      omega)]
  unfold items
  rw [List.map_map, List.range_succ, List.map_append]
  congr 1
  · apply List.map_congr_left
    intro j hj
    have hj := List.mem_range.1 hj
    simp only [Function.comp, oct, item, Nat.add_sub_cancel]
    rw [if_pos (by simp; omega), show L - j = (L - 1 - j) + 1 by omega, Nat.pow_succ, Nat.mul_comm, ← Nat.div_div_eq_div_mul]
  · simp [oct, item]
/-- How many groups there are behind the first one. -/
def gk (n : Nat) : Nat := (Lib.bitLen n - 1) / 7
theorem gk_spec {n : Nat} (h : 0 < n) (h64 : n < 2 ^ 64) : n < 128 ^ (gk n + 1) ∧ 128 ^ gk n ≤ n := by
  obtain ⟨h1, h2, h3⟩ := Lib.bitLenAux_bounds 64 n h64 (by omega)
  change 1 ≤ Lib.bitLen n at h1
  change 2 ^ (Lib.bitLen n - 1) ≤ n at h2
  change n < 2 ^ Lib.bitLen n at h3
  unfold gk
  rw [show 128 = 2 ^ 7 from rfl, ← Nat.pow_mul, ← Nat.pow_mul]
  exact ⟨Nat.lt_of_lt_of_le h3 (Nat.pow_le_pow_right (by omega) (by omega)), Nat.le_trans (Nat.pow_le_pow_right (by omega) (by omega)) h2⟩
theorem gk_le {n : Nat} (h : n < 268435456) : gk n ≤ 3 := by
  have := Lib.bitLen_le n 28 (by omega) h
  unfold gk; omega
theorem gl_of {n : Nat} (h : 0 < n) (h64 : n < 2 ^ 64) : (items n (gk n + 1)).map oct = gl n := octs_eq (gk_spec h h64).1 (gk_spec h h64).2
theorem gl_length {n : Nat} (h : 0 < n) (h64 : n < 2 ^ 64) : (gl n).length = gk n + 1 := by rw [← gl_of h h64, List.length_map, items_length]
end Go.Proofs.Ytgdjgahmnnjeeaa
