/-
  Layer 12: the laws' arguments opened: slices of ints, codes, fields' codes, two numbers.
  Conditions: none.
-/
import Derived.Test.YtfbdeefeagednaaFlS
import Derived.Test.YtfbdeefeagednaaRows
import Derived.Lib.SmallJoins
import Derived.ProofKit
import Derived.LaidMore
import Derived.OpenShut
import Derived.Stop.Joined
namespace Go.Proofs.Ytfbdeefeagednaa.Fl
open Go.RowKit Go.ChangeShapes Go.WideShapes Go.ChangeAt Go.WideMaps Go.WideElems

set_option maxRecDepth 100000 in
/-- An argument that is a slice of ints. -/
theorem open_path {H : Type} {enc : TypeId × Value → H} {W : World} {base : Nat} {d : DataW H} {v : Value} {ps : List MemPlace} {r : Reach} (hval : Value.okWide Try.prog W r base 30 v) (hd : DataW.Trod enc Try.prog W 0 (fun _ => true) true 30 v d ps) :
    ∃ (A : Option Addr) (l : List Int) (c : Nat), v = .slice A l.length c ∧ Rd W A (csZ l) ∧ l.length ≤ maxLen ∧ ∀ z ∈ l, -9223372036854775808 ≤ z ∧ z < 9223372036854775808 := by
  obtain ⟨A, len, cap, rfl⟩ := okWide_slice Try.underlying30 hval
  obtain ⟨fuel, hf⟩ := hd
  rcases open_ints Try.underlying30 Try.underlying3 (by kernel_rfl) hf with ⟨h0, _⟩ | ⟨a, len', cap', zs, h0, _, hl, hm, hz, _, hc, hw⟩
  · simp only [Value.cells, List.cons.injEq, and_true, Value.slice.injEq] at h0
    obtain ⟨rfl, rfl, rfl⟩ := h0
    exact ⟨none, [], 0, rfl, Rd.nil, Nat.zero_le _, fun z hz => by simp at hz⟩
  · simp only [Value.cells, List.cons.injEq, and_true, Value.slice.injEq] at h0
    obtain ⟨rfl, rfl, rfl⟩ := h0
    rw [if_pos rfl] at hz
    have hlen : (zs.take len).length = len := by simp; omega
    refine ⟨some a, zs.take len, cap, by rw [hlen], fun hn => ?_, by rw [hlen]; omega, fun z hz9 => ?_⟩
    rotate_left
    · have := hw z (List.mem_of_mem_take hz9)
      revert this
      simp [Lit.wf, IntKind.min, IntKind.max, IntKind.signed, IntKind.bits]
      omega
    have h0 : 0 < zs.length := by
      rcases Nat.eq_zero_or_pos zs.length with h0 | h0
      · exact absurd (by rw [List.eq_nil_of_length_eq_zero h0]; simp [csZ]) hn
      · exact h0
    obtain ⟨b, off, rfl, hc'⟩ := ints_at hc h0
    refine ⟨b, off, rfl, ?_, ?_⟩
    · have h1 := hc' 0 h0
      rcases Nat.lt_or_ge b W.heap.size with hlt | hge
      · exact hlt
      · unfold World.cell? at h1
        simp [Array.getElem?_eq_none hge] at h1
    · intro j u hu
      unfold csZ at hu
      rw [List.getElem?_map] at hu
      obtain ⟨z, hz1, rfl⟩ := Option.map_eq_some_iff.1 hu
      obtain ⟨hj, hz2⟩ := List.getElem?_eq_some_iff.1 hz1
      have hj2 : j < zs.length := by simp at hj; omega
      rw [hc' j hj2]
      have h4 : zs.getD j 0 = z := by rw [← hz2]; simp [List.getD, hj2]
      rw [h4]
theorem okWide_arr {P : Program} {w : World} {r : Reach} {b0 : Nat} {t e : TypeId} {n : Nat} {v : Value} (ht : P.underlying t = some (.array n e)) (h : Value.okWide P w r b0 t v) : ∃ cs, v = .agg cs ∧ cs.size = P.cellsOf t := by
  simp only [Value.okWide, ht] at h
  obtain ⟨cs, h1, h2, _⟩ := h
  exact ⟨cs, h1, h2⟩
section
variable {H : Type} {enc : TypeId × Value → H} {W : World} {base : Nat} {d : DataW H} {v : Value} {ps : List MemPlace}
set_option maxRecDepth 100000 in
/-- An argument of type T. -/
theorem open_T {r : Reach} (hval : Value.okWide Try.prog W r base 66 v) (hd : DataW.Trod enc Try.prog W 0 (fun _ => true) true 66 v d ps) :
    ∃ (A : Option Addr) (l : List Nat) (c : Nat), v = .agg #[.slice A l.length c] ∧ Rb W A l ∧ l.length ≤ c ∧ c ≤ maxLen := by
  have e1 : Try.prog.cellsOf 26 = 1 := by kernel_rfl
  have e2 : Try.prog.cellsOf 66 = 1 := by kernel_rfl
  obtain ⟨cs, rfl, hs⟩ := okWide_struct Try.underlying66 hval
  rw [e2] at hs
  obtain ⟨l⟩ := cs
  obtain ⟨u, rfl⟩ : ∃ u, l = [u] := List.length_eq_one_iff.1 hs
  obtain ⟨fuel, hf⟩ := hd
  obtain ⟨y, n, _, hl, hf2⟩ := trod_struct1 Try.underlying66 hf
  clear hf hl
  simp only [e1, List.drop_zero] at hf2
  obtain ⟨B, l, c, h1, h2, h3, h4⟩ := open_cells hf2
  simp [Value.cells] at h1
  exact ⟨B, l, c, by rw [h1], h2, h3, h4⟩
theorem array2 {α : Type} {cs : Array α} (h : cs.size = 2) : ∃ c0 c1, cs = #[c0, c1] := by
  obtain ⟨l⟩ := cs
  match l, h with
  | [c0, c1], _ => exact ⟨c0, c1, rfl⟩
theorem i64_of {fuel : Nat} {sp : Nat → Bool} {t : TypeId} {x : DataW H × List MemPlace} {v : Value} (ht : Try.prog.underlying t = some (.int .i64)) (h : DataW.trod enc Try.prog W 0 sp true fuel t [v] = some x) : ∃ z : Int, v = .int .i64 z ∧ -9223372036854775808 ≤ z ∧ z < 9223372036854775808 := by
  obtain ⟨z, h1, _, hw⟩ := DataW.trod_int ht h
  simp only [List.cons.injEq, and_true] at h1
  have hr : -9223372036854775808 ≤ z ∧ z < 9223372036854775808 := by
    revert hw
    simp [Lit.wf, IntKind.min, IntKind.max, IntKind.signed, IntKind.bits]
    omega
  exact ⟨z, h1, hr⟩
set_option maxRecDepth 100000 in
/-- An argument of two numbers. -/
theorem open_i2 {r : Reach} (hval : Value.okWide Try.prog W r base 31 v) (hd : DataW.Trod enc Try.prog W 0 (fun _ => true) true 31 v d ps) :
    ∃ (a b : Int), v = .agg #[.int .i64 a, .int .i64 b] ∧ (-9223372036854775808 ≤ a ∧ a < 9223372036854775808) ∧ -9223372036854775808 ≤ b ∧ b < 9223372036854775808 := by
  have e0 : Try.prog.cellsOf 31 = 2 := by kernel_rfl
  have e1 : Try.prog.cellsOf 3 = 1 := by kernel_rfl
  obtain ⟨cs, rfl, hs⟩ := okWide_arr Try.underlying31 hval
  rw [e0] at hs
  obtain ⟨u0, u1, rfl⟩ := array2 hs
  obtain ⟨fuel, hf⟩ := hd
  obtain ⟨xs, m, -, -, -, hn, hel⟩ := DataW.trod_array Try.underlying31 hf
  rw [e1] at hel
  have q0 := hel 0 (by omega)
  have q1 := hel 1 (by omega)
  rw [List.getElem?_eq_getElem (by omega)] at q0 q1
  obtain ⟨a, rfl, ha⟩ := i64_of Try.underlying3 (show DataW.trod enc Try.prog W 0 (fun _ => true) true m 3 [u0] = some _ from q0)
  obtain ⟨b, rfl, hb⟩ := i64_of Try.underlying3 (show DataW.trod enc Try.prog W 0 (fun _ => true) true m 3 [u1] = some _ from q1)
  exact ⟨a, b, rfl, ha, hb⟩
/-- Codes of fields: a tag's and a mode's, one behind the other. -/
def csP (l : List (Nat × Nat)) : List Value := l.flatMap fun x => [by8 x.1, by8 x.2]
def fitP (l : List (Nat × Nat)) : Prop := ∀ x ∈ l, x.1 < 256 ∧ x.2 < 256
theorem csP_len (l : List (Nat × Nat)) : (csP l).length = l.length * 2 := by
  induction l with
  | nil => rfl
  | cons f l ih => unfold csP at *; rw [List.flatMap_cons, List.length_append, ih]; simp; omega
theorem csP_get {l : List (Nat × Nat)} {i : Nat} (h : i < l.length) : (csP l)[i * 2]? = some (by8 l[i].1) ∧ (csP l)[i * 2 + 1]? = some (by8 l[i].2) := by
  induction l generalizing i with
  | nil => simp at h
  | cons f l ih =>
    unfold csP at ih ⊢
    rw [List.flatMap_cons]
    cases i with
    | zero => exact ⟨rfl, rfl⟩
    | succ i =>
      have := ih (i := i) (by simpa using h)
      rw [List.getElem?_append_right (by simp; omega), List.getElem?_append_right (by simp; omega)]
      simp only [List.length_cons, List.length_nil]
      rw [show (i + 1) * 2 - (0 + 1 + 1) = i * 2 by omega, show (i + 1) * 2 + 1 - (0 + 1 + 1) = i * 2 + 1 by omega]
      exact this
theorem list2 {α : Type} {l : List α} (h : l.length = 2) : ∃ c0 c1, l = [c0, c1] := by
  match l, h with
  | [c0, c1], _ => exact ⟨c0, c1, rfl⟩
end
end Go.Proofs.Ytfbdeefeagednaa.Fl
