/-
  Layer 12: the laws' arguments opened: slices of ints, codes, fields' codes, two numbers.
  Conditions: none.
-/
import Derived.Test.YtklljbcnfamikaaFlS
import Derived.Test.YtklljbcnfamikaaRows
import Derived.Lib.SmallJoins
import Derived.ProofKit
import Derived.LaidMore
import Derived.OpenShut
import Derived.Stop.Joined
namespace Go.Proofs.Ytklljbcnfamikaa.Fl
open Go.RowKit Go.ChangeShapes Go.WideShapes Go.ChangeAt Go.WideMaps Go.WideElems

set_option maxRecDepth 100000 in
/-- An argument that is a slice of ints. -/
theorem open_path {H : Type} {enc : TypeId × Value → H} {W : World} {base : Nat} {d : DataW H} {v : Value} {ps : List MemPlace} {r : Reach} (hval : Value.okWide Try.prog W r base 37 v) (hd : DataW.Trod enc Try.prog W 0 (fun _ => true) true 37 v d ps) :
    ∃ (A : Option Addr) (l : List Int) (c : Nat), v = .slice A l.length c ∧ Rd W A (csZ l) ∧ l.length ≤ maxLen ∧ ∀ z ∈ l, -9223372036854775808 ≤ z ∧ z < 9223372036854775808 := by
  obtain ⟨A, len, cap, rfl⟩ := okWide_slice Try.underlying37 hval
  obtain ⟨fuel, hf⟩ := hd
  rcases open_ints Try.underlying37 Try.underlying3 (by kernel_rfl) hf with ⟨h0, _⟩ | ⟨a, len', cap', zs, h0, _, hl, hm, hz, _, hc, hw⟩
  · simp only [Value.cells, List.cons.injEq, and_true, Value.slice.injEq] at h0
    obtain ⟨rfl, rfl, rfl⟩ := h0
    exact ⟨none, [], 0, rfl, Rd.nil, Nat.zero_le _, fun z hz => by simp at hz⟩
  · simp only [Value.cells, List.cons.injEq, and_true, Value.slice.injEq] at h0
    obtain ⟨rfl, rfl, rfl⟩ := h0
    rw [if_pos rfl] at hz
    have hlen : (zs.take len).length = len := by simp; omega
    refine ⟨some a, zs.take len, cap, by rw [hlen], fun hn => ?_, by rw [hlen]; omega, fun z hz9 => ?_⟩
    rotate_left
    · have := hw z (List.mem_of_mem_take hz9)
      revert this
      simp [Lit.wf, IntKind.min, IntKind.max, IntKind.signed, IntKind.bits]
      omega
    have h0 : 0 < zs.length := by
      rcases Nat.eq_zero_or_pos zs.length with h0 | h0
      · exact absurd (by rw [List.eq_nil_of_length_eq_zero h0]; simp [csZ]) hn
      · exact h0
    obtain ⟨b, off, rfl, hc'⟩ := ints_at hc h0
    refine ⟨b, off, rfl, ?_, ?_⟩
    · have h1 := hc' 0 h0
      rcases Nat.lt_or_ge b W.heap.size with hlt | hge
      · exact hlt
      · unfold World.cell? at h1
        simp [Array.getElem?_eq_none hge] at h1
    · intro j u hu
      unfold csZ at hu
      rw [List.getElem?_map] at hu
      obtain ⟨z, hz1, rfl⟩ := Option.map_eq_some_iff.1 hu
      obtain ⟨hj, hz2⟩ := List.getElem?_eq_some_iff.1 hz1
      have hj2 : j < zs.length := by simp at hj; omega
      rw [hc' j hj2]
      have h4 : zs.getD j 0 = z := by rw [← hz2]; simp [List.getD, hj2]
      rw [h4]
theorem okWide_arr {P : Program} {w : World} {r : Reach} {b0 : Nat} {t e : TypeId} {n : Nat} {v : Value} (ht : P.underlying t = some (.array n e)) (h : Value.okWide P w r b0 t v) : ∃ cs, v = .agg cs ∧ cs.size = P.cellsOf t := by
  simp only [Value.okWide, ht] at h
  obtain ⟨cs, h1, h2, _⟩ := h
  exact ⟨cs, h1, h2⟩
section
variable {H : Type} {enc : TypeId × Value → H} {W : World} {base : Nat} {d : DataW H} {v : Value} {ps : List MemPlace}
set_option maxRecDepth 100000 in
/-- An argument of type T. -/
theorem open_T {r : Reach} (hval : Value.okWide Try.prog W r base 24 v) (hd : DataW.Trod enc Try.prog W 0 (fun _ => true) true 24 v d ps) :
    ∃ (A : Option Addr) (l : List Nat) (c : Nat), v = .agg #[.slice A l.length c] ∧ Rb W A l ∧ l.length ≤ c ∧ c ≤ maxLen := by
  have e1 : Try.prog.cellsOf 22 = 1 := by kernel_rfl
  have e2 : Try.prog.cellsOf 24 = 1 := by kernel_rfl
  obtain ⟨cs, rfl, hs⟩ := okWide_struct Try.underlying24 hval
  rw [e2] at hs
  obtain ⟨l⟩ := cs
  obtain ⟨u, rfl⟩ : ∃ u, l = [u] := List.length_eq_one_iff.1 hs
  obtain ⟨fuel, hf⟩ := hd
  obtain ⟨y, n, _, hl, hf2⟩ := trod_struct1 Try.underlying24 hf
  clear hf hl
  simp only [e1, List.drop_zero] at hf2
  obtain ⟨B, l, c, h1, h2, h3, h4⟩ := open_cells hf2
  simp [Value.cells] at h1
  exact ⟨B, l, c, by rw [h1], h2, h3, h4⟩
theorem array2 {α : Type} {cs : Array α} (h : cs.size = 2) : ∃ c0 c1, cs = #[c0, c1] := by
  obtain ⟨l⟩ := cs
  match l, h with
  | [c0, c1], _ => exact ⟨c0, c1, rfl⟩
theorem i64_of {fuel : Nat} {sp : Nat → Bool} {t : TypeId} {x : DataW H × List MemPlace} {v : Value} (ht : Try.prog.underlying t = some (.int .i64)) (h : DataW.trod enc Try.prog W 0 sp true fuel t [v] = some x) : ∃ z : Int, v = .int .i64 z ∧ -9223372036854775808 ≤ z ∧ z < 9223372036854775808 := by
  obtain ⟨z, h1, _, hw⟩ := DataW.trod_int ht h
  simp only [List.cons.injEq, and_true] at h1
  have hr : -9223372036854775808 ≤ z ∧ z < 9223372036854775808 := by
    revert hw
    simp [Lit.wf, IntKind.min, IntKind.max, IntKind.signed, IntKind.bits]
    omega
  exact ⟨z, h1, hr⟩
set_option maxRecDepth 100000 in
/-- An argument of two numbers. -/
theorem open_i2 {r : Reach} (hval : Value.okWide Try.prog W r base 51 v) (hd : DataW.Trod enc Try.prog W 0 (fun _ => true) true 51 v d ps) :
    ∃ (a b : Int), v = .agg #[.int .i64 a, .int .i64 b] ∧ (-9223372036854775808 ≤ a ∧ a < 9223372036854775808) ∧ -9223372036854775808 ≤ b ∧ b < 9223372036854775808 := by
  have e0 : Try.prog.cellsOf 51 = 2 := by kernel_rfl
  have e1 : Try.prog.cellsOf 3 = 1 := by kernel_rfl
  obtain ⟨cs, rfl, hs⟩ := okWide_arr Try.underlying51 hval
  rw [e0] at hs
  obtain ⟨u0, u1, rfl⟩ := array2 hs
  obtain ⟨fuel, hf⟩ := hd
  obtain ⟨xs, m, -, -, -, hn, hel⟩ := DataW.trod_array Try.underlying51 hf
  rw [e1] at hel
  have q0 := hel 0 (by omega)
  have q1 := hel 1 (by omega)
  rw [List.getElem?_eq_getElem (by omega)] at q0 q1
  obtain ⟨a, rfl, ha⟩ := i64_of Try.underlying3 (show DataW.trod enc Try.prog W 0 (fun _ => true) true m 3 [u0] = some _ from q0)
  obtain ⟨b, rfl, hb⟩ := i64_of Try.underlying3 (show DataW.trod enc Try.prog W 0 (fun _ => true) true m 3 [u1] = some _ from q1)
  exact ⟨a, b, rfl, ha, hb⟩
/-- Codes of fields: a tag's and a mode's, one behind the other. -/
def csP (l : List (Nat × Nat)) : List Value := l.flatMap fun x => [by8 x.1, by8 x.2]
def fitP (l : List (Nat × Nat)) : Prop := ∀ x ∈ l, x.1 < 256 ∧ x.2 < 256
theorem csP_len (l : List (Nat × Nat)) : (csP l).length = l.length * 2 := by
  induction l with
  | nil => rfl
  | cons f l ih => unfold csP at *; rw [List.flatMap_cons, List.length_append, ih]; simp; omega
theorem csP_get {l : List (Nat × Nat)} {i : Nat} (h : i < l.length) : (csP l)[i * 2]? = some (by8 l[i].1) ∧ (csP l)[i * 2 + 1]? = some (by8 l[i].2) := by
  induction l generalizing i with
  | nil => simp at h
  | cons f l ih =>
    unfold csP at ih ⊢
    rw [List.flatMap_cons]
    cases i with
    | zero => exact ⟨rfl, rfl⟩
    | succ i =>
      have := ih (i := i) (by simpa using h)
      rw [List.getElem?_append_right (by simp; omega), List.getElem?_append_right (by simp; omega)]
      simp only [List.length_cons, List.length_nil]
      rw [show (i + 1) * 2 - (0 + 1 + 1) = i * 2 by omega, show (i + 1) * 2 + 1 - (0 + 1 + 1) = i * 2 + 1 by omega]
      exact this
theorem list2 {α : Type} {l : List α} (h : l.length = 2) : ∃ c0 c1, l = [c0, c1] := by
  match l, h with
  | [c0, c1], _ => exact ⟨c0, c1, rfl⟩
set_option maxRecDepth 100000 in
/-- An argument of codes of fields. -/
theorem open_Fs {r : Reach} (hval : Value.okWide Try.prog W r base 25 v) (hd : DataW.Trod enc Try.prog W 0 (fun _ => true) true 25 v d ps) :
    ∃ (A : Option Addr) (l : List (Nat × Nat)) (c : Nat), v = .slice A l.length c ∧ Rd W A (csP l) ∧ fitP l ∧ l.length ≤ c ∧ c ≤ maxLen := by
  have e0 : Try.prog.cellsOf 80 = 2 := by kernel_rfl
  have e1 : Try.prog.cellsOf 5 = 1 := by kernel_rfl
  obtain ⟨A, len, cap, rfl⟩ := okWide_slice Try.underlying25 hval
  obtain ⟨fuel, hf⟩ := hd
  rcases DataW.trod_slice Try.underlying25 hf with ⟨h5, _⟩ | ⟨a, len', cap', elems, rest, n', _, h5, _, _, hlc, hcm, hel, hev, _⟩
  · simp only [Value.cells, List.cons.injEq, and_true, Value.slice.injEq] at h5
    obtain ⟨rfl, rfl, rfl⟩ := h5
    exact ⟨none, [], 0, rfl, Rd.nil, fun x hx => by simp at hx, Nat.le_refl _, Nat.zero_le _⟩
  · simp only [Value.cells, List.cons.injEq, and_true, Value.slice.injEq] at h5
    obtain ⟨rfl, rfl, rfl⟩ := h5
    rw [e0] at hev
    have hone : ∀ i, i < len → ∃ x y : Nat, W.cells? 0 (a.add (i * 2)) 2 = some [by8 x, by8 y] ∧ x < 256 ∧ y < 256 := fun i hi => by
      have h6 := hev i hi
      rw [List.getElem?_eq_getElem (by omega)] at h6
      obtain ⟨cs', h7, h8⟩ := Option.bind_eq_some_iff.1 h6
      obtain ⟨y0, y1, n, _, hl, f0, f1⟩ := trod_struct2 Try.underlying80 h8
      rw [e0] at hl
      obtain ⟨c0, c1, rfl⟩ := list2 hl
      simp [e1] at f0 f1
      obtain ⟨x, rfl, hx⟩ := u8_of Try.underlying5 f0
      obtain ⟨y, rfl, hy⟩ := u8_of Try.underlying5 f1
      exact ⟨x, y, h7, hx, hy⟩
    have hm : ∀ m, m ≤ len → ∃ l : List (Nat × Nat), l.length = m ∧ fitP l ∧ ∀ i, (hi : i < m) → W.cells? 0 (a.add (i * 2)) 2 = some [by8 (l.getD i (0, 0)).1, by8 (l.getD i (0, 0)).2] := by
      intro m
      induction m with
      | zero => exact fun _ => ⟨[], rfl, fun x hx => by simp at hx, fun i hi => by omega⟩
      | succ m ih =>
        intro hm
        obtain ⟨l, hl, hfl, hg⟩ := ih (by omega)
        obtain ⟨x, y, hc, hx, hy⟩ := hone m (by omega)
        refine ⟨l ++ [(x, y)], by rw [List.length_append, hl]; rfl, fun z hz => ?_, fun i hi => ?_⟩
        · rcases List.mem_append.1 hz with hz | hz
          · exact hfl z hz
          · simp at hz; subst hz; exact ⟨hx, hy⟩
        · rcases Nat.lt_or_ge i m with h1 | h1
          · have : (l ++ [(x, y)]).getD i (0, 0) = l.getD i (0, 0) := by simp [List.getD, List.getElem?_append_left (show i < l.length by omega)]
            rw [this]; exact hg i h1
          · obtain rfl : i = m := by omega
            have : (l ++ [(x, y)]).getD i (0, 0) = (x, y) := by simp [List.getD, ← hl]
            rw [this]; exact hc
    obtain ⟨l, hl, hfl, hg⟩ := hm len (Nat.le_refl _)
    refine ⟨some a, l, cap, by rw [hl], fun hn => ?_, hfl, by omega, hcm⟩
    have h0 : 0 < len := by
      rcases Nat.eq_zero_or_pos len with h0 | h0
      · subst h0
        rw [List.eq_nil_of_length_eq_zero hl] at hn
        exact absurd rfl hn
      · exact h0
    have hc0 := hg 0 h0
    have ha : a.add (0 * 2) = a := by obtain ⟨b, off, s⟩ := a; simp [Addr.add]
    rw [ha] at hc0
    obtain ⟨_, hlen, hcell⟩ := World.cells?_some hc0
    have h1 := hcell 0 (by decide)
    obtain ⟨b, off, spot⟩ := a
    have hspot : spot = none := by simpa [Addr.add] using World.cell?_spot h1
    subst hspot
    have hblk := World.cells?_block hc0 (by decide)
    refine ⟨b, off, rfl, hblk, fun j u hu => ?_⟩
    have hj := (List.getElem?_eq_some_iff.1 hu).1
    rw [csP_len, hl] at hj
    obtain ⟨q, hq⟩ : ∃ q, j / 2 = q := ⟨_, rfl⟩
    have hql : q < len := by omega
    have hgq := hg q hql
    rw [addr_add] at hgq
    obtain ⟨_, _, hcq⟩ := World.cells?_some hgq
    have hgd : l.getD q (0, 0) = l[q]'(by omega) := by simp [List.getD, List.getElem?_eq_getElem (show q < l.length by omega)]
    have hp := csP_get (l := l) (i := q) (by omega)
    rcases (show j = q * 2 ∨ j = q * 2 + 1 by omega) with rfl | rfl
    · have h2 := hcq 0 (by decide)
      rw [addr_add, Nat.add_zero] at h2
      rw [h2, ← hu, hp.1, hgd]; rfl
    · have h2 := hcq 1 (by decide)
      rw [addr_add] at h2
      rw [← Nat.add_assoc, h2, ← hu, hp.2, hgd]; rfl
end
end Go.Proofs.Ytklljbcnfamikaa.Fl
