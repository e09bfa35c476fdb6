/-
  Layer 3: the reference's Get as a whole; '[]byte(s)'.
  Conditions: none beyond that slices read as bytes.
-/
import Derived.Test.YtgdjgahmnnjeeaaLenF
import Derived.Lib.ConvBytes
namespace Go.Proofs.Ytgdjgahmnnjeeaa.Len
open Go.RowKit

theorem rg_eq {k : Nat} {l : List Nat} {a : Nat} (hk : 1 ≤ k) (hk3 : k ≤ 3) (hl : l.length = k) (h8 : All8 l) (ha : l[0]? = some a) : rgN a (val l) = true ↔ ¬ szI ((val l : Nat) : Int) = k + 1 := by
  have hsz : ∀ v : Nat, v ≤ 16777215 → szI (v : Int) = if v < 128 then 1 else if v < 256 then 2 else if v < 65536 then 3 else 4 := by
    intro v hv
    unfold szI
    rw [if_neg (by omega), if_neg (by omega)]
    repeat (first | omega | split)
  have hv := val_le3 h8 (by omega)
  rw [hsz _ hv]
  unfold rgN
  rw [Bool.or_eq_true, beq_iff_eq, decide_eq_true_iff]
  have hcase : k = 1 ∨ k = 2 ∨ k = 3 := by omega
  rcases hcase with rfl | rfl | rfl
  · obtain ⟨x, rfl⟩ := List.length_eq_one_iff.1 hl
    obtain rfl : x = a := by simpa using ha
    have hx := h8 x (by simp)
    have e : val [x] = x := by simp [val, vl]
    rw [e]
    split <;> (try split) <;> (try split) <;> omega
  · match l, hl with
    | [x, y], _ =>
      obtain rfl : x = a := by simpa using ha
      have hx := h8 x (by simp)
      have hy := h8 y (by simp)
      have e : val [x, y] = x * 256 + y := by simp [val, vl]; omega
      rw [e]
      split <;> (try split) <;> (try split) <;> omega
  · match l, hl with
    | [x, y, z], _ =>
      obtain rfl : x = a := by simpa using ha
      have hx := h8 x (by simp)
      have hy := h8 y (by simp)
      have hz := h8 z (by simp)
      have e : val [x, y, z] = x * 65536 + y * 256 + z := by simp [val, vl]; omega
      rw [e]
      split <;> (try split) <;> (try split) <;> omega

theorem rget_any (A : Option Addr) (l : List Nat) (c : Nat) (w : World) (h : Rb w A l) :
    Calls Try.prog 76 #[.slice A l.length c] w (GiveG w (getL l).1 (getL l).2.1 (getL l).2.2) := by
  cases l with
  | nil => exact rget_nil A c w
  | cons x t =>
    obtain ⟨b, off, rfl, hb, hx, hcell⟩ := h.at_ (k := 0) (by simp)
    simp only [List.getElem_cons_zero, Nat.add_zero] at hx hcell
    have hd := h.drop_ 1
    simp only [List.drop_succ_cons, List.drop_zero] at hd
    unfold getL
    dsimp only
    by_cases h1 : x < 128
    · simp only [if_pos h1]
      exact rget_low b off _ c x w (by simp) hb hcell h1
    simp only [if_neg h1]
    by_cases h2 : x < 129
    · simp only [if_pos h2]
      exact rget_form b off _ c x w (by simp) hb hcell (by omega) hx
    simp only [if_neg h2]
    by_cases h3 : 131 < x
    · simp only [if_pos h3]
      exact rget_form b off _ c x w (by simp) hb hcell (by omega) hx
    simp only [if_neg h3]
    obtain ⟨k, rfl⟩ : ∃ k, x = k + 128 := ⟨x - 128, by omega⟩
    rw [show k + 128 - 128 = k by omega, show k + 128 - 127 = k + 1 by omega]
    by_cases h5 : t.length < k
    · simp only [if_pos h5]
      exact rget_short b off _ c k w (by omega) (by omega) (by simp) hb hcell (by simp; omega)
    simp only [if_neg h5]
    have hlk : (t.take k).length = k := by rw [List.length_take]; omega
    have ht := hd.take_ k
    obtain ⟨a, ha⟩ : ∃ a, (t.take k)[0]? = some a := ⟨(t.take k)[0]'(by omega), List.getElem?_eq_getElem _⟩
    have hrg := rg_eq (by omega) (by omega) hlk ht.2 ha
    refine rget_full b off (((k + 128) :: t).length) c k a (t.take k) w (by omega) (by omega) (by simp; omega) hb hcell hlk ht ha _ rfl _ _ _ ?_
    by_cases hs : szI ((val (t.take k) : Nat) : Int) = k + 1
    · rw [if_neg (fun e => hrg.1 e hs)]; simp only [if_pos hs]
    · rw [if_pos (hrg.2 hs)]; simp only [if_neg hs]

theorem run_str8 {w : World} {A : Option Addr} {l : List Nat} (h : Rb w A l) (c : Nat) : (convert 26 9 (.slice A l.length c)).run Try.prog w = .ok (.string (bstr l)) w :=
  run_str Try.underlying26 Try.underlying5 Try.underlying9 h c
theorem bytes_below (w : World) (e : TypeId) (s : ByteArray) : Below w.heap.size w (Lib.bytesWorld w e s) :=
  ⟨rfl, rfl, rfl, by rw [Lib.bytesWorld_size]; omega, fun k hk => Lib.bytesWorld_at_old w e s k hk⟩
/-- '[]byte(s)'. -/
theorem conv_bytes (w : World) (l : List Nat) (h : All8 l) (S : ByteArray) (hS : S = bstr l) :
    ∃ c w', (convert 9 26 (.string S)).run Try.prog w = .ok (.slice (some ⟨w.heap.size, 0, none⟩) l.length c) w' ∧ Rb w' (some ⟨w.heap.size, 0, none⟩) l ∧ Below w.heap.size w w' := by
  subst hS
  have hsz : (bstr l).size = l.length := by simp [bstr, ByteArray.size]
  have hrun := Lib.run_convert_string_bytes (P := Try.prog) w 9 26 5 (bstr l) Try.underlying9 Try.underlying26 Try.underlying5
  rw [hsz] at hrun
  refine ⟨_, _, hrun, ⟨fun _ => ⟨w.heap.size, 0, rfl, by rw [Lib.bytesWorld_size]; omega, fun j u hu => ?_⟩, h⟩, bytes_below _ _ _⟩
  obtain ⟨hj, rfl⟩ := List.getElem?_eq_some_iff.1 hu
  have hj2 : j < l.length := by rw [cs8_length] at hj; exact hj
  have hx := h _ (List.getElem_mem hj2)
  rw [Nat.zero_add, Lib.bytesWorld_cell _ _ _ _ (by rw [hsz]; exact hj2)]
  simp only [cs8, List.getElem_map, by8, bstr]
  rw [List.getD_eq_getElem?_getD, List.getElem?_map, List.getElem?_eq_getElem hj2, Option.map_some, Option.getD_some, UInt8.toNat_ofNat', Nat.mod_eq_of_lt (by omega)]
theorem putL_all {n : Nat} (h : n ≤ 16777215) : All8 (putL n) := by
  unfold putL
  split
  · intro x hx; simp at hx; omega
  split
  · intro x hx; simp at hx; omega
  split
  · intro x hx; simp at hx; omega
  · intro x hx; simp at hx; omega
end Go.Proofs.Ytgdjgahmnnjeeaa.Len
