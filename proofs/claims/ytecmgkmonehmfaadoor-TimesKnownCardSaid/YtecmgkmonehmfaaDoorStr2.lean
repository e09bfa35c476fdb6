/-
  Strings and lists of bytes.
  Conditions: none (no program is named here).
-/
import Derived.Test.YtecmgkmonehmfaaDoorStr
import Derived.Laws.Strings
namespace Go.Proofs.YtecmgkmonehmfaaDoor
open Go.RowKit

/-- The letters of a string. -/
def sl (s : ByteArray) : List Nat := s.data.toList.map UInt8.toNat
theorem bstr_sl (s : ByteArray) : bstr (sl s) = s := by
  apply ByteArray.ext
  unfold bstr sl
  rw [List.map_map]
  have : (UInt8.ofNat ∘ UInt8.toNat) = id := by funext x; simp
  rw [this, List.map_id]
theorem sl_all (s : ByteArray) : All8 (sl s) := by
  intro x hx
  simp only [sl, List.mem_map] at hx
  obtain ⟨y, _, rfl⟩ := hx
  exact y.toNat_lt
theorem bstr_list (l : List Nat) : (bstr l).data.toList = l.map UInt8.ofNat := by unfold bstr; simp
theorem sl_bstr {l : List Nat} (h : All8 l) : sl (bstr l) = l := by
  unfold sl
  rw [bstr_list, List.map_map]
  conv => rhs; rw [← List.map_id l]
  apply List.map_congr_left
  intro x hx
  simp only [Function.comp, id]
  exact UInt8.toNat_ofNat_of_lt' (h x hx)
theorem bstr_inj {l m : List Nat} (hl : All8 l) (hm : All8 m) (h : bstr l = bstr m) : l = m := by rw [← sl_bstr hl, h, sl_bstr hm]
theorem bstr_ne {l m : List Nat} (hl : All8 l) (hm : All8 m) (h : l ≠ m) : ((bstr l).toList == (bstr m).toList) = false := by
  rw [beq_eq_false_iff_ne, ByteArray.toList_eq, ByteArray.toList_eq]
  intro e
  refine h (bstr_inj hl hm (ByteArray.ext ?_))
  exact Array.toList_inj.1 e
theorem bstr_ne' {l m : List Nat} (hl : All8 l) (hm : All8 m) (h : l ≠ m) : ((bstr l).toList != (bstr m).toList) = true := by
  rw [bne, bstr_ne hl hm h]; rfl
theorem bstr_self (s : ByteArray) : (s.toList == s.toList) = true := by rw [beq_iff_eq]
theorem bstr_size (l : List Nat) : (bstr l).size = l.length := by unfold bstr; simp [ByteArray.size]
theorem bstr_app (l m : List Nat) : bstr l ++ bstr m = bstr (l ++ m) := by
  apply ByteArray.ext
  rw [ByteArray.data_append]
  unfold bstr
  rw [List.map_append]
  simp
theorem bstr_dec {l m : List Nat} (hl : All8 l) (hm : All8 m) : ((bstr l).toList == (bstr m).toList) = decide (l = m) := by
  by_cases h : l = m
  · subst h; rw [bstr_self, decide_eq_true rfl]
  · rw [bstr_ne hl hm h, decide_eq_false h]
end Go.Proofs.YtecmgkmonehmfaaDoor
