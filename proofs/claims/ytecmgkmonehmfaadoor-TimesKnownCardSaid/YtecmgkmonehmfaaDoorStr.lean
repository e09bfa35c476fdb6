/-
  A slice of bytes as the library's entries and a conversion to a string read it.
  Conditions: the slice reads as bytes.
-/
import Derived.Test.YtecmgkmonehmfaaDoorMem
import Derived.Lib.BytesEntry
import Derived.Laws.BytesString
namespace Go.Proofs.YtecmgkmonehmfaaDoor
open Go.RowKit

/-- Bytes as a string. -/
def bstr (l : List Nat) : ByteArray := ⟨(l.map UInt8.ofNat).toArray⟩
theorem bytesOf_cast (l : List Nat) : Lib.bytesOf (l.map Int.ofNat) = l.map UInt8.ofNat := by
  simp [Lib.bytesOf]
section
variable {P : Program} {w : World} {A : Option Addr} {l : List Nat}
theorem run_bytesOfX (h : Rb w A l) {c : Nat} : (Extern.Bytes.bytesOf (.slice A l.length c)).run P w = .ok (bstr l) w := by
  cases l with
  | nil =>
    cases A with
    | none => rfl
    | some a => rfl
  | cons x l =>
    obtain ⟨b, off, rfl, hb, hc⟩ := h.1.all_ (by simp [cs8])
    have := Lib.run_loadBytesX (P := P) w ((x :: l).map Int.ofNat) ⟨b, off, none⟩ .empty (fun j y hj => by
      obtain ⟨hj1, hj2⟩ := List.getElem?_eq_some_iff.1 hj
      have e : (⟨b, off, none⟩ : Addr).add j = ⟨b, off + j, none⟩ := by unfold Addr.add; split <;> simp_all
      rw [e, hc j (by simpa [cs8] using hj1), ← hj2]
      simp only [cs8, List.getElem_map, by8]
      rfl)
    rw [List.length_map] at this
    show (Extern.Bytes.loadBytes _ _ _).run P w = _
    rw [this, bytesOf_cast]
    unfold bstr
    congr 2
    simp
theorem foldl_push (l : List Nat) (s : ByteArray) : (l.map Int.ofNat).foldl (fun r n => r.push (UInt8.ofNat n.toNat)) s = ⟨s.data ++ (l.map UInt8.ofNat).toArray⟩ := by
  induction l generalizing s with
  | nil => simp
  | cons x l ih =>
    simp only [List.map_cons, List.foldl_cons, ih]
    apply ByteArray.ext
    simp [ByteArray.push]
theorem addr_add (b off j : Nat) : (⟨b, off, none⟩ : Addr).add j = ⟨b, off + j, none⟩ := by unfold Addr.add; split <;> simp_all
/-- 'string(b)'. -/
theorem run_str {src dst e : TypeId} (hs : P.underlying src = some (.slice e)) (he : P.underlying e = some (.int .u8)) (hd : P.underlying dst = some .string) (h : Rb w A l) (c : Nat) :
    (convert src dst (.slice A l.length c)).run P w = .ok (.string (bstr l)) w := by
  rw [run_convert_bytes_string w src dst e A l.length c hs he hd]
  cases l with
  | nil =>
    cases A with
    | none => rfl
    | some a => rfl
  | cons x l =>
    obtain ⟨b, off, rfl, hb, hc⟩ := h.1.all_ (by simp [cs8])
    have h1 := run_loadCells_list (P := P) (w := w) ⟨b, off, none⟩ (((x :: l).map Int.ofNat).map (Value.int .u8)) (fun j v hv => by
      obtain ⟨hj1, hj2⟩ := List.getElem?_eq_some_iff.1 hv
      rw [addr_add, hc j (by simpa [cs8] using hj1), ← hj2]
      simp only [cs8, List.getElem_map, by8]
      rfl)
    rw [List.length_map, List.length_map] at h1
    rw [run_bytesToString w _ _ _ _ h1, foldl_push]
    congr 3
    simp
end
end Go.Proofs.YtecmgkmonehmfaaDoor
