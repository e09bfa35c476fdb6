/-
  Layer 9, pure: the order of bytes.
-/
import Derived.Test.YthefnfjhnallfaaDoorChsS
namespace Go.Proofs.YthefnfjhnallfaaDoor.Chs
open Go.RowKit Go.Shelf

/-- The order of lists of numbers. -/
def cmpL : List Nat → List Nat → Int
  | [], [] => 0
  | [], _ :: _ => -1
  | _ :: _, [] => 1
  | a :: l, b :: m => if a < b then -1 else if b < a then 1 else cmpL l m
theorem cmpL_or : ∀ l m : List Nat, cmpL l m = -1 ∨ cmpL l m = 0 ∨ cmpL l m = 1
  | [], [] => .inr (.inl rfl)
  | [], _ :: _ => .inl rfl
  | _ :: _, [] => .inr (.inr rfl)
  | a :: l, b :: m => by
    unfold cmpL
    split
    · exact .inl rfl
    · split
      · exact .inr (.inr rfl)
      · exact cmpL_or l m
theorem cmpL_swap : ∀ l m : List Nat, cmpL m l = - cmpL l m
  | [], [] => rfl
  | [], _ :: _ => rfl
  | _ :: _, [] => rfl
  | a :: l, b :: m => by
    unfold cmpL
    by_cases h1 : a < b
    · rw [if_neg (by omega), if_pos h1, if_pos h1]; rfl
    · by_cases h2 : b < a
      · rw [if_pos h2, if_neg h1, if_pos h2]
      · rw [if_neg h2, if_neg h1, if_neg h1, if_neg h2]
        exact cmpL_swap l m
theorem cmpL_zero : ∀ l m : List Nat, cmpL l m = 0 ↔ l = m
  | [], [] => by simp [cmpL]
  | [], _ :: _ => by simp [cmpL]
  | _ :: _, [] => by simp [cmpL]
  | a :: l, b :: m => by
    unfold cmpL
    by_cases h1 : a < b
    · rw [if_pos h1]; simp; omega
    · rw [if_neg h1]
      by_cases h2 : b < a
      · rw [if_pos h2]; simp; omega
      · rw [if_neg h2, cmpL_zero l m, List.cons.injEq]
        have : a = b := by omega
        simp [this]
theorem cmpL_app (p l m : List Nat) : cmpL (p ++ l) (p ++ m) = cmpL l m := by
  induction p with
  | nil => rfl
  | cons a p ih =>
    show (if a < a then -1 else if a < a then 1 else cmpL (p ++ l) (p ++ m)) = _
    rw [if_neg (Nat.lt_irrefl a), if_neg (Nat.lt_irrefl a), ih]
theorem cb_map : ∀ l m : List Nat, All8 l → All8 m → Lib.compareBytes (l.map UInt8.ofNat) (m.map UInt8.ofNat) = cmpL l m
  | [], [], _, _ => rfl
  | [], _ :: _, _, _ => rfl
  | _ :: _, [], _, _ => rfl
  | a :: l, b :: m, h1, h2 => by
    have ha : a < 256 := h1 a (by simp)
    have hb : b < 256 := h2 b (by simp)
    have e1 : ∀ x y : Nat, x < 256 → y < 256 → (UInt8.ofNat x < UInt8.ofNat y ↔ x < y) := fun x y hx hy => by
      rw [UInt8.lt_iff_toNat_lt, UInt8.toNat_ofNat', UInt8.toNat_ofNat', Nat.mod_eq_of_lt hx, Nat.mod_eq_of_lt hy]
    have ih := cb_map l m (fun y hy => h1 y (by simp [hy])) (fun y hy => h2 y (by simp [hy]))
    show (if UInt8.ofNat a < UInt8.ofNat b then (-1 : Int) else if UInt8.ofNat b < UInt8.ofNat a then 1 else Lib.compareBytes (l.map UInt8.ofNat) (m.map UInt8.ofNat)) = if a < b then -1 else if b < a then 1 else cmpL l m
    rw [ih]
    by_cases c1 : a < b
    · rw [if_pos c1, if_pos ((e1 a b ha hb).2 c1)]
    · rw [if_neg c1, if_neg (fun h => c1 ((e1 a b ha hb).1 h))]
      by_cases c2 : b < a
      · rw [if_pos c2, if_pos ((e1 b a hb ha).2 c2)]
      · rw [if_neg c2, if_neg (fun h => c2 ((e1 b a hb ha).1 h))]
theorem cb_eq {l m : List Nat} (h1 : All8 l) (h2 : All8 m) : Lib.compareBytes (bstr l).data.toList (bstr m).data.toList = cmpL l m := by
  have e : ∀ l : List Nat, (bstr l).data.toList = l.map UInt8.ofNat := fun l => by unfold bstr; simp
  rw [e, e]
  exact cb_map l m h1 h2
end Go.Proofs.YthefnfjhnallfaaDoor.Chs
