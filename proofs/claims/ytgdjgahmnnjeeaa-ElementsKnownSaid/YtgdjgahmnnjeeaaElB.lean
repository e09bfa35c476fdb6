/-
  Trees of elements, plain: how many there are, how deep they are; the same, counted to a bound.
  Conditions: none (no program is named here).
-/
import Derived.Test.YtgdjgahmnnjeeaaElA
namespace Go.Proofs.Ytgdjgahmnnjeeaa
open Go.RowKit

mutual
/-- How many elements there are. -/
def cntE : El → Nat
  | .mk _ _ _ _ ss => 1 + cntS ss
def cntS : List El → Nat
  | [] => 0
  | e :: ss => cntE e + cntS ss
end
mutual
/-- How many levels there are. -/
def depE : El → Nat
  | .mk _ _ _ _ ss => depS ss + 1
def depS : List El → Nat
  | [] => 0
  | e :: ss => max (depE e) (depS ss)
end
mutual
/-- How many elements there are, as the reference counts them: not far above a bound. -/
def manE : El → Nat → Nat
  | .mk _ _ _ _ ss, m => if m = 0 then 1 else manS ss m 1
def manS : List El → Nat → Nat → Nat
  | [], _, n => n
  | e :: ss, m, n => if n ≤ m then manS ss m (n + manE e (m - n)) else n
end
mutual
theorem manE_le : ∀ (e : El) (m : Nat), manE e m ≤ m + 1
  | .mk _ _ _ _ ss, m => by
    unfold manE
    split
    · omega
    · exact manS_le ss m 1 (by omega)
theorem manS_le : ∀ (ss : List El) (m n : Nat), n ≤ m + 1 → manS ss m n ≤ m + 1
  | [], m, n, h => by unfold manS; exact h
  | e :: ss, m, n, h => by
    unfold manS
    split
    · exact manS_le ss m _ (by have := manE_le e (m - n); omega)
    · exact h
end
mutual
theorem manE_eq : ∀ (e : El) (m : Nat), manE e m = min (cntE e) (m + 1)
  | .mk _ _ _ _ ss, m => by
    unfold manE cntE
    split
    · subst_vars; omega
    · rw [manS_eq ss m 1 (by omega)]
theorem manS_eq : ∀ (ss : List El) (m n : Nat), n ≤ m + 1 → manS ss m n = min (n + cntS ss) (m + 1)
  | [], m, n, h => by unfold manS cntS; omega
  | e :: ss, m, n, h => by
    unfold manS cntS
    split
    · have h1 := manE_eq e (m - n)
      rw [manS_eq ss m _ (by omega), h1]
      omega
    · omega
end
theorem cntE_pos (e : El) : 0 < cntE e := by cases e; unfold cntE; omega
theorem manE_pos (e : El) (m : Nat) : 0 < manE e m := by have := cntE_pos e; rw [manE_eq]; omega
theorem manS_drop {ss : List El} {i m n : Nat} (hi : i < ss.length) : manS (ss.drop i) m n = if n ≤ m then manS (ss.drop (i + 1)) m (n + manE ss[i] (m - n)) else n := by
  rw [List.drop_eq_getElem_cons hi, manS]
theorem manS_done {ss : List El} {i m n : Nat} (hi : ss.length ≤ i) : manS (ss.drop i) m n = n := by
  rw [List.drop_eq_nil_of_le hi, manS]
theorem depS_append (a b : List El) : depS (a ++ b) = max (depS a) (depS b) := by
  induction a with
  | nil => simp [depS]
  | cons e a ih => rw [List.cons_append, depS, ih, depS]; omega
theorem depS_take {ss : List El} {i : Nat} (hi : i < ss.length) : depS (ss.take (i + 1)) = max (depS (ss.take i)) (depE ss[i]) := by
  rw [List.take_succ_eq_append_getElem hi, depS_append, depS, depS]; omega
theorem cntS_append (a b : List El) : cntS (a ++ b) = cntS a + cntS b := by
  induction a with
  | nil => simp [cntS]
  | cons e a ih => rw [List.cons_append, cntS, ih, cntS]; omega
theorem cntS_len (ss : List El) : ss.length ≤ cntS ss := by
  induction ss with
  | nil => simp
  | cons e ss ih => have := cntE_pos e; rw [cntS, List.length_cons]; omega
theorem cntE_mem {ss : List El} {e : El} (h : e ∈ ss) : cntE e ≤ cntS ss := by
  induction ss with
  | nil => simp at h
  | cons x ss ih =>
    rw [cntS]
    rcases List.mem_cons.1 h with rfl | h
    · omega
    · have := ih h; omega
theorem depE_mem {ss : List El} {e : El} (h : e ∈ ss) : depE e ≤ depS ss := by
  induction ss with
  | nil => simp at h
  | cons x ss ih =>
    rw [depS]
    rcases List.mem_cons.1 h with rfl | h
    · omega
    · have := ih h; omega
theorem depE_le_cnt : ∀ e : El, depE e ≤ cntE e := by
  refine El.ind fun c n k bs ss ih => ?_
  rw [depE, cntE]
  have : depS ss ≤ cntS ss := by
    revert ih
    induction ss with
    | nil => intro _; simp [depS]
    | cons e ss ih2 =>
      intro ih
      have h1 := ih e (by simp)
      have h2 := ih2 fun x hx => ih x (by simp [hx])
      rw [depS, cntS]
      omega
  omega
end Go.Proofs.Ytgdjgahmnnjeeaa
