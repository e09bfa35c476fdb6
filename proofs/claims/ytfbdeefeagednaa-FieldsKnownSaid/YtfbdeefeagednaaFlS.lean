/-
  Layer 12, plain: what the functions answer, in terms of trees, fields and paths.
  Conditions: none.
-/
import Derived.Test.YtfbdeefeagednaaFlA
namespace Go.Proofs.Ytfbdeefeagednaa.Fl
open Go.RowKit

/-- A field. -/
structure Fd where
  (c n : Nat)
  (k any opt : Bool)
@[reducible] def Fd.cells (f : Fd) : List Value := [.int .u8 (f.c : Int), .bool f.k, .int .u32 (f.n : Int), .bool f.any, .bool f.opt]
/-- Fields, one behind the other. -/
def csF (l : List Fd) : List Value := l.flatMap Fd.cells
theorem csF_get {l : List Fd} {i : Nat} (h : i < l.length) {j : Nat} (hj : j < 5) : (csF l)[i * 5 + j]? = l[i].cells[j]? := by
  induction l generalizing i with
  | nil => simp at h
  | cons f l ih =>
    unfold csF at ih ⊢
    rw [List.flatMap_cons]
    cases i with
    | zero => rw [Nat.zero_mul, Nat.zero_add, List.getElem?_append_left (by simpa using hj)]; rfl
    | succ i =>
      rw [List.getElem?_append_right (by simp; omega), show (i + 1) * 5 + j - f.cells.length = i * 5 + j by simp; omega, ih (by simpa using h)]
      rfl
theorem csF_len (l : List Fd) : (csF l).length = l.length * 5 := by
  induction l with
  | nil => rfl
  | cons f l ih => unfold csF at *; rw [List.flatMap_cons, List.length_append, ih]; simp; omega
/-- Whether an element is of a tag. -/
def isT (c n : Nat) (k : Bool) : El → Bool
  | .mk c' n' k' _ _ => decide (c = c') && (k == k') && decide (n = n')
/-- Whether the element can be the field. -/
def fit (f : Fd) (e : El) : Bool := f.any || isT f.c f.n f.k e
/-- Whether there is an element for the field. -/
def hit (f : Fd) (ss : List El) (p : Nat) : Bool := if h : p < ss.length then fit f ss[p] else false
def consR (x : Int) (r : List Int × List Int × Nat) : List Int × List Int × Nat := if r.2.2 = 0 then (x :: r.1, r.2) else ([], r.2)
/-- The indices of fields; the path and the error of the first fault. -/
def sqL (ss : List El) : List Fd → Nat → List Int × List Int × Nat
  | [], p => if p < ss.length then ([], [(p : Int)], 8) else ([], [], 0)
  | f :: l, p => if hit f ss p then consR (p : Int) (sqL ss l (p + 1)) else if f.opt then consR (-1) (sqL ss l p) else if p = ss.length then ([], [], 7) else ([], [(p : Int)], 9)
def sqR (c n : Nat) (k : Bool) (e : El) (l : List Fd) : List Int × List Int × Nat :=
  match e with
  | .mk c' n' k' _ ss => if 256 < l.length then ([], [], 3) else if isT c n k (.mk c' n' k' [] []) = false then ([], [], 9) else sqL ss l 0
/-- What the indices so far and the rest make. -/
def glue (pre : List Int) (r : List Int × List Int × Nat) : List Int × List Int × Nat := if r.2.2 = 0 then (pre ++ r.1, r.2) else ([], r.2)
theorem glue_cons (pre : List Int) (x : Int) (r : List Int × List Int × Nat) : glue pre (consR x r) = glue (pre ++ [x]) r := by
  unfold glue consR
  by_cases h : r.2.2 = 0 <;> simp [h]
theorem glue_nil (r : List Int × List Int × Nat) (h : r.2.2 ≠ 0 → r.1 = []) : glue [] r = r := by
  unfold glue
  by_cases h0 : r.2.2 = 0
  · simp [h0]
  · rw [if_neg h0, ← h h0]
theorem sqL_bad (ss : List El) : ∀ (l : List Fd) (p : Nat), (sqL ss l p).2.2 ≠ 0 → (sqL ss l p).1 = []
  | [], p => by unfold sqL; split <;> simp
  | f :: l, p => by
    unfold sqL
    split
    · unfold consR; split <;> simp_all
    · split
      · unfold consR; split <;> simp_all
      · split <;> simp
theorem sqL_len (ss : List El) : ∀ (l : List Fd) (p : Nat), (sqL ss l p).2.2 = 0 → (sqL ss l p).1.length = l.length
  | [], p => by unfold sqL; split <;> simp
  | f :: l, p => by
    unfold sqL
    split
    · unfold consR
      split
      · rename_i h; intro _; simp [sqL_len ss l (p + 1) h]
      · simp_all
    · split
      · unfold consR
        split
        · rename_i h; intro _; simp [sqL_len ss l p h]
        · simp_all
      · split <;> simp
theorem sqL_path (ss : List El) : ∀ (l : List Fd) (p : Nat), (sqL ss l p).2.1.length ≤ 1 ∧ ((sqL ss l p).2.2 = 0 → (sqL ss l p).2.1 = [])
  | [], p => by unfold sqL; split <;> simp
  | f :: l, p => by
    unfold sqL
    split
    · unfold consR; have := sqL_path ss l (p + 1); split <;> simp_all
    · split
      · unfold consR; have := sqL_path ss l p; split <;> simp_all
      · split <;> simp
/-- The number of elements checked. -/
def lstR (c n : Nat) (k : Bool) (lo hi : Int) : El → List Int × Nat
  | .mk c' n' k' _ ss => if lo < 0 ∨ hi < lo then ([], 1) else if isT c n k (.mk c' n' k' [] []) = false then ([], 9) else
      if (ss.length : Int) < lo then (if ss.length = 0 then ([], 17) else ([], 7)) else if hi < (ss.length : Int) then ([hi], 3) else ([], 0)
/-- Whether an element is explicitly tagged. -/
def expR (n : Nat) : El → List Int × Nat
  | .mk c' n' k' _ ss => if isT 2 n true (.mk c' n' k' [] []) = false then ([], 9) else if ss.length = 0 then ([], 7) else if 1 < ss.length then ([1], 8) else ([], 0)
/-- The order of elements, from one on, whose encodings are told. -/
def ordL : Nat → List (List Nat) → List Int × Nat
  | p, a :: b :: l => if cmpB a b = 1 then ([(p : Int)], 13) else if cmpB a b = 0 then ([(p : Int)], 14) else ordL (p + 1) (b :: l)
  | _, _ => ([], 0)
/-- The offset of an element on a path. -/
def offE : El → List Int → Nat
  | _, [] => 0
  | .mk c n k bs ss, z :: t => if h : 0 ≤ z ∧ z.toNat < ss.length then (encE (.mk c n k bs ss)).length - (encS (ss.drop z.toNat)).length + offE ss[z.toNat] t else 0
termination_by _ t => t.length
end Go.Proofs.Ytfbdeefeagednaa.Fl
