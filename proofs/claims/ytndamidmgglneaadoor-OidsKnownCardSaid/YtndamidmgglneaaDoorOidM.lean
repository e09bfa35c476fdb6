/-
  The reference of layer 6: the contract of Get.
  Conditions: the slice reads as bytes.
-/
import Derived.Test.YtndamidmgglneaaDoorOidL
import Derived.Test.YtndamidmgglneaaDoorOidJ
namespace Go.Proofs.YtndamidmgglneaaDoor
open Go.RowKit

theorem infoI : (Tryd.prog.info? 3).map (fun i => (i.zero, i.size, i.bytes)) = some (some (.int .i64 0), 1, 8) := by kernel_rfl
theorem appInt {w : World} {base : Nat} {v : Value} {l : List Nat} (hown : w.ownsRow base 3 1 v l.length (csI l)) (x : Nat) (hb : base ≤ w.heap.size) (hl : l.length ≤ 1000000) :
    ∃ v' w', (Builtin.append_ #[39, 39] 39 #[v, .slice (some ⟨w.heap.size, 0, none⟩) 1 1]).run Tryd.prog (w.alloc (.cells #[.int .i64 (x : Int)] 3)) = .ok v' w' ∧ w'.ownsRow base 3 1 v' (l ++ [x]).length (csI (l ++ [x])) ∧ Below base w w' := by
  rw [← csI_length] at hown
  obtain ⟨v', w', h1, h2, h3⟩ := app_one (P := Tryd.prog) (ty := 39) Tryd.underlying39 infoI rfl hown (.int .i64 (x : Int)) rfl hb (by rw [csI_length]; omega) (by rw [csI_length]; unfold maxLen; omega)
  refine ⟨v', w', h1, ?_, h3⟩
  rw [csI_snoc, csI_length] at h2
  exact h2
theorem own_form {w : World} {base : Nat} {e : TypeId} {v : Value} {n : Nat} {xs : List Value} (h : w.ownsRow base e 1 v n xs) : ∃ A c, v = .slice A n c := by
  rcases h.2 with ⟨rfl, rfl⟩ | ⟨g, cap, cur, rfl, _⟩
  · exact ⟨_, _, rfl⟩
  · exact ⟨_, _, rfl⟩
theorem own_int {w : World} {base : Nat} {A : Option Addr} {n c : Nat} {l : List Nat} (h : w.ownsRow base 3 1 (.slice A n c) l.length (csI l)) : Ri w A l := by
  have := own_open (e := 3) (base := base) (w := w) (v := .slice A n c) (xs := csI l) (by rw [csI_length]; exact h)
  obtain ⟨A', c', e, hr, _⟩ := this
  injection e with e
  rw [e]; exact hr
/-- What stands between two rounds of the reference's Get. -/
structure RGetR (w : World) (l : List Nat) (r : List Nat × Nat) (acc : List Nat) (i : Nat) (v : Value) (wr : World) : Prop where
  il : i ≤ l.length
  al : acc.length ≤ 15
  a32 : ∀ x ∈ acc, x < 4294967296
  own : wr.ownsRow (w.heap.size + 1) 3 1 v acc.length (csI acc)
  res : Bk wr w.heap.size 26 (oc 0 zeroL)
  bel : Below w.heap.size w wr
  eq : ∃ f, l.length - i ≤ f ∧ r = getF f acc (l.drop i)
  ne : i = l.length → acc ≠ []

end Go.Proofs.YtndamidmgglneaaDoor
