/-
  Package tags: what the package-level variables hold, and the contracts of Check, isExcluded and the reference's Check.
  Conditions: none.
-/
import Derived.Test.YtgdjgahmnnjeeaaRows
import Derived.Test.YtgdjgahmnnjeeaaMem
import Derived.Test.YtgdjgahmnnjeeaaStr
import Derived.WalkSpells
import Derived.Handy
import Derived.Deep.QuietTactic
import Derived.BigQuiet
import Derived.StillTailTactics
import Derived.Lib.BytesEntry
import Derived.IntWalk
namespace Go.Proofs.Ytgdjgahmnnjeeaa
open Go.RowKit

/-- The error of a tag. -/
def chk (c n : Nat) (k : Bool) : Nat := if 3 < c ∨ 268435455 < n then 1 else if c = 0 ∧ (n = 0 ∨ (k = false ∧ (n = 16 ∨ n = 17))) then 9 else 0
/-- A tag is one of those that no element has. -/
def exc (c n : Nat) (k : Bool) : Bool := decide (c = 0 ∧ (n = 0 ∨ (k = false ∧ (n = 16 ∨ n = 17))))
/-- A tag's value. -/
@[reducible] def tagV (c n : Nat) (k : Bool) : Value := .agg #[.int .u8 (c : Int), .bool k, .int .u32 (n : Int)]

set_option maxHeartbeats 400000 in
theorem excl_any (c n : Nat) (k : Bool) (w : World) (_hc : c < 256) (_hn : n < 4294967296) :
    Calls Try.prog 78 #[tagV c n k] w fun e w' => e = .returned (.bool (exc c n k)) ∧ Below w.heap.size w w' := by
  go_enter Try.func78, Try.ntmps78
  cases k
  all_goals
    go_wp2
  all_goals go_ret
  all_goals refine ⟨?_, (Below.refl _ _).alloc (Nat.le_refl _) _⟩
  all_goals unfold exc
  all_goals try simp only [bne_iff_ne, ne_eq, bne_eq_false_iff_eq, beq_iff_eq, beq_eq_false_iff_ne] at *
  all_goals first | (refine congrArg (fun b => Ending.returned (Value.bool b)) (Eq.symm (decide_eq_true ?_)); first | omega | (simp; done) | (simp; omega)) | (refine congrArg (fun b => Ending.returned (Value.bool b)) (Eq.symm (decide_eq_false ?_)); first | omega | (simp; done) | (simp; omega))

theorem exc_yes {c n : Nat} {k : Bool} (h : exc c n k = true) (h3 : ¬ 3 < c) (h4 : ¬ 268435455 < n) : chk c n k = 9 := by
  unfold exc at h; unfold chk
  rw [if_neg (by omega), if_pos (by simpa using h)]
theorem exc_no {c n : Nat} {k : Bool} (h : exc c n k = false) (h3 : ¬ 3 < c) (h4 : ¬ 268435455 < n) : chk c n k = 0 := by
  unfold exc at h; unfold chk
  rw [if_neg (by omega), if_neg (by simpa using h)]
theorem chk_one {c n : Nat} {k : Bool} (h : 3 < c ∨ 268435455 < n) : chk c n k = 1 := by unfold chk; rw [if_pos h]

set_option maxHeartbeats 400000 in
theorem check_any (c n : Nat) (k : Bool) (w : World) (hc : c < 256) (hn : n < 4294967296) :
    Calls Try.prog 55 #[tagV c n k] w fun e w' => e = .returned (.int .i64 (chk c n k : Nat)) ∧ Below w.heap.size w w' := by
  by_cases h3 : 3 < c
  · have HE := Lib.hid (chk_one (n := n) (k := k) (Or.inl h3))
    go_enter Try.func55, Try.ntmps55
    go_wp2_with fail
    go_ret
    exact ⟨by rw [HE.out]; rfl, (Below.refl _ _).alloc (Nat.le_refl _) _⟩
  by_cases h4 : 268435455 < n
  · have HE := Lib.hid (chk_one (c := c) (k := k) (Or.inr h4))
    go_enter Try.func55, Try.ntmps55
    go_wp2_with fail
    go_ret
    exact ⟨by rw [HE.out]; rfl, (Below.refl _ _).alloc (Nat.le_refl _) _⟩
  cases hx : exc c n k
  · have HE := Lib.hid (exc_no hx h3 h4)
    have HX := Lib.hid hx
    clear hx
    go_enter Try.func55, Try.ntmps55
    go_wp2_with (go_at_call 78; refine (excl_any c n k _ hc hn).mono ?_; rintro e w1 ⟨rfl, hb⟩; rw [HX.out]; have HB := Lib.hid hb; clear hb)
    go_ret
    exact ⟨by rw [HE.out]; rfl, ((Below.refl _ _).alloc (Nat.le_refl _) _).trans (HB.out.mono (by simp))⟩
  · have HE := Lib.hid (exc_yes hx h3 h4)
    have HX := Lib.hid hx
    clear hx
    go_enter Try.func55, Try.ntmps55
    go_wp2_with (go_at_call 78; refine (excl_any c n k _ hc hn).mono ?_; rintro e w1 ⟨rfl, hb⟩; rw [HX.out]; have HB := Lib.hid hb; clear hb)
    go_ret
    exact ⟨by rw [HE.out]; rfl, ((Below.refl _ _).alloc (Nat.le_refl _) _).trans (HB.out.mono (by simp))⟩

set_option maxHeartbeats 400000 in
theorem rcheck_any (c n : Nat) (k : Bool) (w : World) (hc : c < 256) (hn : n < 4294967296) :
    Calls Try.prog 34 #[tagV c n k] w fun e w' => e = .returned (.int .i64 (chk c n k : Nat)) ∧ Below w.heap.size w w' := by
  go_enter Try.func34, Try.ntmps34
  cases k
  all_goals
    go_wp2
  all_goals go_ret
  all_goals refine ⟨?_, (Below.refl _ _).alloc (Nat.le_refl _) _⟩
  all_goals refine congrArg (fun b : Nat => Ending.returned (Value.int .i64 (b : Int))) (Eq.symm ?_)
  all_goals unfold chk
  all_goals try simp only [ne_eq, beq_iff_eq, beq_eq_false_iff_ne] at *
  all_goals first | (rw [if_pos (by omega)]) | (rw [if_neg (by omega), if_pos (by simp; omega)]) | (rw [if_neg (by omega), if_neg (by simp; omega)])
end Go.Proofs.Ytgdjgahmnnjeeaa
