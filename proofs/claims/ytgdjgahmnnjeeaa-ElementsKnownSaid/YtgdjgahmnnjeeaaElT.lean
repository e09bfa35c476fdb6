/-
  Layer 4: the decoder as a function on octets; raiseRead.
  Conditions: none.
-/
import Derived.Test.YtgdjgahmnnjeeaaElF
import Derived.Test.YtgdjgahmnnjeeaaTagG
import Derived.Test.YtgdjgahmnnjeeaaLenD
import Derived.Test.YtgdjgahmnnjeeaaTagV
import Derived.Test.YtgdjgahmnnjeeaaLenV
namespace Go.Proofs.Ytgdjgahmnnjeeaa
open Go.RowKit

/-- What the decoder finds: a fault (error, offset), or an element, its size and how many were begun. -/
inductive Nx where
  | err (f a : Nat)
  | ok (e : El) (z b : Nat)
inductive Nxs where
  | err (f a : Nat)
  | ok (ss : List El) (b : Nat)

/-- Elements one behind the other, to the octets' end; the first number is fuel. -/
def nxS (step : List Nat → Nat → Nx) : Nat → List Nat → Nat → Nxs
  | 0, _, b => .ok [] b
  | g + 1, l, b => if l = [] then .ok [] b else
    match step l b with
    | .err f a => .err f a
    | .ok e z b' =>
      match nxS step g (l.drop z) b' with
      | .err f a => .err f (z + a)
      | .ok ss b'' => .ok (e :: ss) b''
/-- What follows a header: l's octets from h on; the content's size is m. -/
def nxB (sub : List Nat → Nat → Nxs) (c n : Nat) (k : Bool) (l : List Nat) (h m b : Nat) : Nx :=
  if (l.drop h).length < m then .err 7 l.length else
  if k = false then .ok (.mk c n k ((l.drop h).take m) []) (h + m) b else
    match sub ((l.drop h).take m) b with
    | .err f a => .err f (h + a)
    | .ok ss b' => .ok (.mk c n k [] ss) (h + m) b'
def nxH (sub : List Nat → Nat → Nxs) (l : List Nat) (d b : Nat) (t : Nat × Nat × Bool × Nat × Nat) (q : Nat × Nat × Nat) : Nx :=
  if t.2.2.2.2 ≠ 0 then .err t.2.2.2.2 (if t.2.2.2.2 = 7 then l.length else 0) else
  if plcE d b ≠ 0 then .err (plcE d b) 0 else
  if q.2.2 ≠ 0 then .err q.2.2 (if q.2.2 = 7 then l.length else t.2.2.2.1) else
  nxB sub t.1 t.2.1 t.2.2.1 l (t.2.2.2.1 + q.2.1) q.1 (b + 1)
/-- An element at the octets' beginning, at the depth d, with b elements begun before it; the first number is fuel. -/
def nxE : Nat → List Nat → Nat → Nat → Nx
  | 0, _, _, _ => .err 0 0
  | f + 1, l, d, b => nxH (fun l b => nxS (fun l b => nxE f l (d + 1) b) l.length l b) l d b (rdL l) (Len.getL (l.drop (rdL l).2.2.2.1))

theorem rdL_size (l : List Nat) (h8 : All8 l) : (rdL l).2.2.2.2 = 0 → 1 ≤ (rdL l).2.2.2.1 ∧ (rdL l).2.2.2.1 ≤ l.length ∧ (rdL l).1 < 256 ∧ (rdL l).2.1 < 4294967296 ∧ chk (rdL l).1 (rdL l).2.1 (rdL l).2.2.1 = 0 := by
  rcases h : rdL l with ⟨c, n, k, s, e⟩
  intro h0
  obtain rfl : e = 0 := h0
  obtain ⟨h1, h2, h3, h4, h5⟩ := rd_put h8 h
  have hp : 1 ≤ (putL c n k).length := by unfold putL; split <;> simp
  have hl : (l.take s).length = (putL c n k).length := by rw [h4]
  rw [List.length_take] at hl
  dsimp only
  refine ⟨by omega, by omega, by omega, by omega, h1⟩

set_option maxRecDepth 100000 in
theorem rread_no (a z : Int) (w : World) : Calls Try.prog 72 #[.int .i64 0, .int .i64 a, .int .i64 z] w fun e w' => e = .returned (.tuple #[]) ∧ w = w' := by
  go_enter Try.func72, Try.ntmps72
  go_wp2_with fail
  refine (raise_no a w).mono ?_
  rintro e w' ⟨rfl, rfl⟩
  go_wp2_with fail
  go_end0
  exact ⟨rfl, rfl⟩
set_option maxRecDepth 100000 in
theorem rread_yes (f a z : Nat) (w : World) (hf : f ≠ 0) : Calls Try.prog 72 #[.int .i64 (f : Int), .int .i64 (a : Int), .int .i64 (z : Int)] w fun e w' => e = .panicked [fltP f (if f = 7 then z else a)] ∧ w = w' := by
  by_cases h7 : f = 7
  · subst h7
    rw [if_pos rfl]
    go_enter Try.func72, Try.ntmps72
    go_wp2_with fail
    refine (raise_yes 7 z w (by decide)).mono ?_
    rintro e w' ⟨rfl, rfl⟩
    exact ⟨rfl, rfl, rfl⟩
  · rw [if_neg h7]
    have h7i : ((f : Int) == 7) = false := by
      rw [beq_eq_false_iff_ne]; omega
    have h7j : ¬ ((f : Int) = 7) := by omega
    have HR := Lib.hid (raise_yes f a w hf)
    clear hf h7
    go_enter Try.func72, Try.ntmps72
    go_wp2_with fail
    refine HR.out.mono ?_
    rintro e w' ⟨rfl, rfl⟩
    exact ⟨rfl, rfl, rfl⟩
end Go.Proofs.Ytgdjgahmnnjeeaa
