/-
  Layer 4: the program's raise, checkPlace, checkOne, bounded, catch.
  Conditions: none beyond that values read as elements.
-/
import Derived.Test.YtgdjgahmnnjeeaaElB
import Derived.Test.YtgdjgahmnnjeeaaTagN2
import Derived.Test.YtgdjgahmnnjeeaaLenG0
import Derived.Defers
import Derived.Recover
import Derived.WalkLawsBesides
namespace Go.Proofs.Ytgdjgahmnnjeeaa
open Go.RowKit

/-- A fault as it is raised. -/
@[reducible] def fltV (f a : Nat) : Value := .iface 83 (.agg #[.int .i64 (f : Int), .int .i64 (a : Int)])
@[reducible] def fltP (f a : Nat) : PanicEntry := { v := fltV f a, recovered := false }

set_option maxRecDepth 100000 in
theorem raise_no (a : Int) (w : World) : Calls Try.prog 62 #[.int .i64 0, .int .i64 a] w fun e w' => e = .returned (.tuple #[]) ∧ w = w' := by
  go_enter Try.func62, Try.ntmps62
  go_wp2_with fail
  go_end0
  exact ⟨rfl, rfl⟩
set_option maxRecDepth 100000 in
theorem raise_yes (f a : Nat) (w : World) (hf : f ≠ 0) : Calls Try.prog 62 #[.int .i64 (f : Int), .int .i64 (a : Int)] w fun e w' => e = .panicked [fltP f a] ∧ w = w' := by
  have h1 : ((f : Int) != 0) = true := by simp; omega
  go_enter Try.func62, Try.ntmps62
  go_wp2_with fail
  exact ⟨rfl, rfl, rfl⟩

/-- The error of the place of an element. -/
def plcE (d b : Nat) : Nat := if 16 < d then 12 else if 8192 ≤ b then 3 else 0
set_option maxRecDepth 100000 in
theorem place_any (d b : Nat) (w : World) : Calls Try.prog 73 #[.int .i64 (d : Int), .int .i64 (b : Int)] w fun e w' => e = .returned (.int .i64 (plcE d b : Nat)) ∧ w = w' := by
  unfold plcE
  by_cases h1 : 16 < d
  · rw [if_pos h1]
    go_enter Try.func73, Try.ntmps73
    go_wp2_with fail
    go_ret
    exact ⟨rfl, rfl⟩
  rw [if_neg h1]
  by_cases h2 : 8192 ≤ b
  · rw [if_pos h2]
    go_enter Try.func73, Try.ntmps73
    go_wp2_with fail
    go_ret
    exact ⟨rfl, rfl⟩
  rw [if_neg h2]
  go_enter Try.func73, Try.ntmps73
  go_wp2_with fail
  go_ret
  exact ⟨rfl, rfl⟩
set_option maxRecDepth 100000 in
theorem bnd_no (z : Nat) (w : World) (h : z ≤ 1048576) : Calls Try.prog 59 #[.int .i64 (z : Int)] w fun e w' => e = .returned (.int .i64 (z : Int)) ∧ w = w' := by
  go_enter Try.func59, Try.ntmps59
  go_wp2_with fail
  go_ret
  exact ⟨rfl, rfl⟩
set_option maxRecDepth 100000 in
theorem bnd_yes (z : Nat) (w : World) (h : 1048576 < z) : Calls Try.prog 59 #[.int .i64 (z : Int)] w fun e w' => e = .panicked [fltP 3 0] ∧ w = w' := by
  go_enter Try.func59, Try.ntmps59
  go_wp2_with fail
  refine (raise_yes 3 0 w (by decide)).mono ?_
  rintro e w' ⟨rfl, rfl⟩
  exact ⟨rfl, rfl, rfl⟩

set_option maxRecDepth 100000 in
theorem catch1_yes (g f a : Nat) (older : List PanicEntry) (w : World) (h : Bk w g 83 [.int .i64 0, .int .i64 0]) :
    CallsD Try.prog 70 #[.pointer (some ⟨g, 0, none⟩)] (.panicking (fltP f a :: older)) w fun e u' w' =>
      e = .returned (.tuple #[]) ∧ u' = .panicking ({ v := fltV f a, recovered := true } :: older) ∧ w' = (w.setCell ⟨g, 0, none⟩ (.int .i64 (f : Int))).setCell ⟨g, 1, none⟩ (.int .i64 (a : Int)) := by
  have c0 := h.cell 0
  have c1 := h.cell 1
  have f0 := h.free 0
  have f1 := h.free 1
  simp only [List.getElem?_cons_zero, List.getElem?_cons_succ] at c0 c1
  have hta : ∀ w, (Instr.typeAssert (fltV f a) 20 83 false).run Try.prog w = .ok (.agg #[.int .i64 (f : Int), .int .i64 (a : Int)]) w := fun _ => by kernel_rfl
  refine callsD_of_wpS Try.func70 rfl fun c₀ cs hu => ?_
  simp only [Try.ntmps70, List.size_toArray, List.length_cons, List.length_nil, Nat.reduceAdd, Nat.reduceSub, Array.replicate_succ, Array.replicate_zero, List.push_toArray, List.append_toArray, List.nil_append, List.cons_append]
  apply wpS_seq
  apply wpS_region
  simp [wpOpsS, go_sem, recoverD, hu, Exit.thenS]
  refine wpS_of_wp ?_
  clear hu
  go_wp2_with fail
  simp [bodyPostS, results, Try.results70]

set_option maxRecDepth 100000 in
theorem catch1_no (p : Addr) (w : World) :
    CallsD Try.prog 70 #[.pointer (some p)] .returning w fun e u' w' => e = .returned (.tuple #[]) ∧ u' = .returning ∧ w' = w := by
  refine callsD_of_wpS Try.func70 rfl fun c₀ cs hu => ?_
  simp only [Try.ntmps70, List.size_toArray, List.length_cons, List.length_nil, Nat.reduceAdd, Nat.reduceSub, Array.replicate_succ, Array.replicate_zero, List.push_toArray, List.append_toArray, List.nil_append, List.cons_append]
  apply wpS_seq
  apply wpS_region
  simp [wpOpsS, go_sem, recoverD, hu, Exit.thenS]
  refine wpS_of_wp ?_
  go_wp2_with fail
  cases c₀
  simp_all [bodyPostS, results, Try.results70]

set_option maxHeartbeats 1000000 in
set_option maxRecDepth 100000 in
/-- 'catch': what the function that it calls raises, it returns. -/
theorem catch_any (K : Nat) (cap : Array Value) (R : Nat → Nat → World → Prop) (w : World) (hK : ∀ (args : Array Value) (w : World), (callFunc K args).run Try.prog w = .ok (.enter K args) w)
    (h : Calls Try.prog K cap (w.alloc (.cells #[.int .i64 0, .int .i64 0] 83)) fun e w' => ∃ f a, R f a w' ∧ Bk w' w.heap.size 83 [.int .i64 0, .int .i64 0] ∧ ((f = 0 ∧ a = 0 ∧ e = .returned (.tuple #[])) ∨ (f ≠ 0 ∧ e = .panicked [fltP f a]))) :
    Calls Try.prog 48 #[.func (.func K) #[] cap] w fun e w' => ∃ f a w1, R f a w1 ∧ w1.grownBy w' (some w.heap.size) ∧ e = .returned (.agg #[.int .i64 ((f : Nat) : Int), .int .i64 ((a : Nat) : Int)]) := by
  have hmf : ∀ (fn : Fn) (first cap : Array Value) (w : World), (Instr.makeFunc fn first cap).run Try.prog w = .ok (.func fn first cap) w := fun _ _ _ _ => rfl
  have H := Lib.hid h
  clear h
  go_enter_defers Try.func48, Try.ntmps48
  go_wp2_with fail
  refine H.out.mono ?_
  rintro e w1 ⟨f, a, hR, hbk, he⟩
  have HR := Lib.hid hR
  have HBK := Lib.hid hbk
  obtain ⟨c0, c1⟩ : w1.cell? ⟨w.heap.size, 0, none⟩ = some (.int .i64 0) ∧ w1.cell? ⟨w.heap.size, 1, none⟩ = some (.int .i64 0) := ⟨hbk.cell 0, hbk.cell 1⟩
  have f0 := hbk.free 0
  have f1 := hbk.free 1
  clear hR hbk H
  rcases he with ⟨rfl, rfl, rfl⟩ | ⟨hf, rfl⟩
  · go_wp2_with fail
    have HS := ((HBK.out.store 0 (.int .i64 0)).store 1 (.int .i64 0))
    have s0 := HS.cell 0
    have s1 := HS.cell 1
    simp only [List.set_cons_zero, List.set_cons_succ, List.getElem?_cons_zero, List.getElem?_cons_succ] at s0 s1
    refine leaves_cons (f := 70) (args := #[.pointer (some ⟨w.heap.size, 0, none⟩)]) (by simp) (by simp [go_sem]) ?_
    refine (catch1_no _ _).mono ?_
    rintro e u' w'' ⟨rfl, rfl, rfl⟩
    exact ⟨.agg #[.int .i64 0, .int .i64 0], by simp [results, Try.results48, go_sem, s0, s1], 0, 0, w1, HR.out, only_store (only_store (only_refl _ _) _ _) _ _, rfl⟩
  · go_wp2_with fail
    have HS := ((HBK.out.store 0 (.int .i64 (f : Int))).store 1 (.int .i64 (a : Int)))
    have s0 := HS.cell 0
    have s1 := HS.cell 1
    simp only [List.set_cons_zero, List.set_cons_succ, List.getElem?_cons_zero, List.getElem?_cons_succ] at s0 s1
    refine leaves_cons (f := 70) (args := #[.pointer (some ⟨w.heap.size, 0, none⟩)]) (by simp) (by simp [go_sem]) ?_
    refine (catch1_yes _ _ _ _ _ HBK.out).mono ?_
    rintro e u' w'' ⟨rfl, rfl, rfl⟩
    exact ⟨.agg #[.int .i64 (f : Int), .int .i64 (a : Int)], by simp [results, Try.results48, go_sem, s0, s1], f, a, w1, HR.out, only_store (only_store (only_refl _ _) _ _) _ _, rfl⟩
end Go.Proofs.Ytgdjgahmnnjeeaa
