/-
  Layer 12: helpers; what a fault is in memory; fault, has, matches.
  Conditions: none beyond that values read as what they are.
-/
import Derived.Test.YtfbdeefeagednaaPkEb
import Derived.Deep.MidRow
import Derived.Deep.QuietTactic
import Derived.BigQuiet
import Derived.IntWalk
import Derived.Outline
import Derived.Deep.RegionHeld3
import Derived.Deep.DeepCutAuto
namespace Go.Proofs.Ytfbdeefeagednaa.Fl
open Go.RowKit

theorem bt {a b c : World} (h1 : Hid (Below a.heap.size a b)) (h2 : Hid (Below b.heap.size b c)) : Hid (Below a.heap.size a c) := Lib.hid (h1.out.trans (h2.out.mono h1.out.size))
theorem kt {w w' : World} {g : Nat} {t : TypeId} {cs : List Value} (h : Hid (Bk w g t cs)) (hb : Hid (Below w.heap.size w w')) : Hid (Bk w' g t cs) := Lib.hid (h.out.below hb.out h.out.lt)
/-- A fault's value. -/
@[reducible] def fvV (A : Option Addr) (n c f : Nat) : Value := .agg #[.slice A n c, .int .i64 (f : Int)]
theorem loadF {w : World} {g : Nat} {a b : Value} (h : Bk w g 38 [a, b]) : (loadVar 38 ⟨g, 0, none⟩).run Try.prog w = .ok (.agg #[a, b]) w := by
  have e0 := h.cell 0
  have e1 := h.cell 1
  simp only [List.getElem?_cons_zero, List.getElem?_cons_succ] at e0 e1
  simp [loadVar, go_sem, e0, e1]
/-- A fault out of its variable is returned. -/
theorem retF {fn : Func} {p : Tmp} (h : fn.results = #[.cell p 38]) {a : Act} {w : World} {g : Nat} {x y : Value} (hp : a.tmps.getD p undef = .pointer (some ⟨g, 0, none⟩))
    (hb : Bk w g 38 [x, y]) (hdf : a.defers = [])
    {R : Ending → World → Prop} (hR : R (.returned (.agg #[x, y])) w) : bodyPost Try.prog fn R .ret a w := by
  refine bodyPost_ret ?_ hdf hR
  have hp' : a.tmps[p]?.getD undef = .pointer (some ⟨g, 0, none⟩) := by simpa using hp
  simp [results, h, hp', asAddr, loadF hb]
theorem retF2 {fn : Func} {p q : Tmp} (h : fn.results = #[.tmp q, .cell p 38]) {a : Act} {w : World} {g : Nat} {x y v : Value} (hq : a.tmps.getD q undef = v) (hp : a.tmps.getD p undef = .pointer (some ⟨g, 0, none⟩))
    (hb : Bk w g 38 [x, y]) (hdf : a.defers = [])
    {R : Ending → World → Prop} (hR : R (.returned (.tuple #[v, .agg #[x, y]])) w) : bodyPost Try.prog fn R .ret a w := by
  refine bodyPost_ret ?_ hdf hR
  have hp' : a.tmps[p]?.getD undef = .pointer (some ⟨g, 0, none⟩) := by simpa using hp
  have hq' : a.tmps[q]?.getD undef = v := by simpa using hq
  simp [results, h, hp', hq', asAddr, loadF hb]
set_option maxRecDepth 100000 in
theorem fault_any (f : Nat) (A : Option Addr) (n c : Nat) (w : World) : Calls Try.prog 33 #[.int .i64 (f : Int), .slice A n c] w fun e w' => e = .returned (fvV A n c f) ∧ Below w.heap.size w w' := by
  have B0 := Lib.hid (bel1 w (.cells #[.slice A n c, .int .i64 (f : Int)] 38))
  have K0 := Lib.hid (Bk.new w 38 [.slice A n c, .int .i64 (f : Int)])
  go_enter Try.func33, Try.ntmps33
  go_wp2_with fail
  exact retF rfl rfl K0.out rfl ⟨rfl, B0.out⟩
set_option maxRecDepth 100000 in
theorem has_any {x : Bool} {S : Nat → Prop} (c n : Nat) (k : Bool) (u : Value) (B : Option Addr) (m cb : Nat) (z : Int) (w : World) :
    Calls Try.prog 41 #[elV c n k u (.slice B m cb), .int .i64 z] w fun e w' => e = .returned (.bool (decide (0 ≤ z) && decide (z < (m : Int)))) ∧ Below w.heap.size w w' := by
  have B0 := Lib.hid (bel1 w (.cells #[.int .u8 (c : Int), .bool k, .int .u32 (n : Int), u, .slice B m cb] 29))
  by_cases h0 : 0 ≤ z
  · have hg : decide (z ≥ 0) = true := by simpa using h0
    go_enter Try.func41, Try.ntmps41
    go_wp2_with fail
    go_ret
    exact ⟨by simp [h0], B0.out⟩
  · have hg : decide (z ≥ 0) = false := by simpa using h0
    go_enter Try.func41, Try.ntmps41
    go_wp2_with fail
    go_ret
    exact ⟨by simp [h0], B0.out⟩
end Go.Proofs.Ytfbdeefeagednaa.Fl
