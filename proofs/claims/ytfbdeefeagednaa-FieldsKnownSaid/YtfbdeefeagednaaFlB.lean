/-
  Layer 12: matches, begins, missing; the reference's Fault; List and Explicit, the program's and the reference's.
  Conditions: none beyond that values read as what they are.
-/
import Derived.Test.YtfbdeefeagednaaFlS
namespace Go.Proofs.Ytfbdeefeagednaa.Fl
open Go.RowKit

@[reducible] def tgV (c : Nat) (k : Bool) (n : Nat) : Value := .agg #[.int .u8 (c : Int), .bool k, .int .u32 (n : Int)]
theorem eqlT (a : Nat) (k : Bool) (n a2 : Nat) (k2 : Bool) (n2 : Nat) (W : World) : (binOp .eql 25 (tgV a k n) (tgV a2 k2 n2)).run Try.prog W = .ok (.bool (decide (a = a2) && (k == k2) && decide (n = n2))) W := by
  have u0 := Try.underlying25
  have u1 := Try.underlying23
  have u2 := Try.underlying5
  have u3 := Try.underlying4
  simp [go_sem]
  by_cases h1 : a = a2 <;> by_cases h2 : k = k2 <;> by_cases h3 : n = n2 <;> simp [h1, h2, h3] <;> omega
theorem neqT (a : Nat) (k : Bool) (n a2 : Nat) (k2 : Bool) (n2 : Nat) (W : World) : (binOp .neq 25 (tgV a k n) (tgV a2 k2 n2)).run Try.prog W = .ok (.bool (!(decide (a = a2) && (k == k2) && decide (n = n2)))) W := by
  have u0 := Try.underlying25
  have u1 := Try.underlying23
  have u2 := Try.underlying5
  have u3 := Try.underlying4
  simp [go_sem]
  by_cases h1 : a = a2 <;> by_cases h2 : k = k2 <;> by_cases h3 : n = n2 <;> simp [h1, h2, h3] <;> omega
@[reducible] def fdV (f : Fd) : Value := .agg #[.int .u8 (f.c : Int), .bool f.k, .int .u32 (f.n : Int), .bool f.any, .bool f.opt]
set_option maxRecDepth 100000 in
theorem matches_any (f : Fd) (c n : Nat) (k : Bool) (u v : Value) (bs : List Nat) (ss : List El) (w : World) :
    Calls Try.prog 46 #[fdV f, elV c n k u v] w fun e' w' => e' = .returned (.bool (fit f (.mk c n k bs ss))) ∧ Below w.heap.size w w' := by
  have B0 := Lib.hid (bel2 w (.cells #[.int .u8 (f.c : Int), .bool f.k, .int .u32 (f.n : Int), .bool f.any, .bool f.opt] 54) (.cells #[.int .u8 (c : Int), .bool k, .int .u32 (n : Int), u, v] 29))
  obtain ⟨a, m, j, any, opt⟩ := f
  cases any
  · have HQ := fun W => eqlT a j m c k n W
    obtain ⟨z, hz⟩ : ∃ z, (decide (a = c) && (j == k) && decide (m = n)) = z := ⟨_, rfl⟩
    have HZ := Lib.hid hz
    rw [hz] at HQ
    clear hz
    go_enter Try.func46, Try.ntmps46
    go_wp2_with fail
    go_ret
    exact ⟨by rw [fit, isT, ← HZ.out]; rfl, B0.out⟩
  · go_enter Try.func46, Try.ntmps46
    go_wp2_with fail
    go_ret
    exact ⟨by rw [fit]; rfl, B0.out⟩
end Go.Proofs.Ytfbdeefeagednaa.Fl
