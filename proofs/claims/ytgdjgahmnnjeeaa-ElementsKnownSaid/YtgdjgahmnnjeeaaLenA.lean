/-
  Package lengths: contracts of Size and Total.
  Conditions: none.
-/
import Derived.Test.YtgdjgahmnnjeeaaRows
import Derived.Test.YtgdjgahmnnjeeaaMem
import Derived.Test.YtgdjgahmnnjeeaaNum
import Derived.Test.YtgdjgahmnnjeeaaStr
import Derived.WalkSpells
import Derived.Handy
import Derived.Deep.QuietTactic
import Derived.BigQuiet
namespace Go.Proofs.Ytgdjgahmnnjeeaa.Len
open Go.RowKit

/-- The number of octets of a length; 0 if it is not valid. -/
def szI (z : Int) : Nat := if z < 0 then 0 else if 16777215 < z then 0 else if z < 128 then 1 else if z < 256 then 2 else if z < 65536 then 3 else 4
/-- The size of an element. -/
def totI (t z : Int) : Int := if t < 1 then 0 else if 5 < t then 0 else if szI z = 0 then 0 else t + (szI z : Int) + z

set_option maxRecDepth 100000 in
set_option maxHeartbeats 400000 in
theorem size_any (z : Int) (w : World) : Calls Try.prog 58 #[.int .i64 z] w fun e w' => e = .returned (.int .i64 (szI z : Int)) ∧ w = w' := by
  unfold szI
  by_cases h0 : z < 0
  · rw [if_pos h0]
    go_enter Try.func58, Try.ntmps58
    go_wp2
    go_ret
    exact ⟨rfl, rfl⟩
  by_cases h1 : 16777215 < z
  · rw [if_neg h0, if_pos h1]
    go_enter Try.func58, Try.ntmps58
    go_wp2
    go_ret
    exact ⟨rfl, rfl⟩
  rw [if_neg h0, if_neg h1]
  by_cases h2 : z < 128
  · rw [if_pos h2]
    go_enter Try.func58, Try.ntmps58
    go_wp2
    go_ret
    exact ⟨rfl, rfl⟩
  rw [if_neg h2]
  by_cases h3 : z < 256
  · rw [if_pos h3]
    go_enter Try.func58, Try.ntmps58
    go_wp2
    go_ret
    exact ⟨rfl, rfl⟩
  rw [if_neg h3]
  by_cases h4 : z < 65536
  · rw [if_pos h4]
    go_enter Try.func58, Try.ntmps58
    go_wp2
    go_ret
    exact ⟨rfl, rfl⟩
  · rw [if_neg h4]
    go_enter Try.func58, Try.ntmps58
    go_wp2
    go_ret
    exact ⟨rfl, rfl⟩
theorem szI_le (z : Int) : szI z ≤ 4 := by unfold szI; repeat (first | omega | split)
theorem szI_zero {z : Int} : szI z = 0 ↔ z < 0 ∨ 16777215 < z := by unfold szI; repeat (first | omega | split)

set_option maxRecDepth 100000 in
set_option maxHeartbeats 400000 in
theorem total_any (t z : Int) (w : World) : Calls Try.prog 77 #[.int .i64 t, .int .i64 z] w fun e w' => e = .returned (.int .i64 (totI t z)) ∧ w = w' := by
  unfold totI
  have C1 := Lib.hid (size_any z w)
  have h4 := szI_le z
  have h5 := @szI_zero z
  generalize szI z = s at C1 h4 h5
  by_cases h0 : t < 1
  · rw [if_pos h0]
    go_enter Try.func77, Try.ntmps77
    go_wp2_with fail
    refine C1.out.mono ?_
    rintro e w' ⟨rfl, rfl⟩
    go_wp2_with fail
    go_ret
    exact ⟨rfl, rfl⟩
  rw [if_neg h0]
  by_cases h1 : 5 < t
  · rw [if_pos h1]
    go_enter Try.func77, Try.ntmps77
    go_wp2_with fail
    refine C1.out.mono ?_
    rintro e w' ⟨rfl, rfl⟩
    go_wp2_with fail
    go_ret
    exact ⟨rfl, rfl⟩
  rw [if_neg h1]
  by_cases h2 : s = 0
  · subst h2
    rw [if_pos rfl]
    clear h5
    go_enter Try.func77, Try.ntmps77
    go_wp2_with fail
    refine C1.out.mono ?_
    rintro e w' ⟨rfl, rfl⟩
    go_wp2_with fail
    go_ret
    exact ⟨rfl, rfl⟩
  · rw [if_neg h2]
    have h6 : 0 ≤ z ∧ z ≤ 16777215 := by omega
    obtain ⟨h6, h7⟩ := h6
    have hb : ((s : Int) == 0) = false := by simp; omega
    clear h5 h2
    go_enter Try.func77, Try.ntmps77
    go_wp2_with fail
    refine C1.out.mono ?_
    rintro e w' ⟨rfl, rfl⟩
    go_wp2_with fail
    go_ret
    exact ⟨rfl, rfl⟩
end Go.Proofs.Ytgdjgahmnnjeeaa.Len
