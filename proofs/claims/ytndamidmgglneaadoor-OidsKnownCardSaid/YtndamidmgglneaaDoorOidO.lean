/-
  The reference of layers 1 and 6: contracts of Small, Text (of a number), and layer 6's Text.
  Conditions: the OID's cells are in their kinds.
-/
import Derived.Test.YtndamidmgglneaaDoorOidN
import Derived.Deep.RegionHeld3
import Derived.StillTailTactics
namespace Go.Proofs.YtndamidmgglneaaDoor
open Go.RowKit

theorem info3 : (Tryd.prog.info? 3).map (fun i => (i.zero, i.size, i.bytes)) = some (some (.int .i64 0), 1, 8) := by kernel_rfl
theorem dgs10_le {v k : Nat} (h : v < 10 ^ k) : (dgs 10 v).length ≤ k := (dgs_length (by omega) v k).2 h
/-- The k-th digit's character. -/
theorem dslice (x : Nat) (hx : x < 10) (W : World) : (Instr.slice 9 (.string ⟨#[48, 49, 50, 51, 52, 53, 54, 55, 56, 57]⟩) (some (.int .i64 (x : Int))) (some (.int .i64 ((x : Int) + 1))) none).run Tryd.prog W = .ok (.string (bstr [48 + x])) W := by
  rcases x with _ | _ | _ | _ | _ | _ | _ | _ | _ | _ | x
  all_goals first | omega | kernel_rfl
theorem dslice' (x : Nat) (hx : x < 10) (W : World) : (Instr.sliceAt 9 (.string ⟨#[48, 49, 50, 51, 52, 53, 54, 55, 56, 57]⟩) (some (.int .i64 (x : Int))) (some (.int .i64 ((x : Int) + 1))) none).run Tryd.prog W = .ok (.string (bstr [48 + x])) W := by
  rcases x with _ | _ | _ | _ | _ | _ | _ | _ | _ | _ | x
  all_goals first | omega | kernel_rfl
end Go.Proofs.YtndamidmgglneaaDoor
