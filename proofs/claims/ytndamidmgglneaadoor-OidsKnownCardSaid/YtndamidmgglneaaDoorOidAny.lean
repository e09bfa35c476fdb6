/-
  The reference of layer 6: contract of Any.
  Conditions: none.
-/
import Derived.Test.YtndamidmgglneaaDoorOidC
namespace Go.Proofs.YtndamidmgglneaaDoor
open Go.RowKit

set_option maxHeartbeats 1000000 in
set_option maxRecDepth 100000 in
theorem rany_any (w : World) : Calls Tryd.prog 18 #[] w (GiveO w 5 anyL) := by
  go_enter Tryd.func18, Tryd.ntmps18
  go_wp2
  exact ret25 rfl rfl ((Bk.new w 26 (oc 5 anyL)).alloc _) rfl rfl ⟨rfl, (bel1 _ _).alloc (by simp) _⟩
end Go.Proofs.YtndamidmgglneaaDoor
