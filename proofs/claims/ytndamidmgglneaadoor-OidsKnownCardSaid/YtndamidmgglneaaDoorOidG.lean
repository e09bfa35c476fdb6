/-
  The reference of layer 6: contract of Compare.
  Conditions: the OID's cells are in their kinds.
-/
import Derived.Test.YtndamidmgglneaaDoorOidF
import Derived.RegionTactic
namespace Go.Proofs.YtndamidmgglneaaDoor
open Go.RowKit

theorem oid_t {w : World} {g n a j : Nat} {t : TypeId} {l : List Nat} (h : Bk w g t (oc n l)) (hj : j < (l.take a).length) : w.cell? ⟨g, 1 + j, none⟩ = some (.int .u32 ((l.take a)[j] : Int)) := by
  rw [List.getElem_take]
  exact oid_a' h (by rw [List.length_take] at hj; omega)

end Go.Proofs.YtndamidmgglneaaDoor
