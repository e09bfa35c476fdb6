/-
  Layer 12: what the laws that have no list of fields as an argument stand on.
  Conditions: none.
-/
import Derived.Test.YtfbdeefeagednaaFlP
import Derived.Test.YtfbdeefeagednaaFlT
import Derived.Test.YtfbdeefeagednaaFlX
import Derived.Test.YtfbdeefeagednaaFlR
namespace Go.Proofs.Ytfbdeefeagednaa.Fl
theorem maxN {n : Nat} (h : n ≤ maxLen) : n ≤ 9223372036854775807 := by unfold maxLen at h; omega
end Go.Proofs.Ytfbdeefeagednaa.Fl
