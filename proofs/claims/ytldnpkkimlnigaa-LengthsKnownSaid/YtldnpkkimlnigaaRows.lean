/-
  No cell of these rows narrows 'for every input' (looked for: loops, veiled, ifaces, maps, wideKeys, modest, calm, conditions, laid).
  DERIVED. THE GIVEN ROWS OF THIS SEAT. 5 by the template 'for every input the law returns true; each argument reads behind the call as it read before'; 0 by the template 'total and deterministic' (their statements: YtldnpkkimlnigaaTotals.lean).
  GIVEN WITH THE SEED: the statements are not yours to turn. If you find one false, say at which input.
  Laid BY PROGRAM, IN A SANDBOX (cutbox-rows.mjs): the forced cells as the released guide's own fill.sh prints them over the translation 3599ec17a1568135… (all of the seat's roots in one cut). By AI agents, Wed Nov 11 2026. No macro, syntax, notation, axiom, sorry.
-/
import Derived.Test.YtldnpkkimlnigaaChecked
import GoSem.Claim
import GoSem.ClaimJoined
import GoSem.ClaimMapViews
import Derived.JoinedTies
import Derived.KernelRfl
namespace Go.Proofs.Ytldnpkkimlnigaa
/- THE CELL 'sum', in the pinned program and in every row, IS THE sha256 OF THE DUMP (.gsa) THAT YtldnpkkimlnigaaProg.lean LOADS. Nothing in Lean hashes anything: it is a label: what it is worth is what the hold of that sum in a sandbox is worth. -/
noncomputable def Try.pinned : Pinned := { name := "ytldnpkkimlnigaa", sum := "3599ec17a156813535587b9b9b5535cd7fac528b56e3b80324e3c8a46074018b", checked := Try.checked }
namespace Rows
def none {H : Type} : Left H := { results := [], args := [] }

/-- 'vidimuslaw03.LengthsPut': WHATEVER THE INPUT: true; the input reads as it did. -/
def lengthsPutSpec : ChangeSpec := { name := "lengthsPut", fn := fun _ => fun
  | [d] => { results := [.lit (.bool true)], args := [d] }
  | _ => none }
def lengthsPutRow : OpenClaim := { program := "ytldnpkkimlnigaa", sum := "3599ec17a156813535587b9b9b5535cd7fac528b56e3b80324e3c8a46074018b", func := "vidimus/vidimuslaw03.LengthsPut", spec := "lengthsPut", apart := false }
def LengthsPutSaid : Prop := lengthsPutRow.holds Try.pinned (OpenSpec.ofChange lengthsPutSpec)

/-- ITS FALSE NEIGHBOUR: 'it returns false'. Refute it at one input. -/
def lengthsPutWrong : ChangeSpec := { name := "lengthsPut", fn := fun _ => fun
  | [d] => { results := [.lit (.bool false)], args := [d] }
  | _ => none }
def LengthsPutWrongFalsely : Prop := lengthsPutRow.holds Try.pinned (OpenSpec.ofChange lengthsPutWrong)

/-- 'vidimuslaw03.LengthsBack': WHATEVER THE INPUT: true; the input reads as it did. -/
def lengthsBackSpec : ChangeSpec := { name := "lengthsBack", fn := fun _ => fun
  | [d1, d2, d3] => { results := [.lit (.bool true)], args := [d1, d2, d3] }
  | _ => none }
def lengthsBackRow : OpenClaim := { program := "ytldnpkkimlnigaa", sum := "3599ec17a156813535587b9b9b5535cd7fac528b56e3b80324e3c8a46074018b", func := "vidimus/vidimuslaw03.LengthsBack", spec := "lengthsBack", apart := false }
def LengthsBackSaid : Prop := lengthsBackRow.holds Try.pinned (OpenSpec.ofChange lengthsBackSpec)

/-- ITS FALSE NEIGHBOUR: 'it returns false'. Refute it at one input. -/
def lengthsBackWrong : ChangeSpec := { name := "lengthsBack", fn := fun _ => fun
  | [d1, d2, d3] => { results := [.lit (.bool false)], args := [d1, d2, d3] }
  | _ => none }
def LengthsBackWrongFalsely : Prop := lengthsBackRow.holds Try.pinned (OpenSpec.ofChange lengthsBackWrong)

/-- 'vidimuslaw03.LengthsGet': WHATEVER THE INPUT: true; the input reads as it did. -/
def lengthsGetSpec : ChangeSpec := { name := "lengthsGet", fn := fun _ => fun
  | [d] => { results := [.lit (.bool true)], args := [d] }
  | _ => none }
def lengthsGetRow : OpenClaim := { program := "ytldnpkkimlnigaa", sum := "3599ec17a156813535587b9b9b5535cd7fac528b56e3b80324e3c8a46074018b", func := "vidimus/vidimuslaw03.LengthsGet", spec := "lengthsGet", apart := false }
def LengthsGetSaid : Prop := lengthsGetRow.holds Try.pinned (OpenSpec.ofChange lengthsGetSpec)

/-- ITS FALSE NEIGHBOUR: 'it returns false'. Refute it at one input. -/
def lengthsGetWrong : ChangeSpec := { name := "lengthsGet", fn := fun _ => fun
  | [d] => { results := [.lit (.bool false)], args := [d] }
  | _ => none }
def LengthsGetWrongFalsely : Prop := lengthsGetRow.holds Try.pinned (OpenSpec.ofChange lengthsGetWrong)

/-- 'vidimuslaw03.LengthsOrder': WHATEVER THE INPUT: true; the input reads as it did. -/
def lengthsOrderSpec : ChangeSpec := { name := "lengthsOrder", fn := fun _ => fun
  | [d1, d2, d3] => { results := [.lit (.bool true)], args := [d1, d2, d3] }
  | _ => none }
def lengthsOrderRow : OpenClaim := { program := "ytldnpkkimlnigaa", sum := "3599ec17a156813535587b9b9b5535cd7fac528b56e3b80324e3c8a46074018b", func := "vidimus/vidimuslaw03.LengthsOrder", spec := "lengthsOrder", apart := false }
def LengthsOrderSaid : Prop := lengthsOrderRow.holds Try.pinned (OpenSpec.ofChange lengthsOrderSpec)

/-- ITS FALSE NEIGHBOUR: 'it returns false'. Refute it at one input. -/
def lengthsOrderWrong : ChangeSpec := { name := "lengthsOrder", fn := fun _ => fun
  | [d1, d2, d3] => { results := [.lit (.bool false)], args := [d1, d2, d3] }
  | _ => none }
def LengthsOrderWrongFalsely : Prop := lengthsOrderRow.holds Try.pinned (OpenSpec.ofChange lengthsOrderWrong)

/-- 'vidimuslaw03.LengthsKnown': WHATEVER THE INPUT: true; the input reads as it did. -/
def lengthsKnownSpec : ChangeSpec := { name := "lengthsKnown", fn := fun _ => fun
  | [] => { results := [.lit (.bool true)], args := [] }
  | _ => none }
def lengthsKnownRow : OpenClaim := { program := "ytldnpkkimlnigaa", sum := "3599ec17a156813535587b9b9b5535cd7fac528b56e3b80324e3c8a46074018b", func := "vidimus/vidimuslaw03.LengthsKnown", spec := "lengthsKnown", apart := false }
def LengthsKnownSaid : Prop := lengthsKnownRow.holds Try.pinned (OpenSpec.ofChange lengthsKnownSpec)

/-- ITS FALSE NEIGHBOUR: 'it returns false'. Refute it at one input. -/
def lengthsKnownWrong : ChangeSpec := { name := "lengthsKnown", fn := fun _ => fun
  | [] => { results := [.lit (.bool false)], args := [] }
  | _ => none }
def LengthsKnownWrongFalsely : Prop := lengthsKnownRow.holds Try.pinned (OpenSpec.ofChange lengthsKnownWrong)

/- THE SECOND FORM. 'bulk': how many values and letters a reading holds, each counted each time it is reached (what is shared counts as often as it is met; a slice's spare places count too). A statement '..UptoSaid' is the law's where the arguments, and the package variables that the reading takes, are together of bulk at most 1048576: NARROWER than '..Said'. Prove '..Said' where nothing that the law and all that it calls make is longer than what came in: it says more and counts as full. Else prove '..UptoSaid'. A law counts once. -/
mutual
def uptoBulk {H : Type} : DataW H → Nat
  | .lit (.string bytes) => bytes.length + 1
  | .lit _ => 1
  | .nil => 1
  | .ptr d => uptoBulk d + 1
  | .slice elems spare => uptoBulkAll elems + uptoBulkAll spare + 1
  | .agg parts => uptoBulkAll parts + 1
  | .iface _ d => uptoBulk d + 1
  | .map entries => uptoBulkEntries entries + 1
  | .held _ => 1
def uptoBulkAll {H : Type} : List (DataW H) → Nat
  | [] => 0
  | d :: r => uptoBulk d + uptoBulkAll r
def uptoBulkEntries {H : Type} : List (Lit × DataW H) → Nat
  | [] => 0
  | x :: r => uptoBulkEntry x + uptoBulkEntries r
def uptoBulkEntry {H : Type} : Lit × DataW H → Nat
  | (.string bytes, d) => bytes.length + uptoBulk d + 1
  | (_, d) => uptoBulk d + 1
 end
def uptoSmall : (H : Type) → List (DataW H) → Bool := fun _ ds => decide (uptoBulkAll ds ≤ 1048576)
def OpenSpec.upto (s : _root_.Go.ChangeSpec) : _root_.Go.OpenSpec := { _root_.Go.OpenSpec.ofChange s with cond := some uptoSmall }

/-- 'vidimuslaw03.LengthsPut', WHERE WHAT IT READS IS OF BULK AT MOST 1048576: true; the input reads as it did. -/
def lengthsPutUptoRow : OpenClaim := { program := "ytldnpkkimlnigaa", sum := "3599ec17a156813535587b9b9b5535cd7fac528b56e3b80324e3c8a46074018b", func := "vidimus/vidimuslaw03.LengthsPut", spec := "lengthsPut", apart := false, narrowed := true }
def LengthsPutUptoSaid : Prop := lengthsPutUptoRow.holds Try.pinned (OpenSpec.upto lengthsPutSpec)

/-- 'vidimuslaw03.LengthsBack', WHERE WHAT IT READS IS OF BULK AT MOST 1048576: true; the input reads as it did. -/
def lengthsBackUptoRow : OpenClaim := { program := "ytldnpkkimlnigaa", sum := "3599ec17a156813535587b9b9b5535cd7fac528b56e3b80324e3c8a46074018b", func := "vidimus/vidimuslaw03.LengthsBack", spec := "lengthsBack", apart := false, narrowed := true }
def LengthsBackUptoSaid : Prop := lengthsBackUptoRow.holds Try.pinned (OpenSpec.upto lengthsBackSpec)

/-- 'vidimuslaw03.LengthsGet', WHERE WHAT IT READS IS OF BULK AT MOST 1048576: true; the input reads as it did. -/
def lengthsGetUptoRow : OpenClaim := { program := "ytldnpkkimlnigaa", sum := "3599ec17a156813535587b9b9b5535cd7fac528b56e3b80324e3c8a46074018b", func := "vidimus/vidimuslaw03.LengthsGet", spec := "lengthsGet", apart := false, narrowed := true }
def LengthsGetUptoSaid : Prop := lengthsGetUptoRow.holds Try.pinned (OpenSpec.upto lengthsGetSpec)

/-- 'vidimuslaw03.LengthsOrder', WHERE WHAT IT READS IS OF BULK AT MOST 1048576: true; the input reads as it did. -/
def lengthsOrderUptoRow : OpenClaim := { program := "ytldnpkkimlnigaa", sum := "3599ec17a156813535587b9b9b5535cd7fac528b56e3b80324e3c8a46074018b", func := "vidimus/vidimuslaw03.LengthsOrder", spec := "lengthsOrder", apart := false, narrowed := true }
def LengthsOrderUptoSaid : Prop := lengthsOrderUptoRow.holds Try.pinned (OpenSpec.upto lengthsOrderSpec)

/-- 'vidimuslaw03.LengthsKnown', WHERE WHAT IT READS IS OF BULK AT MOST 1048576: true; the input reads as it did. -/
def lengthsKnownUptoRow : OpenClaim := { program := "ytldnpkkimlnigaa", sum := "3599ec17a156813535587b9b9b5535cd7fac528b56e3b80324e3c8a46074018b", func := "vidimus/vidimuslaw03.LengthsKnown", spec := "lengthsKnown", apart := false, narrowed := true }
def LengthsKnownUptoSaid : Prop := lengthsKnownUptoRow.holds Try.pinned (OpenSpec.upto lengthsKnownSpec)

end Rows
end Go.Proofs.Ytldnpkkimlnigaa
