/-
  NARROWER THAN 'FOR EVERY INPUT', by the rows' own cells (each row's printed sentence says how): FieldsErrors: loops.
  DERIVED. THE GIVEN ROWS OF THIS SEAT. 8 by the template 'for every input the law returns true; each argument reads behind the call as it read before'; 0 by the template 'total and deterministic' (their statements: YtklljbcnfamikaaTotals.lean).
  GIVEN WITH THE SEED: the statements are not yours to turn. If you find one false, say at which input.
  Laid BY PROGRAM, IN A SANDBOX (cutbox-rows.mjs): the forced cells as the released guide's own fill.sh prints them over the translation 200a86db571fcd88… (all of the seat's roots in one cut). By AI agents, Wed Nov 11 2026. No macro, syntax, notation, axiom, sorry.
-/
import Derived.Test.YtklljbcnfamikaaChecked
import GoSem.Claim
import GoSem.ClaimJoined
import GoSem.ClaimMapViews
import Derived.JoinedTies
import Derived.KernelRfl
namespace Go.Proofs.Ytklljbcnfamikaa
/- THE CELL 'sum', in the pinned program and in every row, IS THE sha256 OF THE DUMP (.gsa) THAT YtklljbcnfamikaaProg.lean LOADS. Nothing in Lean hashes anything: it is a label: what it is worth is what the hold of that sum in a sandbox is worth. -/
noncomputable def Try.pinned : Pinned := { name := "ytklljbcnfamikaa", sum := "200a86db571fcd88285bd79dcc6a3cf9fc9f2a656661c2ea627f5fa9ce1c2e79", checked := Try.checked }
namespace Rows
def none {H : Type} : Left H := { results := [], args := [] }

/-- 'vidimuslaw12.FieldsSequence': WHATEVER THE INPUT: true; the input reads as it did. -/
def fieldsSequenceSpec : ChangeSpec := { name := "fieldsSequence", fn := fun _ => fun
  | [d1, d2, d3] => { results := [.lit (.bool true)], args := [d1, d2, d3] }
  | _ => none }
def fieldsSequenceRow : OpenClaim := { program := "ytklljbcnfamikaa", sum := "200a86db571fcd88285bd79dcc6a3cf9fc9f2a656661c2ea627f5fa9ce1c2e79", func := "vidimus/vidimuslaw12.FieldsSequence", spec := "fieldsSequence", inPlace := ["internal/bytealg.Compare"], unfollowed := true, recurses := true, apart := false }
def FieldsSequenceSaid : Prop := fieldsSequenceRow.holds Try.pinned (OpenSpec.ofChange fieldsSequenceSpec)

/-- ITS FALSE NEIGHBOUR: 'it returns false'. Refute it at one input. -/
def fieldsSequenceWrong : ChangeSpec := { name := "fieldsSequence", fn := fun _ => fun
  | [d1, d2, d3] => { results := [.lit (.bool false)], args := [d1, d2, d3] }
  | _ => none }
def FieldsSequenceWrongFalsely : Prop := fieldsSequenceRow.holds Try.pinned (OpenSpec.ofChange fieldsSequenceWrong)

/-- 'vidimuslaw12.FieldsRows': WHATEVER THE INPUT: true; the input reads as it did. -/
def fieldsRowsSpec : ChangeSpec := { name := "fieldsRows", fn := fun _ => fun
  | [d1, d2] => { results := [.lit (.bool true)], args := [d1, d2] }
  | _ => none }
def fieldsRowsRow : OpenClaim := { program := "ytklljbcnfamikaa", sum := "200a86db571fcd88285bd79dcc6a3cf9fc9f2a656661c2ea627f5fa9ce1c2e79", func := "vidimus/vidimuslaw12.FieldsRows", spec := "fieldsRows", inPlace := ["internal/bytealg.Compare"], unfollowed := true, recurses := true, apart := false }
def FieldsRowsSaid : Prop := fieldsRowsRow.holds Try.pinned (OpenSpec.ofChange fieldsRowsSpec)

/-- ITS FALSE NEIGHBOUR: 'it returns false'. Refute it at one input. -/
def fieldsRowsWrong : ChangeSpec := { name := "fieldsRows", fn := fun _ => fun
  | [d1, d2] => { results := [.lit (.bool false)], args := [d1, d2] }
  | _ => none }
def FieldsRowsWrongFalsely : Prop := fieldsRowsRow.holds Try.pinned (OpenSpec.ofChange fieldsRowsWrong)

/-- 'vidimuslaw12.FieldsList': WHATEVER THE INPUT: true; the input reads as it did. -/
def fieldsListSpec : ChangeSpec := { name := "fieldsList", fn := fun _ => fun
  | [d1, d2, d3] => { results := [.lit (.bool true)], args := [d1, d2, d3] }
  | _ => none }
def fieldsListRow : OpenClaim := { program := "ytklljbcnfamikaa", sum := "200a86db571fcd88285bd79dcc6a3cf9fc9f2a656661c2ea627f5fa9ce1c2e79", func := "vidimus/vidimuslaw12.FieldsList", spec := "fieldsList", inPlace := ["internal/bytealg.Compare"], unfollowed := true, recurses := true, apart := false }
def FieldsListSaid : Prop := fieldsListRow.holds Try.pinned (OpenSpec.ofChange fieldsListSpec)

/-- ITS FALSE NEIGHBOUR: 'it returns false'. Refute it at one input. -/
def fieldsListWrong : ChangeSpec := { name := "fieldsList", fn := fun _ => fun
  | [d1, d2, d3] => { results := [.lit (.bool false)], args := [d1, d2, d3] }
  | _ => none }
def FieldsListWrongFalsely : Prop := fieldsListRow.holds Try.pinned (OpenSpec.ofChange fieldsListWrong)

/-- 'vidimuslaw12.FieldsOrdered': WHATEVER THE INPUT: true; the input reads as it did. -/
def fieldsOrderedSpec : ChangeSpec := { name := "fieldsOrdered", fn := fun _ => fun
  | [d] => { results := [.lit (.bool true)], args := [d] }
  | _ => none }
def fieldsOrderedRow : OpenClaim := { program := "ytklljbcnfamikaa", sum := "200a86db571fcd88285bd79dcc6a3cf9fc9f2a656661c2ea627f5fa9ce1c2e79", func := "vidimus/vidimuslaw12.FieldsOrdered", spec := "fieldsOrdered", inPlace := ["internal/bytealg.Compare"], unfollowed := true, recurses := true, apart := false }
def FieldsOrderedSaid : Prop := fieldsOrderedRow.holds Try.pinned (OpenSpec.ofChange fieldsOrderedSpec)

/-- ITS FALSE NEIGHBOUR: 'it returns false'. Refute it at one input. -/
def fieldsOrderedWrong : ChangeSpec := { name := "fieldsOrdered", fn := fun _ => fun
  | [d] => { results := [.lit (.bool false)], args := [d] }
  | _ => none }
def FieldsOrderedWrongFalsely : Prop := fieldsOrderedRow.holds Try.pinned (OpenSpec.ofChange fieldsOrderedWrong)

/-- 'vidimuslaw12.FieldsPlaces': WHATEVER THE INPUT: true; the input reads as it did. -/
def fieldsPlacesSpec : ChangeSpec := { name := "fieldsPlaces", fn := fun _ => fun
  | [d1, d2] => { results := [.lit (.bool true)], args := [d1, d2] }
  | _ => none }
def fieldsPlacesRow : OpenClaim := { program := "ytklljbcnfamikaa", sum := "200a86db571fcd88285bd79dcc6a3cf9fc9f2a656661c2ea627f5fa9ce1c2e79", func := "vidimus/vidimuslaw12.FieldsPlaces", spec := "fieldsPlaces", inPlace := ["internal/bytealg.Compare"], unfollowed := true, recurses := true, apart := false }
def FieldsPlacesSaid : Prop := fieldsPlacesRow.holds Try.pinned (OpenSpec.ofChange fieldsPlacesSpec)

/-- ITS FALSE NEIGHBOUR: 'it returns false'. Refute it at one input. -/
def fieldsPlacesWrong : ChangeSpec := { name := "fieldsPlaces", fn := fun _ => fun
  | [d1, d2] => { results := [.lit (.bool false)], args := [d1, d2] }
  | _ => none }
def FieldsPlacesWrongFalsely : Prop := fieldsPlacesRow.holds Try.pinned (OpenSpec.ofChange fieldsPlacesWrong)

/-- 'vidimuslaw12.FieldsUnder': WHATEVER THE INPUT: true; the input reads as it did. -/
def fieldsUnderSpec : ChangeSpec := { name := "fieldsUnder", fn := fun _ => fun
  | [d1, d2, d3] => { results := [.lit (.bool true)], args := [d1, d2, d3] }
  | _ => none }
def fieldsUnderRow : OpenClaim := { program := "ytklljbcnfamikaa", sum := "200a86db571fcd88285bd79dcc6a3cf9fc9f2a656661c2ea627f5fa9ce1c2e79", func := "vidimus/vidimuslaw12.FieldsUnder", spec := "fieldsUnder", inPlace := ["internal/bytealg.Compare"], unfollowed := true, recurses := true, apart := false }
def FieldsUnderSaid : Prop := fieldsUnderRow.holds Try.pinned (OpenSpec.ofChange fieldsUnderSpec)

/-- ITS FALSE NEIGHBOUR: 'it returns false'. Refute it at one input. -/
def fieldsUnderWrong : ChangeSpec := { name := "fieldsUnder", fn := fun _ => fun
  | [d1, d2, d3] => { results := [.lit (.bool false)], args := [d1, d2, d3] }
  | _ => none }
def FieldsUnderWrongFalsely : Prop := fieldsUnderRow.holds Try.pinned (OpenSpec.ofChange fieldsUnderWrong)

/-- 'vidimuslaw12.FieldsErrors': WHATEVER THE INPUT: true; the input reads as it did. -/
def fieldsErrorsSpec : ChangeSpec := { name := "fieldsErrors", fn := fun _ => fun
  | [d1, d2, d3] => { results := [.lit (.bool true)], args := [d1, d2, d3] }
  | _ => none }
def fieldsErrorsRow : OpenClaim := { program := "ytklljbcnfamikaa", sum := "200a86db571fcd88285bd79dcc6a3cf9fc9f2a656661c2ea627f5fa9ce1c2e79", func := "vidimus/vidimuslaw12.FieldsErrors", spec := "fieldsErrors", inPlace := ["internal/bytealg.Compare"], unfollowed := true, recurses := true, loops := true, apart := false }
def FieldsErrorsSaid : Prop := fieldsErrorsRow.holds Try.pinned (OpenSpec.ofChange fieldsErrorsSpec)

/-- ITS FALSE NEIGHBOUR: 'it returns false'. Refute it at one input. -/
def fieldsErrorsWrong : ChangeSpec := { name := "fieldsErrors", fn := fun _ => fun
  | [d1, d2, d3] => { results := [.lit (.bool false)], args := [d1, d2, d3] }
  | _ => none }
def FieldsErrorsWrongFalsely : Prop := fieldsErrorsRow.holds Try.pinned (OpenSpec.ofChange fieldsErrorsWrong)

/-- 'vidimuslaw12.FieldsKnown': WHATEVER THE INPUT: true; the input reads as it did. -/
def fieldsKnownSpec : ChangeSpec := { name := "fieldsKnown", fn := fun _ => fun
  | [] => { results := [.lit (.bool true)], args := [] }
  | _ => none }
def fieldsKnownRow : OpenClaim := { program := "ytklljbcnfamikaa", sum := "200a86db571fcd88285bd79dcc6a3cf9fc9f2a656661c2ea627f5fa9ce1c2e79", func := "vidimus/vidimuslaw12.FieldsKnown", spec := "fieldsKnown", inPlace := ["internal/bytealg.Compare"], unfollowed := true, recurses := true, apart := false }
def FieldsKnownSaid : Prop := fieldsKnownRow.holds Try.pinned (OpenSpec.ofChange fieldsKnownSpec)

/-- ITS FALSE NEIGHBOUR: 'it returns false'. Refute it at one input. -/
def fieldsKnownWrong : ChangeSpec := { name := "fieldsKnown", fn := fun _ => fun
  | [] => { results := [.lit (.bool false)], args := [] }
  | _ => none }
def FieldsKnownWrongFalsely : Prop := fieldsKnownRow.holds Try.pinned (OpenSpec.ofChange fieldsKnownWrong)

/- THE SECOND FORM. 'bulk': how many values and letters a reading holds, each counted each time it is reached (what is shared counts as often as it is met; a slice's spare places count too). A statement '..UptoSaid' is the law's where the arguments, and the package variables that the reading takes, are together of bulk at most 1048576: NARROWER than '..Said'. Prove '..Said' where nothing that the law and all that it calls make is longer than what came in: it says more and counts as full. Else prove '..UptoSaid'. A law counts once. -/
mutual
def uptoBulk {H : Type} : DataW H → Nat
  | .lit (.string bytes) => bytes.length + 1
  | .lit _ => 1
  | .nil => 1
  | .ptr d => uptoBulk d + 1
  | .slice elems spare => uptoBulkAll elems + uptoBulkAll spare + 1
  | .agg parts => uptoBulkAll parts + 1
  | .iface _ d => uptoBulk d + 1
  | .map entries => uptoBulkEntries entries + 1
  | .held _ => 1
def uptoBulkAll {H : Type} : List (DataW H) → Nat
  | [] => 0
  | d :: r => uptoBulk d + uptoBulkAll r
def uptoBulkEntries {H : Type} : List (Lit × DataW H) → Nat
  | [] => 0
  | x :: r => uptoBulkEntry x + uptoBulkEntries r
def uptoBulkEntry {H : Type} : Lit × DataW H → Nat
  | (.string bytes, d) => bytes.length + uptoBulk d + 1
  | (_, d) => uptoBulk d + 1
 end
def uptoSmall : (H : Type) → List (DataW H) → Bool := fun _ ds => decide (uptoBulkAll ds ≤ 1048576)
def OpenSpec.upto (s : _root_.Go.ChangeSpec) : _root_.Go.OpenSpec := { _root_.Go.OpenSpec.ofChange s with cond := some uptoSmall }

/-- 'vidimuslaw12.FieldsSequence', WHERE WHAT IT READS IS OF BULK AT MOST 1048576: true; the input reads as it did. -/
def fieldsSequenceUptoRow : OpenClaim := { program := "ytklljbcnfamikaa", sum := "200a86db571fcd88285bd79dcc6a3cf9fc9f2a656661c2ea627f5fa9ce1c2e79", func := "vidimus/vidimuslaw12.FieldsSequence", spec := "fieldsSequence", inPlace := ["internal/bytealg.Compare"], unfollowed := true, recurses := true, apart := false, narrowed := true }
def FieldsSequenceUptoSaid : Prop := fieldsSequenceUptoRow.holds Try.pinned (OpenSpec.upto fieldsSequenceSpec)

/-- 'vidimuslaw12.FieldsRows', WHERE WHAT IT READS IS OF BULK AT MOST 1048576: true; the input reads as it did. -/
def fieldsRowsUptoRow : OpenClaim := { program := "ytklljbcnfamikaa", sum := "200a86db571fcd88285bd79dcc6a3cf9fc9f2a656661c2ea627f5fa9ce1c2e79", func := "vidimus/vidimuslaw12.FieldsRows", spec := "fieldsRows", inPlace := ["internal/bytealg.Compare"], unfollowed := true, recurses := true, apart := false, narrowed := true }
def FieldsRowsUptoSaid : Prop := fieldsRowsUptoRow.holds Try.pinned (OpenSpec.upto fieldsRowsSpec)

/-- 'vidimuslaw12.FieldsList', WHERE WHAT IT READS IS OF BULK AT MOST 1048576: true; the input reads as it did. -/
def fieldsListUptoRow : OpenClaim := { program := "ytklljbcnfamikaa", sum := "200a86db571fcd88285bd79dcc6a3cf9fc9f2a656661c2ea627f5fa9ce1c2e79", func := "vidimus/vidimuslaw12.FieldsList", spec := "fieldsList", inPlace := ["internal/bytealg.Compare"], unfollowed := true, recurses := true, apart := false, narrowed := true }
def FieldsListUptoSaid : Prop := fieldsListUptoRow.holds Try.pinned (OpenSpec.upto fieldsListSpec)

/-- 'vidimuslaw12.FieldsOrdered', WHERE WHAT IT READS IS OF BULK AT MOST 1048576: true; the input reads as it did. -/
def fieldsOrderedUptoRow : OpenClaim := { program := "ytklljbcnfamikaa", sum := "200a86db571fcd88285bd79dcc6a3cf9fc9f2a656661c2ea627f5fa9ce1c2e79", func := "vidimus/vidimuslaw12.FieldsOrdered", spec := "fieldsOrdered", inPlace := ["internal/bytealg.Compare"], unfollowed := true, recurses := true, apart := false, narrowed := true }
def FieldsOrderedUptoSaid : Prop := fieldsOrderedUptoRow.holds Try.pinned (OpenSpec.upto fieldsOrderedSpec)

/-- 'vidimuslaw12.FieldsPlaces', WHERE WHAT IT READS IS OF BULK AT MOST 1048576: true; the input reads as it did. -/
def fieldsPlacesUptoRow : OpenClaim := { program := "ytklljbcnfamikaa", sum := "200a86db571fcd88285bd79dcc6a3cf9fc9f2a656661c2ea627f5fa9ce1c2e79", func := "vidimus/vidimuslaw12.FieldsPlaces", spec := "fieldsPlaces", inPlace := ["internal/bytealg.Compare"], unfollowed := true, recurses := true, apart := false, narrowed := true }
def FieldsPlacesUptoSaid : Prop := fieldsPlacesUptoRow.holds Try.pinned (OpenSpec.upto fieldsPlacesSpec)

/-- 'vidimuslaw12.FieldsUnder', WHERE WHAT IT READS IS OF BULK AT MOST 1048576: true; the input reads as it did. -/
def fieldsUnderUptoRow : OpenClaim := { program := "ytklljbcnfamikaa", sum := "200a86db571fcd88285bd79dcc6a3cf9fc9f2a656661c2ea627f5fa9ce1c2e79", func := "vidimus/vidimuslaw12.FieldsUnder", spec := "fieldsUnder", inPlace := ["internal/bytealg.Compare"], unfollowed := true, recurses := true, apart := false, narrowed := true }
def FieldsUnderUptoSaid : Prop := fieldsUnderUptoRow.holds Try.pinned (OpenSpec.upto fieldsUnderSpec)

/-- 'vidimuslaw12.FieldsErrors', WHERE WHAT IT READS IS OF BULK AT MOST 1048576: true; the input reads as it did. -/
def fieldsErrorsUptoRow : OpenClaim := { program := "ytklljbcnfamikaa", sum := "200a86db571fcd88285bd79dcc6a3cf9fc9f2a656661c2ea627f5fa9ce1c2e79", func := "vidimus/vidimuslaw12.FieldsErrors", spec := "fieldsErrors", inPlace := ["internal/bytealg.Compare"], unfollowed := true, recurses := true, loops := true, apart := false, narrowed := true }
def FieldsErrorsUptoSaid : Prop := fieldsErrorsUptoRow.holds Try.pinned (OpenSpec.upto fieldsErrorsSpec)

/-- 'vidimuslaw12.FieldsKnown', WHERE WHAT IT READS IS OF BULK AT MOST 1048576: true; the input reads as it did. -/
def fieldsKnownUptoRow : OpenClaim := { program := "ytklljbcnfamikaa", sum := "200a86db571fcd88285bd79dcc6a3cf9fc9f2a656661c2ea627f5fa9ce1c2e79", func := "vidimus/vidimuslaw12.FieldsKnown", spec := "fieldsKnown", inPlace := ["internal/bytealg.Compare"], unfollowed := true, recurses := true, apart := false, narrowed := true }
def FieldsKnownUptoSaid : Prop := fieldsKnownUptoRow.holds Try.pinned (OpenSpec.upto fieldsKnownSpec)

end Rows
end Go.Proofs.Ytklljbcnfamikaa
