/-
  NARROWER THAN 'FOR EVERY INPUT', by the rows' own cells (each row's printed sentence says how): ScalarsErrors: loops.
  DERIVED. THE GIVEN ROWS OF THIS SEAT. 5 by the template 'for every input the law returns true; each argument reads behind the call as it read before'; 0 by the template 'total and deterministic' (their statements: YtdmbkbgnlmiilaaTotals.lean).
  GIVEN WITH THE SEED: the statements are not yours to turn. If you find one false, say at which input.
  Laid BY PROGRAM, IN A SANDBOX (cutbox-rows.mjs): the forced cells as the released guide's own fill.sh prints them over the translation 6cfeead2a7bd4ce6… (all of the seat's roots in one cut). By AI agents, Wed Nov 11 2026. No macro, syntax, notation, axiom, sorry.
-/
import Derived.Test.YtdmbkbgnlmiilaaChecked
import GoSem.Claim
import GoSem.ClaimJoined
import GoSem.ClaimMapViews
import Derived.JoinedTies
import Derived.KernelRfl
namespace Go.Proofs.Ytdmbkbgnlmiilaa
/- THE CELL 'sum', in the pinned program and in every row, IS THE sha256 OF THE DUMP (.gsa) THAT YtdmbkbgnlmiilaaProg.lean LOADS. Nothing in Lean hashes anything: it is a label: what it is worth is what the hold of that sum in a sandbox is worth. -/
noncomputable def Try.pinned : Pinned := { name := "ytdmbkbgnlmiilaa", sum := "6cfeead2a7bd4ce6d3aa843299377ca7750d7c65c2fa5e3cee0d75e829f5d184", checked := Try.checked }
namespace Rows
def none {H : Type} : Left H := { results := [], args := [] }

/-- 'vidimuslaw05.ScalarsInts': WHATEVER THE INPUT: true; the input reads as it did. -/
def scalarsIntsSpec : ChangeSpec := { name := "scalarsInts", fn := fun _ => fun
  | [d] => { results := [.lit (.bool true)], args := [d] }
  | _ => none }
def scalarsIntsRow : OpenClaim := { program := "ytdmbkbgnlmiilaa", sum := "6cfeead2a7bd4ce6d3aa843299377ca7750d7c65c2fa5e3cee0d75e829f5d184", func := "vidimus/vidimuslaw05.ScalarsInts", spec := "scalarsInts", unfollowed := true, recurses := true, apart := false }
def ScalarsIntsSaid : Prop := scalarsIntsRow.holds Try.pinned (OpenSpec.ofChange scalarsIntsSpec)

/-- ITS FALSE NEIGHBOUR: 'it returns false'. Refute it at one input. -/
def scalarsIntsWrong : ChangeSpec := { name := "scalarsInts", fn := fun _ => fun
  | [d] => { results := [.lit (.bool false)], args := [d] }
  | _ => none }
def ScalarsIntsWrongFalsely : Prop := scalarsIntsRow.holds Try.pinned (OpenSpec.ofChange scalarsIntsWrong)

/-- 'vidimuslaw05.ScalarsGet': WHATEVER THE INPUT: true; the input reads as it did. -/
def scalarsGetSpec : ChangeSpec := { name := "scalarsGet", fn := fun _ => fun
  | [d] => { results := [.lit (.bool true)], args := [d] }
  | _ => none }
def scalarsGetRow : OpenClaim := { program := "ytdmbkbgnlmiilaa", sum := "6cfeead2a7bd4ce6d3aa843299377ca7750d7c65c2fa5e3cee0d75e829f5d184", func := "vidimus/vidimuslaw05.ScalarsGet", spec := "scalarsGet", unfollowed := true, recurses := true, apart := false }
def ScalarsGetSaid : Prop := scalarsGetRow.holds Try.pinned (OpenSpec.ofChange scalarsGetSpec)

/-- ITS FALSE NEIGHBOUR: 'it returns false'. Refute it at one input. -/
def scalarsGetWrong : ChangeSpec := { name := "scalarsGet", fn := fun _ => fun
  | [d] => { results := [.lit (.bool false)], args := [d] }
  | _ => none }
def ScalarsGetWrongFalsely : Prop := scalarsGetRow.holds Try.pinned (OpenSpec.ofChange scalarsGetWrong)

/-- 'vidimuslaw05.ScalarsNats': WHATEVER THE INPUT: true; the input reads as it did. -/
def scalarsNatsSpec : ChangeSpec := { name := "scalarsNats", fn := fun _ => fun
  | [d] => { results := [.lit (.bool true)], args := [d] }
  | _ => none }
def scalarsNatsRow : OpenClaim := { program := "ytdmbkbgnlmiilaa", sum := "6cfeead2a7bd4ce6d3aa843299377ca7750d7c65c2fa5e3cee0d75e829f5d184", func := "vidimus/vidimuslaw05.ScalarsNats", spec := "scalarsNats", unfollowed := true, recurses := true, apart := false }
def ScalarsNatsSaid : Prop := scalarsNatsRow.holds Try.pinned (OpenSpec.ofChange scalarsNatsSpec)

/-- ITS FALSE NEIGHBOUR: 'it returns false'. Refute it at one input. -/
def scalarsNatsWrong : ChangeSpec := { name := "scalarsNats", fn := fun _ => fun
  | [d] => { results := [.lit (.bool false)], args := [d] }
  | _ => none }
def ScalarsNatsWrongFalsely : Prop := scalarsNatsRow.holds Try.pinned (OpenSpec.ofChange scalarsNatsWrong)

/-- 'vidimuslaw05.ScalarsErrors': WHATEVER THE INPUT: true; the input reads as it did. -/
def scalarsErrorsSpec : ChangeSpec := { name := "scalarsErrors", fn := fun _ => fun
  | [d1, d2] => { results := [.lit (.bool true)], args := [d1, d2] }
  | _ => none }
def scalarsErrorsRow : OpenClaim := { program := "ytdmbkbgnlmiilaa", sum := "6cfeead2a7bd4ce6d3aa843299377ca7750d7c65c2fa5e3cee0d75e829f5d184", func := "vidimus/vidimuslaw05.ScalarsErrors", spec := "scalarsErrors", unfollowed := true, recurses := true, loops := true, apart := false }
def ScalarsErrorsSaid : Prop := scalarsErrorsRow.holds Try.pinned (OpenSpec.ofChange scalarsErrorsSpec)

/-- ITS FALSE NEIGHBOUR: 'it returns false'. Refute it at one input. -/
def scalarsErrorsWrong : ChangeSpec := { name := "scalarsErrors", fn := fun _ => fun
  | [d1, d2] => { results := [.lit (.bool false)], args := [d1, d2] }
  | _ => none }
def ScalarsErrorsWrongFalsely : Prop := scalarsErrorsRow.holds Try.pinned (OpenSpec.ofChange scalarsErrorsWrong)

/-- 'vidimuslaw05.ScalarsKnown': WHATEVER THE INPUT: true; the input reads as it did. -/
def scalarsKnownSpec : ChangeSpec := { name := "scalarsKnown", fn := fun _ => fun
  | [] => { results := [.lit (.bool true)], args := [] }
  | _ => none }
def scalarsKnownRow : OpenClaim := { program := "ytdmbkbgnlmiilaa", sum := "6cfeead2a7bd4ce6d3aa843299377ca7750d7c65c2fa5e3cee0d75e829f5d184", func := "vidimus/vidimuslaw05.ScalarsKnown", spec := "scalarsKnown", unfollowed := true, recurses := true, apart := false }
def ScalarsKnownSaid : Prop := scalarsKnownRow.holds Try.pinned (OpenSpec.ofChange scalarsKnownSpec)

/-- ITS FALSE NEIGHBOUR: 'it returns false'. Refute it at one input. -/
def scalarsKnownWrong : ChangeSpec := { name := "scalarsKnown", fn := fun _ => fun
  | [] => { results := [.lit (.bool false)], args := [] }
  | _ => none }
def ScalarsKnownWrongFalsely : Prop := scalarsKnownRow.holds Try.pinned (OpenSpec.ofChange scalarsKnownWrong)

/- THE SECOND FORM. 'bulk': how many values and letters a reading holds, each counted each time it is reached (what is shared counts as often as it is met; a slice's spare places count too). A statement '..UptoSaid' is the law's where the arguments, and the package variables that the reading takes, are together of bulk at most 1048576: NARROWER than '..Said'. Prove '..Said' where nothing that the law and all that it calls make is longer than what came in: it says more and counts as full. Else prove '..UptoSaid'. A law counts once. -/
mutual
def uptoBulk {H : Type} : DataW H → Nat
  | .lit (.string bytes) => bytes.length + 1
  | .lit _ => 1
  | .nil => 1
  | .ptr d => uptoBulk d + 1
  | .slice elems spare => uptoBulkAll elems + uptoBulkAll spare + 1
  | .agg parts => uptoBulkAll parts + 1
  | .iface _ d => uptoBulk d + 1
  | .map entries => uptoBulkEntries entries + 1
  | .held _ => 1
def uptoBulkAll {H : Type} : List (DataW H) → Nat
  | [] => 0
  | d :: r => uptoBulk d + uptoBulkAll r
def uptoBulkEntries {H : Type} : List (Lit × DataW H) → Nat
  | [] => 0
  | x :: r => uptoBulkEntry x + uptoBulkEntries r
def uptoBulkEntry {H : Type} : Lit × DataW H → Nat
  | (.string bytes, d) => bytes.length + uptoBulk d + 1
  | (_, d) => uptoBulk d + 1
 end
def uptoSmall : (H : Type) → List (DataW H) → Bool := fun _ ds => decide (uptoBulkAll ds ≤ 1048576)
def OpenSpec.upto (s : _root_.Go.ChangeSpec) : _root_.Go.OpenSpec := { _root_.Go.OpenSpec.ofChange s with cond := some uptoSmall }

/-- 'vidimuslaw05.ScalarsInts', WHERE WHAT IT READS IS OF BULK AT MOST 1048576: true; the input reads as it did. -/
def scalarsIntsUptoRow : OpenClaim := { program := "ytdmbkbgnlmiilaa", sum := "6cfeead2a7bd4ce6d3aa843299377ca7750d7c65c2fa5e3cee0d75e829f5d184", func := "vidimus/vidimuslaw05.ScalarsInts", spec := "scalarsInts", unfollowed := true, recurses := true, apart := false, narrowed := true }
def ScalarsIntsUptoSaid : Prop := scalarsIntsUptoRow.holds Try.pinned (OpenSpec.upto scalarsIntsSpec)

/-- 'vidimuslaw05.ScalarsGet', WHERE WHAT IT READS IS OF BULK AT MOST 1048576: true; the input reads as it did. -/
def scalarsGetUptoRow : OpenClaim := { program := "ytdmbkbgnlmiilaa", sum := "6cfeead2a7bd4ce6d3aa843299377ca7750d7c65c2fa5e3cee0d75e829f5d184", func := "vidimus/vidimuslaw05.ScalarsGet", spec := "scalarsGet", unfollowed := true, recurses := true, apart := false, narrowed := true }
def ScalarsGetUptoSaid : Prop := scalarsGetUptoRow.holds Try.pinned (OpenSpec.upto scalarsGetSpec)

/-- 'vidimuslaw05.ScalarsNats', WHERE WHAT IT READS IS OF BULK AT MOST 1048576: true; the input reads as it did. -/
def scalarsNatsUptoRow : OpenClaim := { program := "ytdmbkbgnlmiilaa", sum := "6cfeead2a7bd4ce6d3aa843299377ca7750d7c65c2fa5e3cee0d75e829f5d184", func := "vidimus/vidimuslaw05.ScalarsNats", spec := "scalarsNats", unfollowed := true, recurses := true, apart := false, narrowed := true }
def ScalarsNatsUptoSaid : Prop := scalarsNatsUptoRow.holds Try.pinned (OpenSpec.upto scalarsNatsSpec)

/-- 'vidimuslaw05.ScalarsErrors', WHERE WHAT IT READS IS OF BULK AT MOST 1048576: true; the input reads as it did. -/
def scalarsErrorsUptoRow : OpenClaim := { program := "ytdmbkbgnlmiilaa", sum := "6cfeead2a7bd4ce6d3aa843299377ca7750d7c65c2fa5e3cee0d75e829f5d184", func := "vidimus/vidimuslaw05.ScalarsErrors", spec := "scalarsErrors", unfollowed := true, recurses := true, loops := true, apart := false, narrowed := true }
def ScalarsErrorsUptoSaid : Prop := scalarsErrorsUptoRow.holds Try.pinned (OpenSpec.upto scalarsErrorsSpec)

/-- 'vidimuslaw05.ScalarsKnown', WHERE WHAT IT READS IS OF BULK AT MOST 1048576: true; the input reads as it did. -/
def scalarsKnownUptoRow : OpenClaim := { program := "ytdmbkbgnlmiilaa", sum := "6cfeead2a7bd4ce6d3aa843299377ca7750d7c65c2fa5e3cee0d75e829f5d184", func := "vidimus/vidimuslaw05.ScalarsKnown", spec := "scalarsKnown", unfollowed := true, recurses := true, apart := false, narrowed := true }
def ScalarsKnownUptoSaid : Prop := scalarsKnownUptoRow.holds Try.pinned (OpenSpec.upto scalarsKnownSpec)

end Rows
end Go.Proofs.Ytdmbkbgnlmiilaa
