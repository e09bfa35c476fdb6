/-
  No cell of these rows narrows 'for every input' (looked for: loops, veiled, ifaces, maps, wideKeys, modest, calm, conditions, laid).
  DERIVED. THE GIVEN ROWS OF THIS SEAT. 10 by the template 'for every input the law returns true; each argument reads behind the call as it read before'; 0 by the template 'total and deterministic' (their statements: YtenbknmpkdidoaaTotals.lean).
  GIVEN WITH THE SEED: the statements are not yours to turn. If you find one false, say at which input.
  Laid BY PROGRAM, IN A SANDBOX (cutbox-rows.mjs): the forced cells as the released guide's own fill.sh prints them over the translation a99005efc72cdbfd… (all of the seat's roots in one cut). By AI agents, Wed Nov 11 2026. No macro, syntax, notation, axiom, sorry.
-/
import Derived.Test.YtenbknmpkdidoaaChecked
import GoSem.Claim
import GoSem.ClaimJoined
import GoSem.ClaimMapViews
import Derived.JoinedTies
import Derived.KernelRfl
namespace Go.Proofs.Ytenbknmpkdidoaa
/- THE CELL 'sum', in the pinned program and in every row, IS THE sha256 OF THE DUMP (.gsa) THAT YtenbknmpkdidoaaProg.lean LOADS. Nothing in Lean hashes anything: it is a label: what it is worth is what the hold of that sum in a sandbox is worth. -/
noncomputable def Try.pinned : Pinned := { name := "ytenbknmpkdidoaa", sum := "a99005efc72cdbfdbcedbdaca7b1d19153ca1dfb891a7b42b56ef0456dedc9f6", checked := Try.checked }
namespace Rows
def none {H : Type} : Left H := { results := [], args := [] }

/-- 'vidimuslaw01.NatsCheck': WHATEVER THE INPUT: true; the input reads as it did. -/
def natsCheckSpec : ChangeSpec := { name := "natsCheck", fn := fun _ => fun
  | [d1, d2, d3] => { results := [.lit (.bool true)], args := [d1, d2, d3] }
  | _ => none }
def natsCheckRow : OpenClaim := { program := "ytenbknmpkdidoaa", sum := "a99005efc72cdbfdbcedbdaca7b1d19153ca1dfb891a7b42b56ef0456dedc9f6", func := "vidimus/vidimuslaw01.NatsCheck", spec := "natsCheck", inPlace := ["internal/bytealg.Compare"], unfollowed := true, recurses := true, apart := false }
def NatsCheckSaid : Prop := natsCheckRow.holds Try.pinned (OpenSpec.ofChange natsCheckSpec)

/-- ITS FALSE NEIGHBOUR: 'it returns false'. Refute it at one input. -/
def natsCheckWrong : ChangeSpec := { name := "natsCheck", fn := fun _ => fun
  | [d1, d2, d3] => { results := [.lit (.bool false)], args := [d1, d2, d3] }
  | _ => none }
def NatsCheckWrongFalsely : Prop := natsCheckRow.holds Try.pinned (OpenSpec.ofChange natsCheckWrong)

/-- 'vidimuslaw01.NatsSum': WHATEVER THE INPUT: true; the input reads as it did. -/
def natsSumSpec : ChangeSpec := { name := "natsSum", fn := fun _ => fun
  | [d1, d2] => { results := [.lit (.bool true)], args := [d1, d2] }
  | _ => none }
def natsSumRow : OpenClaim := { program := "ytenbknmpkdidoaa", sum := "a99005efc72cdbfdbcedbdaca7b1d19153ca1dfb891a7b42b56ef0456dedc9f6", func := "vidimus/vidimuslaw01.NatsSum", spec := "natsSum", inPlace := ["internal/bytealg.Compare"], unfollowed := true, recurses := true, apart := false }
def NatsSumSaid : Prop := natsSumRow.holds Try.pinned (OpenSpec.ofChange natsSumSpec)

/-- ITS FALSE NEIGHBOUR: 'it returns false'. Refute it at one input. -/
def natsSumWrong : ChangeSpec := { name := "natsSum", fn := fun _ => fun
  | [d1, d2] => { results := [.lit (.bool false)], args := [d1, d2] }
  | _ => none }
def NatsSumWrongFalsely : Prop := natsSumRow.holds Try.pinned (OpenSpec.ofChange natsSumWrong)

/-- 'vidimuslaw01.NatsProduct': WHATEVER THE INPUT: true; the input reads as it did. -/
def natsProductSpec : ChangeSpec := { name := "natsProduct", fn := fun _ => fun
  | [d1, d2] => { results := [.lit (.bool true)], args := [d1, d2] }
  | _ => none }
def natsProductRow : OpenClaim := { program := "ytenbknmpkdidoaa", sum := "a99005efc72cdbfdbcedbdaca7b1d19153ca1dfb891a7b42b56ef0456dedc9f6", func := "vidimus/vidimuslaw01.NatsProduct", spec := "natsProduct", inPlace := ["internal/bytealg.Compare"], unfollowed := true, recurses := true, apart := false }
def NatsProductSaid : Prop := natsProductRow.holds Try.pinned (OpenSpec.ofChange natsProductSpec)

/-- ITS FALSE NEIGHBOUR: 'it returns false'. Refute it at one input. -/
def natsProductWrong : ChangeSpec := { name := "natsProduct", fn := fun _ => fun
  | [d1, d2] => { results := [.lit (.bool false)], args := [d1, d2] }
  | _ => none }
def NatsProductWrongFalsely : Prop := natsProductRow.holds Try.pinned (OpenSpec.ofChange natsProductWrong)

/-- 'vidimuslaw01.NatsField': WHATEVER THE INPUT: true; the input reads as it did. -/
def natsFieldSpec : ChangeSpec := { name := "natsField", fn := fun _ => fun
  | [d1, d2, d3] => { results := [.lit (.bool true)], args := [d1, d2, d3] }
  | _ => none }
def natsFieldRow : OpenClaim := { program := "ytenbknmpkdidoaa", sum := "a99005efc72cdbfdbcedbdaca7b1d19153ca1dfb891a7b42b56ef0456dedc9f6", func := "vidimus/vidimuslaw01.NatsField", spec := "natsField", inPlace := ["internal/bytealg.Compare"], unfollowed := true, recurses := true, apart := false }
def NatsFieldSaid : Prop := natsFieldRow.holds Try.pinned (OpenSpec.ofChange natsFieldSpec)

/-- ITS FALSE NEIGHBOUR: 'it returns false'. Refute it at one input. -/
def natsFieldWrong : ChangeSpec := { name := "natsField", fn := fun _ => fun
  | [d1, d2, d3] => { results := [.lit (.bool false)], args := [d1, d2, d3] }
  | _ => none }
def NatsFieldWrongFalsely : Prop := natsFieldRow.holds Try.pinned (OpenSpec.ofChange natsFieldWrong)

/-- 'vidimuslaw01.NatsDivide': WHATEVER THE INPUT: true; the input reads as it did. -/
def natsDivideSpec : ChangeSpec := { name := "natsDivide", fn := fun _ => fun
  | [d1, d2] => { results := [.lit (.bool true)], args := [d1, d2] }
  | _ => none }
def natsDivideRow : OpenClaim := { program := "ytenbknmpkdidoaa", sum := "a99005efc72cdbfdbcedbdaca7b1d19153ca1dfb891a7b42b56ef0456dedc9f6", func := "vidimus/vidimuslaw01.NatsDivide", spec := "natsDivide", inPlace := ["internal/bytealg.Compare"], unfollowed := true, recurses := true, apart := false }
def NatsDivideSaid : Prop := natsDivideRow.holds Try.pinned (OpenSpec.ofChange natsDivideSpec)

/-- ITS FALSE NEIGHBOUR: 'it returns false'. Refute it at one input. -/
def natsDivideWrong : ChangeSpec := { name := "natsDivide", fn := fun _ => fun
  | [d1, d2] => { results := [.lit (.bool false)], args := [d1, d2] }
  | _ => none }
def NatsDivideWrongFalsely : Prop := natsDivideRow.holds Try.pinned (OpenSpec.ofChange natsDivideWrong)

/-- 'vidimuslaw01.NatsPower': WHATEVER THE INPUT: true; the input reads as it did. -/
def natsPowerSpec : ChangeSpec := { name := "natsPower", fn := fun _ => fun
  | [d1, d2] => { results := [.lit (.bool true)], args := [d1, d2] }
  | _ => none }
def natsPowerRow : OpenClaim := { program := "ytenbknmpkdidoaa", sum := "a99005efc72cdbfdbcedbdaca7b1d19153ca1dfb891a7b42b56ef0456dedc9f6", func := "vidimus/vidimuslaw01.NatsPower", spec := "natsPower", inPlace := ["internal/bytealg.Compare"], unfollowed := true, recurses := true, apart := false }
def NatsPowerSaid : Prop := natsPowerRow.holds Try.pinned (OpenSpec.ofChange natsPowerSpec)

/-- ITS FALSE NEIGHBOUR: 'it returns false'. Refute it at one input. -/
def natsPowerWrong : ChangeSpec := { name := "natsPower", fn := fun _ => fun
  | [d1, d2] => { results := [.lit (.bool false)], args := [d1, d2] }
  | _ => none }
def NatsPowerWrongFalsely : Prop := natsPowerRow.holds Try.pinned (OpenSpec.ofChange natsPowerWrong)

/-- 'vidimuslaw01.NatsOrder': WHATEVER THE INPUT: true; the input reads as it did. -/
def natsOrderSpec : ChangeSpec := { name := "natsOrder", fn := fun _ => fun
  | [d1, d2] => { results := [.lit (.bool true)], args := [d1, d2] }
  | _ => none }
def natsOrderRow : OpenClaim := { program := "ytenbknmpkdidoaa", sum := "a99005efc72cdbfdbcedbdaca7b1d19153ca1dfb891a7b42b56ef0456dedc9f6", func := "vidimus/vidimuslaw01.NatsOrder", spec := "natsOrder", inPlace := ["internal/bytealg.Compare"], unfollowed := true, recurses := true, apart := false }
def NatsOrderSaid : Prop := natsOrderRow.holds Try.pinned (OpenSpec.ofChange natsOrderSpec)

/-- ITS FALSE NEIGHBOUR: 'it returns false'. Refute it at one input. -/
def natsOrderWrong : ChangeSpec := { name := "natsOrder", fn := fun _ => fun
  | [d1, d2] => { results := [.lit (.bool false)], args := [d1, d2] }
  | _ => none }
def NatsOrderWrongFalsely : Prop := natsOrderRow.holds Try.pinned (OpenSpec.ofChange natsOrderWrong)

/-- 'vidimuslaw01.NatsText': WHATEVER THE INPUT: true; the input reads as it did. -/
def natsTextSpec : ChangeSpec := { name := "natsText", fn := fun _ => fun
  | [d1, d2] => { results := [.lit (.bool true)], args := [d1, d2] }
  | _ => none }
def natsTextRow : OpenClaim := { program := "ytenbknmpkdidoaa", sum := "a99005efc72cdbfdbcedbdaca7b1d19153ca1dfb891a7b42b56ef0456dedc9f6", func := "vidimus/vidimuslaw01.NatsText", spec := "natsText", inPlace := ["internal/bytealg.Compare"], unfollowed := true, recurses := true, apart := false }
def NatsTextSaid : Prop := natsTextRow.holds Try.pinned (OpenSpec.ofChange natsTextSpec)

/-- ITS FALSE NEIGHBOUR: 'it returns false'. Refute it at one input. -/
def natsTextWrong : ChangeSpec := { name := "natsText", fn := fun _ => fun
  | [d1, d2] => { results := [.lit (.bool false)], args := [d1, d2] }
  | _ => none }
def NatsTextWrongFalsely : Prop := natsTextRow.holds Try.pinned (OpenSpec.ofChange natsTextWrong)

/-- 'vidimuslaw01.NatsSmall': WHATEVER THE INPUT: true; the input reads as it did. -/
def natsSmallSpec : ChangeSpec := { name := "natsSmall", fn := fun _ => fun
  | [d1, d2] => { results := [.lit (.bool true)], args := [d1, d2] }
  | _ => none }
def natsSmallRow : OpenClaim := { program := "ytenbknmpkdidoaa", sum := "a99005efc72cdbfdbcedbdaca7b1d19153ca1dfb891a7b42b56ef0456dedc9f6", func := "vidimus/vidimuslaw01.NatsSmall", spec := "natsSmall", inPlace := ["internal/bytealg.Compare"], unfollowed := true, recurses := true, apart := false }
def NatsSmallSaid : Prop := natsSmallRow.holds Try.pinned (OpenSpec.ofChange natsSmallSpec)

/-- ITS FALSE NEIGHBOUR: 'it returns false'. Refute it at one input. -/
def natsSmallWrong : ChangeSpec := { name := "natsSmall", fn := fun _ => fun
  | [d1, d2] => { results := [.lit (.bool false)], args := [d1, d2] }
  | _ => none }
def NatsSmallWrongFalsely : Prop := natsSmallRow.holds Try.pinned (OpenSpec.ofChange natsSmallWrong)

/-- 'vidimuslaw01.NatsKnown': WHATEVER THE INPUT: true; the input reads as it did. -/
def natsKnownSpec : ChangeSpec := { name := "natsKnown", fn := fun _ => fun
  | [] => { results := [.lit (.bool true)], args := [] }
  | _ => none }
def natsKnownRow : OpenClaim := { program := "ytenbknmpkdidoaa", sum := "a99005efc72cdbfdbcedbdaca7b1d19153ca1dfb891a7b42b56ef0456dedc9f6", func := "vidimus/vidimuslaw01.NatsKnown", spec := "natsKnown", inPlace := ["internal/bytealg.Compare"], unfollowed := true, recurses := true, apart := false }
def NatsKnownSaid : Prop := natsKnownRow.holds Try.pinned (OpenSpec.ofChange natsKnownSpec)

/-- ITS FALSE NEIGHBOUR: 'it returns false'. Refute it at one input. -/
def natsKnownWrong : ChangeSpec := { name := "natsKnown", fn := fun _ => fun
  | [] => { results := [.lit (.bool false)], args := [] }
  | _ => none }
def NatsKnownWrongFalsely : Prop := natsKnownRow.holds Try.pinned (OpenSpec.ofChange natsKnownWrong)

/- THE SECOND FORM. 'bulk': how many values and letters a reading holds, each counted each time it is reached (what is shared counts as often as it is met; a slice's spare places count too). A statement '..UptoSaid' is the law's where the arguments, and the package variables that the reading takes, are together of bulk at most 1048576: NARROWER than '..Said'. Prove '..Said' where nothing that the law and all that it calls make is longer than what came in: it says more and counts as full. Else prove '..UptoSaid'. A law counts once. -/
mutual
def uptoBulk {H : Type} : DataW H → Nat
  | .lit (.string bytes) => bytes.length + 1
  | .lit _ => 1
  | .nil => 1
  | .ptr d => uptoBulk d + 1
  | .slice elems spare => uptoBulkAll elems + uptoBulkAll spare + 1
  | .agg parts => uptoBulkAll parts + 1
  | .iface _ d => uptoBulk d + 1
  | .map entries => uptoBulkEntries entries + 1
  | .held _ => 1
def uptoBulkAll {H : Type} : List (DataW H) → Nat
  | [] => 0
  | d :: r => uptoBulk d + uptoBulkAll r
def uptoBulkEntries {H : Type} : List (Lit × DataW H) → Nat
  | [] => 0
  | x :: r => uptoBulkEntry x + uptoBulkEntries r
def uptoBulkEntry {H : Type} : Lit × DataW H → Nat
  | (.string bytes, d) => bytes.length + uptoBulk d + 1
  | (_, d) => uptoBulk d + 1
 end
def uptoSmall : (H : Type) → List (DataW H) → Bool := fun _ ds => decide (uptoBulkAll ds ≤ 1048576)
def OpenSpec.upto (s : _root_.Go.ChangeSpec) : _root_.Go.OpenSpec := { _root_.Go.OpenSpec.ofChange s with cond := some uptoSmall }

/-- 'vidimuslaw01.NatsCheck', WHERE WHAT IT READS IS OF BULK AT MOST 1048576: true; the input reads as it did. -/
def natsCheckUptoRow : OpenClaim := { program := "ytenbknmpkdidoaa", sum := "a99005efc72cdbfdbcedbdaca7b1d19153ca1dfb891a7b42b56ef0456dedc9f6", func := "vidimus/vidimuslaw01.NatsCheck", spec := "natsCheck", inPlace := ["internal/bytealg.Compare"], unfollowed := true, recurses := true, apart := false, narrowed := true }
def NatsCheckUptoSaid : Prop := natsCheckUptoRow.holds Try.pinned (OpenSpec.upto natsCheckSpec)

/-- 'vidimuslaw01.NatsSum', WHERE WHAT IT READS IS OF BULK AT MOST 1048576: true; the input reads as it did. -/
def natsSumUptoRow : OpenClaim := { program := "ytenbknmpkdidoaa", sum := "a99005efc72cdbfdbcedbdaca7b1d19153ca1dfb891a7b42b56ef0456dedc9f6", func := "vidimus/vidimuslaw01.NatsSum", spec := "natsSum", inPlace := ["internal/bytealg.Compare"], unfollowed := true, recurses := true, apart := false, narrowed := true }
def NatsSumUptoSaid : Prop := natsSumUptoRow.holds Try.pinned (OpenSpec.upto natsSumSpec)

/-- 'vidimuslaw01.NatsProduct', WHERE WHAT IT READS IS OF BULK AT MOST 1048576: true; the input reads as it did. -/
def natsProductUptoRow : OpenClaim := { program := "ytenbknmpkdidoaa", sum := "a99005efc72cdbfdbcedbdaca7b1d19153ca1dfb891a7b42b56ef0456dedc9f6", func := "vidimus/vidimuslaw01.NatsProduct", spec := "natsProduct", inPlace := ["internal/bytealg.Compare"], unfollowed := true, recurses := true, apart := false, narrowed := true }
def NatsProductUptoSaid : Prop := natsProductUptoRow.holds Try.pinned (OpenSpec.upto natsProductSpec)

/-- 'vidimuslaw01.NatsField', WHERE WHAT IT READS IS OF BULK AT MOST 1048576: true; the input reads as it did. -/
def natsFieldUptoRow : OpenClaim := { program := "ytenbknmpkdidoaa", sum := "a99005efc72cdbfdbcedbdaca7b1d19153ca1dfb891a7b42b56ef0456dedc9f6", func := "vidimus/vidimuslaw01.NatsField", spec := "natsField", inPlace := ["internal/bytealg.Compare"], unfollowed := true, recurses := true, apart := false, narrowed := true }
def NatsFieldUptoSaid : Prop := natsFieldUptoRow.holds Try.pinned (OpenSpec.upto natsFieldSpec)

/-- 'vidimuslaw01.NatsDivide', WHERE WHAT IT READS IS OF BULK AT MOST 1048576: true; the input reads as it did. -/
def natsDivideUptoRow : OpenClaim := { program := "ytenbknmpkdidoaa", sum := "a99005efc72cdbfdbcedbdaca7b1d19153ca1dfb891a7b42b56ef0456dedc9f6", func := "vidimus/vidimuslaw01.NatsDivide", spec := "natsDivide", inPlace := ["internal/bytealg.Compare"], unfollowed := true, recurses := true, apart := false, narrowed := true }
def NatsDivideUptoSaid : Prop := natsDivideUptoRow.holds Try.pinned (OpenSpec.upto natsDivideSpec)

/-- 'vidimuslaw01.NatsPower', WHERE WHAT IT READS IS OF BULK AT MOST 1048576: true; the input reads as it did. -/
def natsPowerUptoRow : OpenClaim := { program := "ytenbknmpkdidoaa", sum := "a99005efc72cdbfdbcedbdaca7b1d19153ca1dfb891a7b42b56ef0456dedc9f6", func := "vidimus/vidimuslaw01.NatsPower", spec := "natsPower", inPlace := ["internal/bytealg.Compare"], unfollowed := true, recurses := true, apart := false, narrowed := true }
def NatsPowerUptoSaid : Prop := natsPowerUptoRow.holds Try.pinned (OpenSpec.upto natsPowerSpec)

/-- 'vidimuslaw01.NatsOrder', WHERE WHAT IT READS IS OF BULK AT MOST 1048576: true; the input reads as it did. -/
def natsOrderUptoRow : OpenClaim := { program := "ytenbknmpkdidoaa", sum := "a99005efc72cdbfdbcedbdaca7b1d19153ca1dfb891a7b42b56ef0456dedc9f6", func := "vidimus/vidimuslaw01.NatsOrder", spec := "natsOrder", inPlace := ["internal/bytealg.Compare"], unfollowed := true, recurses := true, apart := false, narrowed := true }
def NatsOrderUptoSaid : Prop := natsOrderUptoRow.holds Try.pinned (OpenSpec.upto natsOrderSpec)

/-- 'vidimuslaw01.NatsText', WHERE WHAT IT READS IS OF BULK AT MOST 1048576: true; the input reads as it did. -/
def natsTextUptoRow : OpenClaim := { program := "ytenbknmpkdidoaa", sum := "a99005efc72cdbfdbcedbdaca7b1d19153ca1dfb891a7b42b56ef0456dedc9f6", func := "vidimus/vidimuslaw01.NatsText", spec := "natsText", inPlace := ["internal/bytealg.Compare"], unfollowed := true, recurses := true, apart := false, narrowed := true }
def NatsTextUptoSaid : Prop := natsTextUptoRow.holds Try.pinned (OpenSpec.upto natsTextSpec)

/-- 'vidimuslaw01.NatsSmall', WHERE WHAT IT READS IS OF BULK AT MOST 1048576: true; the input reads as it did. -/
def natsSmallUptoRow : OpenClaim := { program := "ytenbknmpkdidoaa", sum := "a99005efc72cdbfdbcedbdaca7b1d19153ca1dfb891a7b42b56ef0456dedc9f6", func := "vidimus/vidimuslaw01.NatsSmall", spec := "natsSmall", inPlace := ["internal/bytealg.Compare"], unfollowed := true, recurses := true, apart := false, narrowed := true }
def NatsSmallUptoSaid : Prop := natsSmallUptoRow.holds Try.pinned (OpenSpec.upto natsSmallSpec)

/-- 'vidimuslaw01.NatsKnown', WHERE WHAT IT READS IS OF BULK AT MOST 1048576: true; the input reads as it did. -/
def natsKnownUptoRow : OpenClaim := { program := "ytenbknmpkdidoaa", sum := "a99005efc72cdbfdbcedbdaca7b1d19153ca1dfb891a7b42b56ef0456dedc9f6", func := "vidimus/vidimuslaw01.NatsKnown", spec := "natsKnown", inPlace := ["internal/bytealg.Compare"], unfollowed := true, recurses := true, apart := false, narrowed := true }
def NatsKnownUptoSaid : Prop := natsKnownUptoRow.holds Try.pinned (OpenSpec.upto natsKnownSpec)

end Rows
end Go.Proofs.Ytenbknmpkdidoaa
