/-
  DERIVED. GIVEN WITH THE SEED: THE CARDS: each row of YtndamidmgglneaaDoorRows.lean that lists a variable, with what it lists TIED to the program's text (the seventh form; the later family's looks); each row that meets fmt, with fmt's text TOLD by the authors' own Lean function (tested against real Go, not proved from fmt's source: count such statements apart). THE CARD IS WHAT COUNTS. Prove the row's statement (the work); the ties are given (YtndamidmgglneaaDoorTie.lean); close each card by the builder's one call (the guide's Derived/Test/ToyasCard.lean, 'card_holds'). Laid BY PROGRAM, IN A SANDBOX (cutbox-door.mjs). By AI agents, Wed Nov 11 2026. No macro, syntax, notation, axiom, sorry.
-/
import Derived.Test.YtndamidmgglneaaDoorRows
import GoSem.ClaimSeven
namespace Go.Proofs.YtndamidmgglneaaDoor
namespace Rows

/-- THE TIED CARD OF 'vidimuslaw06.OidsParse'. -/
def oidsParseCard : Claim7 := { stood := { row := oidsParseRow, standIns := [], harness := (true, "e00b98d2662d9da9e030937107f2f644f1a506c3b4226570ca8f986eb80997e3"), looks := true }, kinds := [], alts := [], laidByText := true, laidKinds := [.data, .data, .data, .data, .sentinel, .sentinel, .pinned], laidTests := true, laidLooks := .later }
def OidsParseCardSaid : Prop := Claim7.holds Tryd.pinned (.plain (OpenSpec.ofChange oidsParseSpec)) oidsParseCard

/-- THE TIED CARD OF 'vidimuslaw06.OidsOrder'. -/
def oidsOrderCard : Claim7 := { stood := { row := oidsOrderRow, standIns := [], harness := (true, "e00b98d2662d9da9e030937107f2f644f1a506c3b4226570ca8f986eb80997e3"), looks := true }, kinds := [], alts := [], laidByText := true, laidKinds := [.data, .data, .data, .data, .sentinel, .sentinel, .pinned], laidTests := true, laidLooks := .later }
def OidsOrderCardSaid : Prop := Claim7.holds Tryd.pinned (.plain (OpenSpec.ofChange oidsOrderSpec)) oidsOrderCard

/-- THE TIED CARD OF 'vidimuslaw06.OidsKnown'. -/
def oidsKnownCard : Claim7 := { stood := { row := oidsKnownRow, standIns := [], harness := (true, "e00b98d2662d9da9e030937107f2f644f1a506c3b4226570ca8f986eb80997e3"), looks := true }, kinds := [], alts := [], laidByText := true, laidKinds := [.data, .data, .data, .data, .sentinel, .sentinel, .pinned], laidTests := true, laidLooks := .later }
def OidsKnownCardSaid : Prop := Claim7.holds Tryd.pinned (.plain (OpenSpec.ofChange oidsKnownSpec)) oidsKnownCard

/-- THE SECOND FORM's CARD OF 'vidimuslaw06.OidsParse'. -/
def oidsParseUptoCard : Claim7 := { stood := { row := oidsParseUptoRow, standIns := [], harness := (true, "e00b98d2662d9da9e030937107f2f644f1a506c3b4226570ca8f986eb80997e3"), looks := true }, kinds := [], alts := [], laidByText := true, laidKinds := [.data, .data, .data, .data, .sentinel, .sentinel, .pinned], laidTests := true, laidLooks := .later }
def OidsParseUptoCardSaid : Prop := Claim7.holds Tryd.pinned (.plain (OpenSpec.upto oidsParseSpec)) oidsParseUptoCard

/-- THE SECOND FORM's CARD OF 'vidimuslaw06.OidsOrder'. -/
def oidsOrderUptoCard : Claim7 := { stood := { row := oidsOrderUptoRow, standIns := [], harness := (true, "e00b98d2662d9da9e030937107f2f644f1a506c3b4226570ca8f986eb80997e3"), looks := true }, kinds := [], alts := [], laidByText := true, laidKinds := [.data, .data, .data, .data, .sentinel, .sentinel, .pinned], laidTests := true, laidLooks := .later }
def OidsOrderUptoCardSaid : Prop := Claim7.holds Tryd.pinned (.plain (OpenSpec.upto oidsOrderSpec)) oidsOrderUptoCard

/-- THE SECOND FORM's CARD OF 'vidimuslaw06.OidsKnown'. -/
def oidsKnownUptoCard : Claim7 := { stood := { row := oidsKnownUptoRow, standIns := [], harness := (true, "e00b98d2662d9da9e030937107f2f644f1a506c3b4226570ca8f986eb80997e3"), looks := true }, kinds := [], alts := [], laidByText := true, laidKinds := [.data, .data, .data, .data, .sentinel, .sentinel, .pinned], laidTests := true, laidLooks := .later }
def OidsKnownUptoCardSaid : Prop := Claim7.holds Tryd.pinned (.plain (OpenSpec.upto oidsKnownSpec)) oidsKnownUptoCard
end Rows
end Go.Proofs.YtndamidmgglneaaDoor
