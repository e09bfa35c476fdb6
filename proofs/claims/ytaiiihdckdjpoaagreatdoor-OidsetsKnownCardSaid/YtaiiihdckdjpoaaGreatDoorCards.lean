/-
  DERIVED. GIVEN WITH THE SEED: THE CARDS: each row of YtaiiihdckdjpoaaGreatDoorRows.lean that lists a variable, with what it lists TIED to the program's text (the seventh form; the later family's looks); each row that meets fmt, with fmt's text TOLD by the authors' own Lean function (tested against real Go, not proved from fmt's source: count such statements apart). THE CARD IS WHAT COUNTS. Prove the row's statement (the work); the ties are given (YtaiiihdckdjpoaaGreatDoorTie.lean); close each card by the builder's one call (the guide's Derived/Test/ToyasCard.lean, 'card_holds'). Laid BY PROGRAM, IN A SANDBOX (cutbox-door.mjs). By AI agents, Wed Nov 11 2026. No macro, syntax, notation, axiom, sorry.
-/
import Derived.Test.YtaiiihdckdjpoaaGreatDoorRows
import GoSem.ClaimSeven
namespace Go.Proofs.YtaiiihdckdjpoaaGreatDoor
namespace Rows

/-- THE TIED CARD OF 'vidimuslaw07.OidsetsCheck'. -/
def oidsetsCheckCard : Claim7 := { stood := { row := oidsetsCheckRow, standIns := [], harness := (true, "f01d87738e1ddafa5d7d173e387bfe7ce61225a165f5d6b5f2fd040acc312443"), looks := true }, kinds := [], alts := [], laidByText := true, laidKinds := [.data, .data, .data, .data, .sentinel, .sentinel, .pinned], laidTests := true, laidLooks := .later }
def OidsetsCheckCardSaid : Prop := Claim7.holds Tryz.pinned (.plain (OpenSpec.ofChange oidsetsCheckSpec)) oidsetsCheckCard

/-- THE TIED CARD OF 'vidimuslaw07.OidsetsOf'. -/
def oidsetsOfCard : Claim7 := { stood := { row := oidsetsOfRow, standIns := [], harness := (true, "f01d87738e1ddafa5d7d173e387bfe7ce61225a165f5d6b5f2fd040acc312443"), looks := true }, kinds := [], alts := [], laidByText := true, laidKinds := [.data, .data, .data, .data, .sentinel, .sentinel, .pinned], laidTests := true, laidLooks := .later }
def OidsetsOfCardSaid : Prop := Claim7.holds Tryz.pinned (.plain (OpenSpec.ofChange oidsetsOfSpec)) oidsetsOfCard

/-- THE TIED CARD OF 'vidimuslaw07.OidsetsCombine'. -/
def oidsetsCombineCard : Claim7 := { stood := { row := oidsetsCombineRow, standIns := [], harness := (true, "f01d87738e1ddafa5d7d173e387bfe7ce61225a165f5d6b5f2fd040acc312443"), looks := true }, kinds := [], alts := [], laidByText := true, laidKinds := [.data, .data, .data, .data, .sentinel, .sentinel, .pinned], laidTests := true, laidLooks := .later }
def OidsetsCombineCardSaid : Prop := Claim7.holds Tryz.pinned (.plain (OpenSpec.ofChange oidsetsCombineSpec)) oidsetsCombineCard

/-- THE TIED CARD OF 'vidimuslaw07.OidsetsLattice'. -/
def oidsetsLatticeCard : Claim7 := { stood := { row := oidsetsLatticeRow, standIns := [], harness := (true, "f01d87738e1ddafa5d7d173e387bfe7ce61225a165f5d6b5f2fd040acc312443"), looks := true }, kinds := [], alts := [], laidByText := true, laidKinds := [.data, .data, .data, .data, .sentinel, .sentinel, .pinned], laidTests := true, laidLooks := .later }
def OidsetsLatticeCardSaid : Prop := Claim7.holds Tryz.pinned (.plain (OpenSpec.ofChange oidsetsLatticeSpec)) oidsetsLatticeCard

/-- THE TIED CARD OF 'vidimuslaw07.OidsetsText'. -/
def oidsetsTextCard : Claim7 := { stood := { row := oidsetsTextRow, standIns := [], harness := (true, "f01d87738e1ddafa5d7d173e387bfe7ce61225a165f5d6b5f2fd040acc312443"), looks := true }, kinds := [], alts := [], laidByText := true, laidKinds := [.data, .data, .data, .data, .sentinel, .sentinel, .pinned], laidTests := true, laidLooks := .later }
def OidsetsTextCardSaid : Prop := Claim7.holds Tryz.pinned (.plain (OpenSpec.ofChange oidsetsTextSpec)) oidsetsTextCard

/-- THE TIED CARD OF 'vidimuslaw07.OidsetsKnown'. -/
def oidsetsKnownCard : Claim7 := { stood := { row := oidsetsKnownRow, standIns := [], harness := (true, "f01d87738e1ddafa5d7d173e387bfe7ce61225a165f5d6b5f2fd040acc312443"), looks := true }, kinds := [], alts := [], laidByText := true, laidKinds := [.data, .data, .data, .data, .sentinel, .sentinel, .pinned], laidTests := true, laidLooks := .later }
def OidsetsKnownCardSaid : Prop := Claim7.holds Tryz.pinned (.plain (OpenSpec.ofChange oidsetsKnownSpec)) oidsetsKnownCard

/-- THE SECOND FORM's CARD OF 'vidimuslaw07.OidsetsCheck'. -/
def oidsetsCheckUptoCard : Claim7 := { stood := { row := oidsetsCheckUptoRow, standIns := [], harness := (true, "f01d87738e1ddafa5d7d173e387bfe7ce61225a165f5d6b5f2fd040acc312443"), looks := true }, kinds := [], alts := [], laidByText := true, laidKinds := [.data, .data, .data, .data, .sentinel, .sentinel, .pinned], laidTests := true, laidLooks := .later }
def OidsetsCheckUptoCardSaid : Prop := Claim7.holds Tryz.pinned (.plain (OpenSpec.upto oidsetsCheckSpec)) oidsetsCheckUptoCard

/-- THE SECOND FORM's CARD OF 'vidimuslaw07.OidsetsOf'. -/
def oidsetsOfUptoCard : Claim7 := { stood := { row := oidsetsOfUptoRow, standIns := [], harness := (true, "f01d87738e1ddafa5d7d173e387bfe7ce61225a165f5d6b5f2fd040acc312443"), looks := true }, kinds := [], alts := [], laidByText := true, laidKinds := [.data, .data, .data, .data, .sentinel, .sentinel, .pinned], laidTests := true, laidLooks := .later }
def OidsetsOfUptoCardSaid : Prop := Claim7.holds Tryz.pinned (.plain (OpenSpec.upto oidsetsOfSpec)) oidsetsOfUptoCard

/-- THE SECOND FORM's CARD OF 'vidimuslaw07.OidsetsCombine'. -/
def oidsetsCombineUptoCard : Claim7 := { stood := { row := oidsetsCombineUptoRow, standIns := [], harness := (true, "f01d87738e1ddafa5d7d173e387bfe7ce61225a165f5d6b5f2fd040acc312443"), looks := true }, kinds := [], alts := [], laidByText := true, laidKinds := [.data, .data, .data, .data, .sentinel, .sentinel, .pinned], laidTests := true, laidLooks := .later }
def OidsetsCombineUptoCardSaid : Prop := Claim7.holds Tryz.pinned (.plain (OpenSpec.upto oidsetsCombineSpec)) oidsetsCombineUptoCard

/-- THE SECOND FORM's CARD OF 'vidimuslaw07.OidsetsLattice'. -/
def oidsetsLatticeUptoCard : Claim7 := { stood := { row := oidsetsLatticeUptoRow, standIns := [], harness := (true, "f01d87738e1ddafa5d7d173e387bfe7ce61225a165f5d6b5f2fd040acc312443"), looks := true }, kinds := [], alts := [], laidByText := true, laidKinds := [.data, .data, .data, .data, .sentinel, .sentinel, .pinned], laidTests := true, laidLooks := .later }
def OidsetsLatticeUptoCardSaid : Prop := Claim7.holds Tryz.pinned (.plain (OpenSpec.upto oidsetsLatticeSpec)) oidsetsLatticeUptoCard

/-- THE SECOND FORM's CARD OF 'vidimuslaw07.OidsetsText'. -/
def oidsetsTextUptoCard : Claim7 := { stood := { row := oidsetsTextUptoRow, standIns := [], harness := (true, "f01d87738e1ddafa5d7d173e387bfe7ce61225a165f5d6b5f2fd040acc312443"), looks := true }, kinds := [], alts := [], laidByText := true, laidKinds := [.data, .data, .data, .data, .sentinel, .sentinel, .pinned], laidTests := true, laidLooks := .later }
def OidsetsTextUptoCardSaid : Prop := Claim7.holds Tryz.pinned (.plain (OpenSpec.upto oidsetsTextSpec)) oidsetsTextUptoCard

/-- THE SECOND FORM's CARD OF 'vidimuslaw07.OidsetsKnown'. -/
def oidsetsKnownUptoCard : Claim7 := { stood := { row := oidsetsKnownUptoRow, standIns := [], harness := (true, "f01d87738e1ddafa5d7d173e387bfe7ce61225a165f5d6b5f2fd040acc312443"), looks := true }, kinds := [], alts := [], laidByText := true, laidKinds := [.data, .data, .data, .data, .sentinel, .sentinel, .pinned], laidTests := true, laidLooks := .later }
def OidsetsKnownUptoCardSaid : Prop := Claim7.holds Tryz.pinned (.plain (OpenSpec.upto oidsetsKnownSpec)) oidsetsKnownUptoCard
end Rows
end Go.Proofs.YtaiiihdckdjpoaaGreatDoor
