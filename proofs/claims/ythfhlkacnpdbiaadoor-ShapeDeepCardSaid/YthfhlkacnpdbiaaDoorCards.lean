/-
  DERIVED. GIVEN WITH THE SEED: THE CARDS: each row of YthfhlkacnpdbiaaDoorRows.lean that lists a variable, with what it lists TIED to the program's text (the seventh form; the later family's looks); each row that meets fmt, with fmt's text TOLD by the authors' own Lean function (tested against real Go, not proved from fmt's source: count such statements apart). THE CARD IS WHAT COUNTS. Prove the row's statement (the work); the ties are given (YthfhlkacnpdbiaaDoorTie.lean); close each card by the builder's one call (the guide's Derived/Test/ToyasCard.lean, 'card_holds'). Laid BY PROGRAM, IN A SANDBOX (cutbox-door.mjs). By AI agents, Wed Nov 11 2026. No macro, syntax, notation, axiom, sorry.
-/
import Derived.Test.YthfhlkacnpdbiaaDoorRows
import GoSem.ClaimSeven
namespace Go.Proofs.YthfhlkacnpdbiaaDoor
namespace Rows

/-- THE TIED CARD OF 'colanderlaw04.ShapeOrders'. -/
def shapeOrdersCard : Claim7 := { stood := { row := shapeOrdersRow, standIns := [], harness := (true, "ffa7197ec5e3c7c0e91e7b09d235be6cf414aaca878221bcd53017a9970469d6"), looks := false }, kinds := [], alts := [], laidByText := true, laidKinds := [.data, .pinned], laidTests := true, laidLooks := .later }
def ShapeOrdersCardSaid : Prop := Claim7.holds Tryd.pinned (.plain (OpenSpec.ofChange shapeOrdersSpec)) shapeOrdersCard

/-- THE TIED CARD OF 'colanderlaw04.ShapeRows'. -/
def shapeRowsCard : Claim7 := { stood := { row := shapeRowsRow, standIns := [], harness := (true, "ffa7197ec5e3c7c0e91e7b09d235be6cf414aaca878221bcd53017a9970469d6"), looks := false }, kinds := [], alts := [], laidByText := true, laidKinds := [.data, .pinned], laidTests := true, laidLooks := .later }
def ShapeRowsCardSaid : Prop := Claim7.holds Tryd.pinned (.plain (OpenSpec.ofChange shapeRowsSpec)) shapeRowsCard

/-- THE TIED CARD OF 'colanderlaw04.ShapeBehind'. -/
def shapeBehindCard : Claim7 := { stood := { row := shapeBehindRow, standIns := [], harness := (true, "ffa7197ec5e3c7c0e91e7b09d235be6cf414aaca878221bcd53017a9970469d6"), looks := false }, kinds := [], alts := [], laidByText := true, laidKinds := [.data, .pinned], laidTests := true, laidLooks := .later }
def ShapeBehindCardSaid : Prop := Claim7.holds Tryd.pinned (.plain (OpenSpec.ofChange shapeBehindSpec)) shapeBehindCard

/-- THE TIED CARD OF 'colanderlaw04.ShapeDeep'. -/
def shapeDeepCard : Claim7 := { stood := { row := shapeDeepRow, standIns := [], harness := (true, "ffa7197ec5e3c7c0e91e7b09d235be6cf414aaca878221bcd53017a9970469d6"), looks := false }, kinds := [], alts := [], laidByText := true, laidKinds := [.data, .pinned], laidTests := true, laidLooks := .later }
def ShapeDeepCardSaid : Prop := Claim7.holds Tryd.pinned (.plain (OpenSpec.ofChange shapeDeepSpec)) shapeDeepCard

/-- THE TIED CARD OF 'colanderlaw04.ShapeAlts'. -/
def shapeAltsCard : Claim7 := { stood := { row := shapeAltsRow, standIns := [], harness := (true, "ffa7197ec5e3c7c0e91e7b09d235be6cf414aaca878221bcd53017a9970469d6"), looks := false }, kinds := [], alts := [], laidByText := true, laidKinds := [.data, .pinned], laidTests := true, laidLooks := .later }
def ShapeAltsCardSaid : Prop := Claim7.holds Tryd.pinned (.plain (OpenSpec.ofChange shapeAltsSpec)) shapeAltsCard

/-- THE TIED CARD OF 'colanderlaw04.ShapeFree'. -/
def shapeFreeCard : Claim7 := { stood := { row := shapeFreeRow, standIns := [], harness := (true, "ffa7197ec5e3c7c0e91e7b09d235be6cf414aaca878221bcd53017a9970469d6"), looks := false }, kinds := [], alts := [], laidByText := true, laidKinds := [.data, .pinned], laidTests := true, laidLooks := .later }
def ShapeFreeCardSaid : Prop := Claim7.holds Tryd.pinned (.plain (OpenSpec.ofChange shapeFreeSpec)) shapeFreeCard

/-- THE SECOND FORM's CARD OF 'colanderlaw04.ShapeOrders'. -/
def shapeOrdersUptoCard : Claim7 := { stood := { row := shapeOrdersUptoRow, standIns := [], harness := (true, "ffa7197ec5e3c7c0e91e7b09d235be6cf414aaca878221bcd53017a9970469d6"), looks := false }, kinds := [], alts := [], laidByText := true, laidKinds := [.data, .pinned], laidTests := true, laidLooks := .later }
def ShapeOrdersUptoCardSaid : Prop := Claim7.holds Tryd.pinned (.plain (OpenSpec.upto shapeOrdersSpec)) shapeOrdersUptoCard

/-- THE SECOND FORM's CARD OF 'colanderlaw04.ShapeRows'. -/
def shapeRowsUptoCard : Claim7 := { stood := { row := shapeRowsUptoRow, standIns := [], harness := (true, "ffa7197ec5e3c7c0e91e7b09d235be6cf414aaca878221bcd53017a9970469d6"), looks := false }, kinds := [], alts := [], laidByText := true, laidKinds := [.data, .pinned], laidTests := true, laidLooks := .later }
def ShapeRowsUptoCardSaid : Prop := Claim7.holds Tryd.pinned (.plain (OpenSpec.upto shapeRowsSpec)) shapeRowsUptoCard

/-- THE SECOND FORM's CARD OF 'colanderlaw04.ShapeBehind'. -/
def shapeBehindUptoCard : Claim7 := { stood := { row := shapeBehindUptoRow, standIns := [], harness := (true, "ffa7197ec5e3c7c0e91e7b09d235be6cf414aaca878221bcd53017a9970469d6"), looks := false }, kinds := [], alts := [], laidByText := true, laidKinds := [.data, .pinned], laidTests := true, laidLooks := .later }
def ShapeBehindUptoCardSaid : Prop := Claim7.holds Tryd.pinned (.plain (OpenSpec.upto shapeBehindSpec)) shapeBehindUptoCard

/-- THE SECOND FORM's CARD OF 'colanderlaw04.ShapeDeep'. -/
def shapeDeepUptoCard : Claim7 := { stood := { row := shapeDeepUptoRow, standIns := [], harness := (true, "ffa7197ec5e3c7c0e91e7b09d235be6cf414aaca878221bcd53017a9970469d6"), looks := false }, kinds := [], alts := [], laidByText := true, laidKinds := [.data, .pinned], laidTests := true, laidLooks := .later }
def ShapeDeepUptoCardSaid : Prop := Claim7.holds Tryd.pinned (.plain (OpenSpec.upto shapeDeepSpec)) shapeDeepUptoCard

/-- THE SECOND FORM's CARD OF 'colanderlaw04.ShapeAlts'. -/
def shapeAltsUptoCard : Claim7 := { stood := { row := shapeAltsUptoRow, standIns := [], harness := (true, "ffa7197ec5e3c7c0e91e7b09d235be6cf414aaca878221bcd53017a9970469d6"), looks := false }, kinds := [], alts := [], laidByText := true, laidKinds := [.data, .pinned], laidTests := true, laidLooks := .later }
def ShapeAltsUptoCardSaid : Prop := Claim7.holds Tryd.pinned (.plain (OpenSpec.upto shapeAltsSpec)) shapeAltsUptoCard

/-- THE SECOND FORM's CARD OF 'colanderlaw04.ShapeFree'. -/
def shapeFreeUptoCard : Claim7 := { stood := { row := shapeFreeUptoRow, standIns := [], harness := (true, "ffa7197ec5e3c7c0e91e7b09d235be6cf414aaca878221bcd53017a9970469d6"), looks := false }, kinds := [], alts := [], laidByText := true, laidKinds := [.data, .pinned], laidTests := true, laidLooks := .later }
def ShapeFreeUptoCardSaid : Prop := Claim7.holds Tryd.pinned (.plain (OpenSpec.upto shapeFreeSpec)) shapeFreeUptoCard
end Rows
end Go.Proofs.YthfhlkacnpdbiaaDoor
