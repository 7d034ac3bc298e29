/-
  DERIVED. GIVEN WITH THE SEED: THE CARDS: each row of YtdbddbelhgkelaaGreatDoorRows.lean that lists a variable, with what it lists TIED to the program's text (the seventh form; the later family's looks); each row that meets fmt, with fmt's text TOLD by the authors' own Lean function (tested against real Go, not proved from fmt's source: count such statements apart). THE CARD IS WHAT COUNTS. Prove the row's statement (the work); the ties are given (YtdbddbelhgkelaaGreatDoorTie.lean); close each card by the builder's one call (the guide's Derived/Test/ToyasCard.lean, 'card_holds'). Laid BY PROGRAM, IN A SANDBOX (cutbox-door.mjs). By AI agents, Wed Nov 11 2026. No macro, syntax, notation, axiom, sorry.
-/
import Derived.Test.YtdbddbelhgkelaaGreatDoorRows
import GoSem.ClaimSeven
namespace Go.Proofs.YtdbddbelhgkelaaGreatDoor
namespace Rows

/-- THE TIED CARD OF 'colanderlaw04.ShapeTells'. -/
def shapeTellsCard : Claim7 := { stood := { row := shapeTellsRow, standIns := [], harness := (true, "cec9eca3e69a15321afbc4b11654662ad332d5f0196c3c8b9893138f7fd1dc32"), looks := false }, kinds := [], alts := [], laidByText := true, laidKinds := [.data, .pinned], laidTests := true, laidLooks := .later }
def ShapeTellsCardSaid : Prop := Claim7.holds Tryz.pinned (.plain (OpenSpec.ofChange shapeTellsSpec)) shapeTellsCard

/-- THE TIED CARD OF 'colanderlaw06.VmPlain'. -/
def vmPlainCard : Claim7 := { stood := { row := vmPlainRow, standIns := [], harness := (true, "cec9eca3e69a15321afbc4b11654662ad332d5f0196c3c8b9893138f7fd1dc32"), looks := false }, kinds := [], alts := [], laidByText := true, laidKinds := [.data, .wider, .wider, .pinned], laidTests := true, laidLooks := .later }
def VmPlainCardSaid : Prop := Claim7.holds Tryz.pinned (.plain (OpenSpec.ofChange vmPlainSpec)) vmPlainCard

/-- THE TIED CARD OF 'colanderlaw06.VmGreed'. -/
def vmGreedCard : Claim7 := { stood := { row := vmGreedRow, standIns := [], harness := (true, "cec9eca3e69a15321afbc4b11654662ad332d5f0196c3c8b9893138f7fd1dc32"), looks := false }, kinds := [], alts := [], laidByText := true, laidKinds := [.data, .wider, .wider, .pinned], laidTests := true, laidLooks := .later }
def VmGreedCardSaid : Prop := Claim7.holds Tryz.pinned (.plain (OpenSpec.ofChange vmGreedSpec)) vmGreedCard

/-- THE TIED CARD OF 'colanderlaw06.VmShifts'. -/
def vmShiftsCard : Claim7 := { stood := { row := vmShiftsRow, standIns := [], harness := (true, "cec9eca3e69a15321afbc4b11654662ad332d5f0196c3c8b9893138f7fd1dc32"), looks := false }, kinds := [], alts := [], laidByText := true, laidKinds := [.data, .wider, .wider, .pinned], laidTests := true, laidLooks := .later }
def VmShiftsCardSaid : Prop := Claim7.holds Tryz.pinned (.plain (OpenSpec.ofChange vmShiftsSpec)) vmShiftsCard

/-- THE SECOND FORM's CARD OF 'colanderlaw04.ShapeTells'. -/
def shapeTellsUptoCard : Claim7 := { stood := { row := shapeTellsUptoRow, standIns := [], harness := (true, "cec9eca3e69a15321afbc4b11654662ad332d5f0196c3c8b9893138f7fd1dc32"), looks := false }, kinds := [], alts := [], laidByText := true, laidKinds := [.data, .pinned], laidTests := true, laidLooks := .later }
def ShapeTellsUptoCardSaid : Prop := Claim7.holds Tryz.pinned (.plain (OpenSpec.upto shapeTellsSpec)) shapeTellsUptoCard

/-- THE SECOND FORM's CARD OF 'colanderlaw06.VmPlain'. -/
def vmPlainUptoCard : Claim7 := { stood := { row := vmPlainUptoRow, standIns := [], harness := (true, "cec9eca3e69a15321afbc4b11654662ad332d5f0196c3c8b9893138f7fd1dc32"), looks := false }, kinds := [], alts := [], laidByText := true, laidKinds := [.data, .wider, .wider, .pinned], laidTests := true, laidLooks := .later }
def VmPlainUptoCardSaid : Prop := Claim7.holds Tryz.pinned (.plain (OpenSpec.upto vmPlainSpec)) vmPlainUptoCard

/-- THE SECOND FORM's CARD OF 'colanderlaw06.VmGreed'. -/
def vmGreedUptoCard : Claim7 := { stood := { row := vmGreedUptoRow, standIns := [], harness := (true, "cec9eca3e69a15321afbc4b11654662ad332d5f0196c3c8b9893138f7fd1dc32"), looks := false }, kinds := [], alts := [], laidByText := true, laidKinds := [.data, .wider, .wider, .pinned], laidTests := true, laidLooks := .later }
def VmGreedUptoCardSaid : Prop := Claim7.holds Tryz.pinned (.plain (OpenSpec.upto vmGreedSpec)) vmGreedUptoCard

/-- THE SECOND FORM's CARD OF 'colanderlaw06.VmShifts'. -/
def vmShiftsUptoCard : Claim7 := { stood := { row := vmShiftsUptoRow, standIns := [], harness := (true, "cec9eca3e69a15321afbc4b11654662ad332d5f0196c3c8b9893138f7fd1dc32"), looks := false }, kinds := [], alts := [], laidByText := true, laidKinds := [.data, .wider, .wider, .pinned], laidTests := true, laidLooks := .later }
def VmShiftsUptoCardSaid : Prop := Claim7.holds Tryz.pinned (.plain (OpenSpec.upto vmShiftsSpec)) vmShiftsUptoCard
end Rows
end Go.Proofs.YtdbddbelhgkelaaGreatDoor
