/-
  DERIVED. GIVEN WITH THE SEED: THE CARDS: each row of YtfngkclfdkeiaaaGreatDoorRows.lean that lists a variable, with what it lists TIED to the program's text (the seventh form; the later family's looks); each row that meets fmt, with fmt's text TOLD by the authors' own Lean function (tested against real Go, not proved from fmt's source: count such statements apart). THE CARD IS WHAT COUNTS. Prove the row's statement (the work); the ties are given (YtfngkclfdkeiaaaGreatDoorTie.lean); close each card by the builder's one call (the guide's Derived/Test/ToyasCard.lean, 'card_holds'). Laid BY PROGRAM, IN A SANDBOX (cutbox-door.mjs). By AI agents, Wed Nov 11 2026. No macro, syntax, notation, axiom, sorry.
-/
import Derived.Test.YtfngkclfdkeiaaaGreatDoorRows
import GoSem.ClaimSeven
namespace Go.Proofs.YtfngkclfdkeiaaaGreatDoor
namespace Rows

/-- THE TIED CARD OF 'colanderlaw04.ShapeTells'. -/
def shapeTellsCard : Claim7 := { stood := { row := shapeTellsRow, standIns := [], harness := (true, "c5bf7576c9397fa7242b8b3f02a7e35c3b0f6b42f35c84457115bf3a23dc193f"), looks := false }, kinds := [], alts := [], laidByText := true, laidKinds := [.data, .pinned], laidTests := true, laidLooks := .later }
def ShapeTellsCardSaid : Prop := Claim7.holds Tryz.pinned (.plain (OpenSpec.ofChange shapeTellsSpec)) shapeTellsCard

/-- THE TIED CARD OF 'colanderlaw05.ProgOnes'. -/
def progOnesCard : Claim7 := { stood := { row := progOnesRow, standIns := [], harness := (true, "c5bf7576c9397fa7242b8b3f02a7e35c3b0f6b42f35c84457115bf3a23dc193f"), looks := false }, kinds := [], alts := [], laidByText := true, laidKinds := [.data, .wider, .wider, .pinned], laidTests := true, laidLooks := .later }
def ProgOnesCardSaid : Prop := Claim7.holds Tryz.pinned (.plain (OpenSpec.ofChange progOnesSpec)) progOnesCard

/-- THE TIED CARD OF 'colanderlaw05.ProgRows'. -/
def progRowsCard : Claim7 := { stood := { row := progRowsRow, standIns := [], harness := (true, "c5bf7576c9397fa7242b8b3f02a7e35c3b0f6b42f35c84457115bf3a23dc193f"), looks := false }, kinds := [], alts := [], laidByText := true, laidKinds := [.data, .wider, .wider, .pinned], laidTests := true, laidLooks := .later }
def ProgRowsCardSaid : Prop := Claim7.holds Tryz.pinned (.plain (OpenSpec.ofChange progRowsSpec)) progRowsCard

/-- THE TIED CARD OF 'colanderlaw06.VmPlain'. -/
def vmPlainCard : Claim7 := { stood := { row := vmPlainRow, standIns := [], harness := (true, "c5bf7576c9397fa7242b8b3f02a7e35c3b0f6b42f35c84457115bf3a23dc193f"), looks := false }, kinds := [], alts := [], laidByText := true, laidKinds := [.data, .wider, .wider, .pinned], laidTests := true, laidLooks := .later }
def VmPlainCardSaid : Prop := Claim7.holds Tryz.pinned (.plain (OpenSpec.ofChange vmPlainSpec)) vmPlainCard

/-- THE TIED CARD OF 'colanderlaw06.VmGreed'. -/
def vmGreedCard : Claim7 := { stood := { row := vmGreedRow, standIns := [], harness := (true, "c5bf7576c9397fa7242b8b3f02a7e35c3b0f6b42f35c84457115bf3a23dc193f"), looks := false }, kinds := [], alts := [], laidByText := true, laidKinds := [.data, .wider, .wider, .pinned], laidTests := true, laidLooks := .later }
def VmGreedCardSaid : Prop := Claim7.holds Tryz.pinned (.plain (OpenSpec.ofChange vmGreedSpec)) vmGreedCard

/-- THE TIED CARD OF 'colanderlaw06.VmShifts'. -/
def vmShiftsCard : Claim7 := { stood := { row := vmShiftsRow, standIns := [], harness := (true, "c5bf7576c9397fa7242b8b3f02a7e35c3b0f6b42f35c84457115bf3a23dc193f"), looks := false }, kinds := [], alts := [], laidByText := true, laidKinds := [.data, .wider, .wider, .pinned], laidTests := true, laidLooks := .later }
def VmShiftsCardSaid : Prop := Claim7.holds Tryz.pinned (.plain (OpenSpec.ofChange vmShiftsSpec)) vmShiftsCard

/-- THE SECOND FORM's CARD OF 'colanderlaw04.ShapeTells'. -/
def shapeTellsUptoCard : Claim7 := { stood := { row := shapeTellsUptoRow, standIns := [], harness := (true, "c5bf7576c9397fa7242b8b3f02a7e35c3b0f6b42f35c84457115bf3a23dc193f"), looks := false }, kinds := [], alts := [], laidByText := true, laidKinds := [.data, .pinned], laidTests := true, laidLooks := .later }
def ShapeTellsUptoCardSaid : Prop := Claim7.holds Tryz.pinned (.plain (OpenSpec.upto shapeTellsSpec)) shapeTellsUptoCard

/-- THE SECOND FORM's CARD OF 'colanderlaw05.ProgOnes'. -/
def progOnesUptoCard : Claim7 := { stood := { row := progOnesUptoRow, standIns := [], harness := (true, "c5bf7576c9397fa7242b8b3f02a7e35c3b0f6b42f35c84457115bf3a23dc193f"), looks := false }, kinds := [], alts := [], laidByText := true, laidKinds := [.data, .wider, .wider, .pinned], laidTests := true, laidLooks := .later }
def ProgOnesUptoCardSaid : Prop := Claim7.holds Tryz.pinned (.plain (OpenSpec.upto progOnesSpec)) progOnesUptoCard

/-- THE SECOND FORM's CARD OF 'colanderlaw05.ProgRows'. -/
def progRowsUptoCard : Claim7 := { stood := { row := progRowsUptoRow, standIns := [], harness := (true, "c5bf7576c9397fa7242b8b3f02a7e35c3b0f6b42f35c84457115bf3a23dc193f"), looks := false }, kinds := [], alts := [], laidByText := true, laidKinds := [.data, .wider, .wider, .pinned], laidTests := true, laidLooks := .later }
def ProgRowsUptoCardSaid : Prop := Claim7.holds Tryz.pinned (.plain (OpenSpec.upto progRowsSpec)) progRowsUptoCard

/-- THE SECOND FORM's CARD OF 'colanderlaw06.VmPlain'. -/
def vmPlainUptoCard : Claim7 := { stood := { row := vmPlainUptoRow, standIns := [], harness := (true, "c5bf7576c9397fa7242b8b3f02a7e35c3b0f6b42f35c84457115bf3a23dc193f"), looks := false }, kinds := [], alts := [], laidByText := true, laidKinds := [.data, .wider, .wider, .pinned], laidTests := true, laidLooks := .later }
def VmPlainUptoCardSaid : Prop := Claim7.holds Tryz.pinned (.plain (OpenSpec.upto vmPlainSpec)) vmPlainUptoCard

/-- THE SECOND FORM's CARD OF 'colanderlaw06.VmGreed'. -/
def vmGreedUptoCard : Claim7 := { stood := { row := vmGreedUptoRow, standIns := [], harness := (true, "c5bf7576c9397fa7242b8b3f02a7e35c3b0f6b42f35c84457115bf3a23dc193f"), looks := false }, kinds := [], alts := [], laidByText := true, laidKinds := [.data, .wider, .wider, .pinned], laidTests := true, laidLooks := .later }
def VmGreedUptoCardSaid : Prop := Claim7.holds Tryz.pinned (.plain (OpenSpec.upto vmGreedSpec)) vmGreedUptoCard

/-- THE SECOND FORM's CARD OF 'colanderlaw06.VmShifts'. -/
def vmShiftsUptoCard : Claim7 := { stood := { row := vmShiftsUptoRow, standIns := [], harness := (true, "c5bf7576c9397fa7242b8b3f02a7e35c3b0f6b42f35c84457115bf3a23dc193f"), looks := false }, kinds := [], alts := [], laidByText := true, laidKinds := [.data, .wider, .wider, .pinned], laidTests := true, laidLooks := .later }
def VmShiftsUptoCardSaid : Prop := Claim7.holds Tryz.pinned (.plain (OpenSpec.upto vmShiftsSpec)) vmShiftsUptoCard
end Rows
end Go.Proofs.YtfngkclfdkeiaaaGreatDoor
