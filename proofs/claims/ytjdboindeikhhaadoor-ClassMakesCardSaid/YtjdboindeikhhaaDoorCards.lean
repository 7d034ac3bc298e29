/-
  DERIVED. GIVEN WITH THE SEED: THE CARDS: each row of YtjdboindeikhhaaDoorRows.lean that lists a variable, with what it lists TIED to the program's text (the seventh form; the later family's looks); each row that meets fmt, with fmt's text TOLD by the authors' own Lean function (tested against real Go, not proved from fmt's source: count such statements apart). THE CARD IS WHAT COUNTS. Prove the row's statement (the work); the ties are given (YtjdboindeikhhaaDoorTie.lean); close each card by the builder's one call (the guide's Derived/Test/ToyasCard.lean, 'card_holds'). Laid BY PROGRAM, IN A SANDBOX (cutbox-door.mjs). By AI agents, Wed Nov 11 2026. No macro, syntax, notation, axiom, sorry.
-/
import Derived.Test.YtjdboindeikhhaaDoorRows
import GoSem.ClaimSeven
namespace Go.Proofs.YtjdboindeikhhaaDoor
namespace Rows

/-- THE TIED CARD OF 'colanderlaw02.ClassMakes'. -/
def classMakesCard : Claim7 := { stood := { row := classMakesRow, standIns := [], harness := (true, "14c985267c66458027ac5f164c88bf319841ecccd005b1ddecdada431d28bd11"), looks := false }, kinds := [], alts := [], laidByText := true, laidKinds := [.wider, .wider], laidTests := true, laidLooks := .later }
def ClassMakesCardSaid : Prop := Claim7.holds Tryd.pinned (.plain (OpenSpec.ofChange classMakesSpec)) classMakesCard

/-- THE TIED CARD OF 'colanderlaw02.ClassNots'. -/
def classNotsCard : Claim7 := { stood := { row := classNotsRow, standIns := [], harness := (true, "14c985267c66458027ac5f164c88bf319841ecccd005b1ddecdada431d28bd11"), looks := false }, kinds := [], alts := [], laidByText := true, laidKinds := [.wider, .wider], laidTests := true, laidLooks := .later }
def ClassNotsCardSaid : Prop := Claim7.holds Tryd.pinned (.plain (OpenSpec.ofChange classNotsSpec)) classNotsCard

/-- THE TIED CARD OF 'colanderlaw02.ClassBoth'. -/
def classBothCard : Claim7 := { stood := { row := classBothRow, standIns := [], harness := (true, "14c985267c66458027ac5f164c88bf319841ecccd005b1ddecdada431d28bd11"), looks := false }, kinds := [], alts := [], laidByText := true, laidKinds := [.wider, .wider], laidTests := true, laidLooks := .later }
def ClassBothCardSaid : Prop := Claim7.holds Tryd.pinned (.plain (OpenSpec.ofChange classBothSpec)) classBothCard

/-- THE TIED CARD OF 'colanderlaw02.ClassFolds'. -/
def classFoldsCard : Claim7 := { stood := { row := classFoldsRow, standIns := [], harness := (true, "14c985267c66458027ac5f164c88bf319841ecccd005b1ddecdada431d28bd11"), looks := false }, kinds := [], alts := [], laidByText := true, laidKinds := [.wider, .wider], laidTests := true, laidLooks := .later }
def ClassFoldsCardSaid : Prop := Claim7.holds Tryd.pinned (.plain (OpenSpec.ofChange classFoldsSpec)) classFoldsCard

/-- THE TIED CARD OF 'colanderlaw02.ClassLaws'. -/
def classLawsCard : Claim7 := { stood := { row := classLawsRow, standIns := [], harness := (true, "14c985267c66458027ac5f164c88bf319841ecccd005b1ddecdada431d28bd11"), looks := false }, kinds := [], alts := [], laidByText := true, laidKinds := [.wider, .wider], laidTests := true, laidLooks := .later }
def ClassLawsCardSaid : Prop := Claim7.holds Tryd.pinned (.plain (OpenSpec.ofChange classLawsSpec)) classLawsCard

/-- THE TIED CARD OF 'colanderlaw02.ClassOrder'. -/
def classOrderCard : Claim7 := { stood := { row := classOrderRow, standIns := [], harness := (true, "14c985267c66458027ac5f164c88bf319841ecccd005b1ddecdada431d28bd11"), looks := false }, kinds := [], alts := [], laidByText := true, laidKinds := [.wider, .wider], laidTests := true, laidLooks := .later }
def ClassOrderCardSaid : Prop := Claim7.holds Tryd.pinned (.plain (OpenSpec.ofChange classOrderSpec)) classOrderCard

/-- THE TIED CARD OF 'colanderlaw02.ClassAdds'. -/
def classAddsCard : Claim7 := { stood := { row := classAddsRow, standIns := [], harness := (true, "14c985267c66458027ac5f164c88bf319841ecccd005b1ddecdada431d28bd11"), looks := false }, kinds := [], alts := [], laidByText := true, laidKinds := [.wider, .wider], laidTests := true, laidLooks := .later }
def ClassAddsCardSaid : Prop := Claim7.holds Tryd.pinned (.plain (OpenSpec.ofChange classAddsSpec)) classAddsCard

/-- THE SECOND FORM's CARD OF 'colanderlaw02.ClassMakes'. -/
def classMakesUptoCard : Claim7 := { stood := { row := classMakesUptoRow, standIns := [], harness := (true, "14c985267c66458027ac5f164c88bf319841ecccd005b1ddecdada431d28bd11"), looks := false }, kinds := [], alts := [], laidByText := true, laidKinds := [.wider, .wider], laidTests := true, laidLooks := .later }
def ClassMakesUptoCardSaid : Prop := Claim7.holds Tryd.pinned (.plain (OpenSpec.upto classMakesSpec)) classMakesUptoCard

/-- THE SECOND FORM's CARD OF 'colanderlaw02.ClassNots'. -/
def classNotsUptoCard : Claim7 := { stood := { row := classNotsUptoRow, standIns := [], harness := (true, "14c985267c66458027ac5f164c88bf319841ecccd005b1ddecdada431d28bd11"), looks := false }, kinds := [], alts := [], laidByText := true, laidKinds := [.wider, .wider], laidTests := true, laidLooks := .later }
def ClassNotsUptoCardSaid : Prop := Claim7.holds Tryd.pinned (.plain (OpenSpec.upto classNotsSpec)) classNotsUptoCard

/-- THE SECOND FORM's CARD OF 'colanderlaw02.ClassBoth'. -/
def classBothUptoCard : Claim7 := { stood := { row := classBothUptoRow, standIns := [], harness := (true, "14c985267c66458027ac5f164c88bf319841ecccd005b1ddecdada431d28bd11"), looks := false }, kinds := [], alts := [], laidByText := true, laidKinds := [.wider, .wider], laidTests := true, laidLooks := .later }
def ClassBothUptoCardSaid : Prop := Claim7.holds Tryd.pinned (.plain (OpenSpec.upto classBothSpec)) classBothUptoCard

/-- THE SECOND FORM's CARD OF 'colanderlaw02.ClassFolds'. -/
def classFoldsUptoCard : Claim7 := { stood := { row := classFoldsUptoRow, standIns := [], harness := (true, "14c985267c66458027ac5f164c88bf319841ecccd005b1ddecdada431d28bd11"), looks := false }, kinds := [], alts := [], laidByText := true, laidKinds := [.wider, .wider], laidTests := true, laidLooks := .later }
def ClassFoldsUptoCardSaid : Prop := Claim7.holds Tryd.pinned (.plain (OpenSpec.upto classFoldsSpec)) classFoldsUptoCard

/-- THE SECOND FORM's CARD OF 'colanderlaw02.ClassLaws'. -/
def classLawsUptoCard : Claim7 := { stood := { row := classLawsUptoRow, standIns := [], harness := (true, "14c985267c66458027ac5f164c88bf319841ecccd005b1ddecdada431d28bd11"), looks := false }, kinds := [], alts := [], laidByText := true, laidKinds := [.wider, .wider], laidTests := true, laidLooks := .later }
def ClassLawsUptoCardSaid : Prop := Claim7.holds Tryd.pinned (.plain (OpenSpec.upto classLawsSpec)) classLawsUptoCard

/-- THE SECOND FORM's CARD OF 'colanderlaw02.ClassOrder'. -/
def classOrderUptoCard : Claim7 := { stood := { row := classOrderUptoRow, standIns := [], harness := (true, "14c985267c66458027ac5f164c88bf319841ecccd005b1ddecdada431d28bd11"), looks := false }, kinds := [], alts := [], laidByText := true, laidKinds := [.wider, .wider], laidTests := true, laidLooks := .later }
def ClassOrderUptoCardSaid : Prop := Claim7.holds Tryd.pinned (.plain (OpenSpec.upto classOrderSpec)) classOrderUptoCard

/-- THE SECOND FORM's CARD OF 'colanderlaw02.ClassAdds'. -/
def classAddsUptoCard : Claim7 := { stood := { row := classAddsUptoRow, standIns := [], harness := (true, "14c985267c66458027ac5f164c88bf319841ecccd005b1ddecdada431d28bd11"), looks := false }, kinds := [], alts := [], laidByText := true, laidKinds := [.wider, .wider], laidTests := true, laidLooks := .later }
def ClassAddsUptoCardSaid : Prop := Claim7.holds Tryd.pinned (.plain (OpenSpec.upto classAddsSpec)) classAddsUptoCard
end Rows
end Go.Proofs.YtjdboindeikhhaaDoor
