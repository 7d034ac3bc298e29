/-
  DERIVED. GIVEN WITH THE SEED: THE CARDS: each row of YtpginkdkblmnbaaGreatDoorRows.lean that lists a variable, with what it lists TIED to the program's text (the seventh form; the later family's looks); each row that meets fmt, with fmt's text TOLD by the authors' own Lean function (tested against real Go, not proved from fmt's source: count such statements apart). THE CARD IS WHAT COUNTS. Prove the row's statement (the work); the ties are given (YtpginkdkblmnbaaGreatDoorTie.lean); close each card by the builder's one call (the guide's Derived/Test/ToyasCard.lean, 'card_holds'). Laid BY PROGRAM, IN A SANDBOX (cutbox-door.mjs). By AI agents, Wed Nov 11 2026. No macro, syntax, notation, axiom, sorry.
-/
import Derived.Test.YtpginkdkblmnbaaGreatDoorRows
import GoSem.ClaimSeven
namespace Go.Proofs.YtpginkdkblmnbaaGreatDoor
namespace Rows

/-- THE TIED CARD OF 'colanderlaw04.ShapeTells'. -/
def shapeTellsCard : Claim7 := { stood := { row := shapeTellsRow, standIns := [], harness := (true, "80231acc893a1febaf52ed27dcc31b1ef058f2f88de96b46f12fddfb9cc06268"), looks := false }, kinds := [], alts := [], laidByText := true, laidKinds := [.data, .pinned], laidTests := true, laidLooks := .later }
def ShapeTellsCardSaid : Prop := Claim7.holds Tryz.pinned (.plain (OpenSpec.ofChange shapeTellsSpec)) shapeTellsCard

/-- THE TIED CARD OF 'colanderlaw08.VerdictPatterns'. -/
def verdictPatternsCard : Claim7 := { stood := { row := verdictPatternsRow, standIns := [], harness := (true, "80231acc893a1febaf52ed27dcc31b1ef058f2f88de96b46f12fddfb9cc06268"), looks := false }, kinds := [], alts := [], laidByText := true, laidKinds := [.data, .wider, .wider, .pinned], laidTests := true, laidLooks := .later }
def VerdictPatternsCardSaid : Prop := Claim7.holds Tryz.pinned (.plain (OpenSpec.ofChange verdictPatternsSpec)) verdictPatternsCard

/-- THE TIED CARD OF 'colanderlaw08.VerdictRules'. -/
def verdictRulesCard : Claim7 := { stood := { row := verdictRulesRow, standIns := [], harness := (true, "80231acc893a1febaf52ed27dcc31b1ef058f2f88de96b46f12fddfb9cc06268"), looks := false }, kinds := [], alts := [], laidByText := true, laidKinds := [.data, .pinned], laidTests := true, laidLooks := .later }
def VerdictRulesCardSaid : Prop := Claim7.holds Tryz.pinned (.plain (OpenSpec.ofChange verdictRulesSpec)) verdictRulesCard

/-- THE TIED CARD OF 'colanderlaw08.VerdictChanges'. -/
def verdictChangesCard : Claim7 := { stood := { row := verdictChangesRow, standIns := [], harness := (true, "80231acc893a1febaf52ed27dcc31b1ef058f2f88de96b46f12fddfb9cc06268"), looks := false }, kinds := [], alts := [], laidByText := true, laidKinds := [.data, .pinned], laidTests := true, laidLooks := .later }
def VerdictChangesCardSaid : Prop := Claim7.holds Tryz.pinned (.plain (OpenSpec.ofChange verdictChangesSpec)) verdictChangesCard

/-- THE SECOND FORM's CARD OF 'colanderlaw04.ShapeTells'. -/
def shapeTellsUptoCard : Claim7 := { stood := { row := shapeTellsUptoRow, standIns := [], harness := (true, "80231acc893a1febaf52ed27dcc31b1ef058f2f88de96b46f12fddfb9cc06268"), looks := false }, kinds := [], alts := [], laidByText := true, laidKinds := [.data, .pinned], laidTests := true, laidLooks := .later }
def ShapeTellsUptoCardSaid : Prop := Claim7.holds Tryz.pinned (.plain (OpenSpec.upto shapeTellsSpec)) shapeTellsUptoCard

/-- THE SECOND FORM's CARD OF 'colanderlaw08.VerdictPatterns'. -/
def verdictPatternsUptoCard : Claim7 := { stood := { row := verdictPatternsUptoRow, standIns := [], harness := (true, "80231acc893a1febaf52ed27dcc31b1ef058f2f88de96b46f12fddfb9cc06268"), looks := false }, kinds := [], alts := [], laidByText := true, laidKinds := [.data, .wider, .wider, .pinned], laidTests := true, laidLooks := .later }
def VerdictPatternsUptoCardSaid : Prop := Claim7.holds Tryz.pinned (.plain (OpenSpec.upto verdictPatternsSpec)) verdictPatternsUptoCard

/-- THE SECOND FORM's CARD OF 'colanderlaw08.VerdictRules'. -/
def verdictRulesUptoCard : Claim7 := { stood := { row := verdictRulesUptoRow, standIns := [], harness := (true, "80231acc893a1febaf52ed27dcc31b1ef058f2f88de96b46f12fddfb9cc06268"), looks := false }, kinds := [], alts := [], laidByText := true, laidKinds := [.data, .pinned], laidTests := true, laidLooks := .later }
def VerdictRulesUptoCardSaid : Prop := Claim7.holds Tryz.pinned (.plain (OpenSpec.upto verdictRulesSpec)) verdictRulesUptoCard

/-- THE SECOND FORM's CARD OF 'colanderlaw08.VerdictChanges'. -/
def verdictChangesUptoCard : Claim7 := { stood := { row := verdictChangesUptoRow, standIns := [], harness := (true, "80231acc893a1febaf52ed27dcc31b1ef058f2f88de96b46f12fddfb9cc06268"), looks := false }, kinds := [], alts := [], laidByText := true, laidKinds := [.data, .pinned], laidTests := true, laidLooks := .later }
def VerdictChangesUptoCardSaid : Prop := Claim7.holds Tryz.pinned (.plain (OpenSpec.upto verdictChangesSpec)) verdictChangesUptoCard
end Rows
end Go.Proofs.YtpginkdkblmnbaaGreatDoor
