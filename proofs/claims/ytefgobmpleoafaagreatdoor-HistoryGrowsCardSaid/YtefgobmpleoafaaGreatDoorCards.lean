/-
  DERIVED. GIVEN WITH THE SEED: THE CARDS: each row of YtefgobmpleoafaaGreatDoorRows.lean that lists a variable, with what it lists TIED to the program's text (the seventh form; the later family's looks); each row that meets fmt, with fmt's text TOLD by the authors' own Lean function (tested against real Go, not proved from fmt's source: count such statements apart). THE CARD IS WHAT COUNTS. Prove the row's statement (the work); the ties are given (YtefgobmpleoafaaGreatDoorTie.lean); close each card by the builder's one call (the guide's Derived/Test/ToyasCard.lean, 'card_holds'). Laid BY PROGRAM, IN A SANDBOX (cutbox-door.mjs). By AI agents, Wed Nov 11 2026. No macro, syntax, notation, axiom, sorry.
-/
import Derived.Test.YtefgobmpleoafaaGreatDoorRows
import GoSem.ClaimSeven
namespace Go.Proofs.YtefgobmpleoafaaGreatDoor
namespace Rows

/-- THE TIED CARD OF 'colanderlaw14.HistoryRuns'. -/
def historyRunsCard : Claim7 := { stood := { row := historyRunsRow, standIns := [], harness := (true, "aa90702b30b33261371a20320b73f1ae4c89cb621cd7d1adf9817526edae9bb1"), looks := false }, kinds := [], alts := [], laidByText := true, laidKinds := [.data, .pinned], laidTests := true, laidLooks := .later }
def HistoryRunsCardSaid : Prop := Claim7.holds Tryz.pinned (.plain (OpenSpec.ofChange historyRunsSpec)) historyRunsCard

/-- THE TIED CARD OF 'colanderlaw14.HistoryGrows'. -/
def historyGrowsCard : Claim7 := { stood := { row := historyGrowsRow, standIns := [], harness := (true, "aa90702b30b33261371a20320b73f1ae4c89cb621cd7d1adf9817526edae9bb1"), looks := false }, kinds := [], alts := [], laidByText := true, laidKinds := [.data, .pinned], laidTests := true, laidLooks := .later }
def HistoryGrowsCardSaid : Prop := Claim7.holds Tryz.pinned (.plain (OpenSpec.ofChange historyGrowsSpec)) historyGrowsCard

/-- THE TIED CARD OF 'colanderlaw14.HistoryTwice'. -/
def historyTwiceCard : Claim7 := { stood := { row := historyTwiceRow, standIns := [], harness := (true, "aa90702b30b33261371a20320b73f1ae4c89cb621cd7d1adf9817526edae9bb1"), looks := false }, kinds := [], alts := [], laidByText := true, laidKinds := [.data, .pinned], laidTests := true, laidLooks := .later }
def HistoryTwiceCardSaid : Prop := Claim7.holds Tryz.pinned (.plain (OpenSpec.ofChange historyTwiceSpec)) historyTwiceCard

/-- THE TIED CARD OF 'colanderlaw14.HistoryOwn'. -/
def historyOwnCard : Claim7 := { stood := { row := historyOwnRow, standIns := [], harness := (true, "aa90702b30b33261371a20320b73f1ae4c89cb621cd7d1adf9817526edae9bb1"), looks := false }, kinds := [], alts := [], laidByText := true, laidKinds := [.data, .pinned], laidTests := true, laidLooks := .later }
def HistoryOwnCardSaid : Prop := Claim7.holds Tryz.pinned (.plain (OpenSpec.ofChange historyOwnSpec)) historyOwnCard

/-- THE TIED CARD OF 'colanderlaw14.HistoryBegins'. -/
def historyBeginsCard : Claim7 := { stood := { row := historyBeginsRow, standIns := [], harness := (true, "aa90702b30b33261371a20320b73f1ae4c89cb621cd7d1adf9817526edae9bb1"), looks := false }, kinds := [], alts := [], laidByText := true, laidKinds := [.data, .pinned], laidTests := true, laidLooks := .later }
def HistoryBeginsCardSaid : Prop := Claim7.holds Tryz.pinned (.plain (OpenSpec.ofChange historyBeginsSpec)) historyBeginsCard

/-- THE TIED CARD OF 'colanderlaw14.HistoryApart'. -/
def historyApartCard : Claim7 := { stood := { row := historyApartRow, standIns := [], harness := (true, "aa90702b30b33261371a20320b73f1ae4c89cb621cd7d1adf9817526edae9bb1"), looks := false }, kinds := [], alts := [], laidByText := true, laidKinds := [.data, .pinned], laidTests := true, laidLooks := .later }
def HistoryApartCardSaid : Prop := Claim7.holds Tryz.pinned (.plain (OpenSpec.ofChange historyApartSpec)) historyApartCard

/-- THE SECOND FORM's CARD OF 'colanderlaw14.HistoryRuns'. -/
def historyRunsUptoCard : Claim7 := { stood := { row := historyRunsUptoRow, standIns := [], harness := (true, "aa90702b30b33261371a20320b73f1ae4c89cb621cd7d1adf9817526edae9bb1"), looks := false }, kinds := [], alts := [], laidByText := true, laidKinds := [.data, .pinned], laidTests := true, laidLooks := .later }
def HistoryRunsUptoCardSaid : Prop := Claim7.holds Tryz.pinned (.plain (OpenSpec.upto historyRunsSpec)) historyRunsUptoCard

/-- THE SECOND FORM's CARD OF 'colanderlaw14.HistoryGrows'. -/
def historyGrowsUptoCard : Claim7 := { stood := { row := historyGrowsUptoRow, standIns := [], harness := (true, "aa90702b30b33261371a20320b73f1ae4c89cb621cd7d1adf9817526edae9bb1"), looks := false }, kinds := [], alts := [], laidByText := true, laidKinds := [.data, .pinned], laidTests := true, laidLooks := .later }
def HistoryGrowsUptoCardSaid : Prop := Claim7.holds Tryz.pinned (.plain (OpenSpec.upto historyGrowsSpec)) historyGrowsUptoCard

/-- THE SECOND FORM's CARD OF 'colanderlaw14.HistoryTwice'. -/
def historyTwiceUptoCard : Claim7 := { stood := { row := historyTwiceUptoRow, standIns := [], harness := (true, "aa90702b30b33261371a20320b73f1ae4c89cb621cd7d1adf9817526edae9bb1"), looks := false }, kinds := [], alts := [], laidByText := true, laidKinds := [.data, .pinned], laidTests := true, laidLooks := .later }
def HistoryTwiceUptoCardSaid : Prop := Claim7.holds Tryz.pinned (.plain (OpenSpec.upto historyTwiceSpec)) historyTwiceUptoCard

/-- THE SECOND FORM's CARD OF 'colanderlaw14.HistoryOwn'. -/
def historyOwnUptoCard : Claim7 := { stood := { row := historyOwnUptoRow, standIns := [], harness := (true, "aa90702b30b33261371a20320b73f1ae4c89cb621cd7d1adf9817526edae9bb1"), looks := false }, kinds := [], alts := [], laidByText := true, laidKinds := [.data, .pinned], laidTests := true, laidLooks := .later }
def HistoryOwnUptoCardSaid : Prop := Claim7.holds Tryz.pinned (.plain (OpenSpec.upto historyOwnSpec)) historyOwnUptoCard

/-- THE SECOND FORM's CARD OF 'colanderlaw14.HistoryBegins'. -/
def historyBeginsUptoCard : Claim7 := { stood := { row := historyBeginsUptoRow, standIns := [], harness := (true, "aa90702b30b33261371a20320b73f1ae4c89cb621cd7d1adf9817526edae9bb1"), looks := false }, kinds := [], alts := [], laidByText := true, laidKinds := [.data, .pinned], laidTests := true, laidLooks := .later }
def HistoryBeginsUptoCardSaid : Prop := Claim7.holds Tryz.pinned (.plain (OpenSpec.upto historyBeginsSpec)) historyBeginsUptoCard

/-- THE SECOND FORM's CARD OF 'colanderlaw14.HistoryApart'. -/
def historyApartUptoCard : Claim7 := { stood := { row := historyApartUptoRow, standIns := [], harness := (true, "aa90702b30b33261371a20320b73f1ae4c89cb621cd7d1adf9817526edae9bb1"), looks := false }, kinds := [], alts := [], laidByText := true, laidKinds := [.data, .pinned], laidTests := true, laidLooks := .later }
def HistoryApartUptoCardSaid : Prop := Claim7.holds Tryz.pinned (.plain (OpenSpec.upto historyApartSpec)) historyApartUptoCard
end Rows
end Go.Proofs.YtefgobmpleoafaaGreatDoor
