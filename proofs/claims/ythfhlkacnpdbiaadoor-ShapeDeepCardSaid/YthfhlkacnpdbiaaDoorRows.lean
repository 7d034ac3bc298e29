/-
  NARROWER THAN 'FOR EVERY INPUT', by the rows' own cells (each row's printed sentence says how): ShapeOrders: laid · ShapeRows: laid · ShapeBehind: laid · ShapeDeep: laid · ShapeAlts: laid · ShapeFree: laid.
  DERIVED. THE GIVEN ROWS OF THIS SEAT. 6 by the template 'for every input the law returns true; each argument reads behind the call as it read before'; 0 by the template 'total and deterministic' (their statements: YthfhlkacnpdbiaaDoorTotals.lean).
  GIVEN WITH THE SEED: the statements are not yours to turn. If you find one false, say at which input.
  Laid BY PROGRAM, IN A SANDBOX (cutbox-rows.mjs): the forced cells as the released guide's own fill.sh prints them over the translation b2f05cdae8605cee… (all of the seat's roots in one cut). By AI agents, Wed Nov 11 2026. No macro, syntax, notation, axiom, sorry.
-/
import Derived.Test.YthfhlkacnpdbiaaDoorChecked
import GoSem.PinnedTables
import GoSem.Claim
import GoSem.ClaimJoined
import GoSem.ClaimMapViews
import Derived.JoinedTies
import Derived.KernelRfl
namespace Go.Proofs.YthfhlkacnpdbiaaDoor
/- THE CELL 'sum', in the pinned program and in every row, IS THE sha256 OF THE DUMP (.gsa) THAT YthfhlkacnpdbiaaDoorProg.lean LOADS. Nothing in Lean hashes anything: it is a label: what it is worth is what the hold of that sum in a sandbox is worth. -/
noncomputable def Tryd.pinned : Pinned := { name := "ythfhlkacnpdbiaadoor", sum := "b2f05cdae8605cee045ff64c63966c6296b92228d88093ecf661a4fc1f767e96", checked := Tryd.checked }
namespace Rows
def none {H : Type} : Left H := { results := [], args := [] }

/- WHAT THE LISTED PACKAGE-LEVEL VARIABLES READ AS WHEN THE CALL BEGINS. Each datum BY PROGRAM (the guide's laid-datum.mjs) off the statement by which the dump's own 'gosem.cut.vars' lays the variable. In a bare row this is a premise. The card (YthfhlkacnpdbiaaDoorCards.lean) ties it to the program's text. -/
def laid_unicode_utf8_acceptRanges {H : Type} : DataW H := .agg [.agg [.lit (.int .u8 128), .lit (.int .u8 191)], .agg [.lit (.int .u8 160), .lit (.int .u8 191)], .agg [.lit (.int .u8 128), .lit (.int .u8 159)], .agg [.lit (.int .u8 144), .lit (.int .u8 191)], .agg [.lit (.int .u8 128), .lit (.int .u8 143)], .agg [.lit (.int .u8 0), .lit (.int .u8 0)], .agg [.lit (.int .u8 0), .lit (.int .u8 0)], .agg [.lit (.int .u8 0), .lit (.int .u8 0)], .agg [.lit (.int .u8 0), .lit (.int .u8 0)], .agg [.lit (.int .u8 0), .lit (.int .u8 0)], .agg [.lit (.int .u8 0), .lit (.int .u8 0)], .agg [.lit (.int .u8 0), .lit (.int .u8 0)], .agg [.lit (.int .u8 0), .lit (.int .u8 0)], .agg [.lit (.int .u8 0), .lit (.int .u8 0)], .agg [.lit (.int .u8 0), .lit (.int .u8 0)], .agg [.lit (.int .u8 0), .lit (.int .u8 0)]]
/-- One of Go's own tables, pinned by name: the form's constant. -/
def laid_unicode_utf8_first : DataW Unit := Go.Pinned.utf8First

/-- 'colanderlaw04.ShapeOrders': WHATEVER THE INPUT: true; the input reads as it did. -/
def shapeOrdersSpec : ChangeSpec := { name := "shapeOrders", fn := fun _ => fun
  | [d] => { results := [.lit (.bool true)], args := [d] }
  | _ => none }
def shapeOrdersRow : OpenClaim := { program := "ythfhlkacnpdbiaadoor", sum := "b2f05cdae8605cee045ff64c63966c6296b92228d88093ecf661a4fc1f767e96", func := "colander/colanderlaw04.ShapeOrders", spec := "shapeOrders", unfollowed := true, recurses := true, named := ["unicode/utf8.first", "unicode/utf8.acceptRanges"], apart := false, laid := [("unicode/utf8.acceptRanges", laid_unicode_utf8_acceptRanges), ("unicode/utf8.first", laid_unicode_utf8_first)] }
def ShapeOrdersSaid : Prop := shapeOrdersRow.holds Tryd.pinned (OpenSpec.ofChange shapeOrdersSpec)

/-- ITS FALSE NEIGHBOUR: 'it returns false'. Refute it at one input. -/
def shapeOrdersWrong : ChangeSpec := { name := "shapeOrders", fn := fun _ => fun
  | [d] => { results := [.lit (.bool false)], args := [d] }
  | _ => none }
def ShapeOrdersWrongFalsely : Prop := shapeOrdersRow.holds Tryd.pinned (OpenSpec.ofChange shapeOrdersWrong)

/-- 'colanderlaw04.ShapeRows': WHATEVER THE INPUT: true; the input reads as it did. -/
def shapeRowsSpec : ChangeSpec := { name := "shapeRows", fn := fun _ => fun
  | [d1, d2] => { results := [.lit (.bool true)], args := [d1, d2] }
  | _ => none }
def shapeRowsRow : OpenClaim := { program := "ythfhlkacnpdbiaadoor", sum := "b2f05cdae8605cee045ff64c63966c6296b92228d88093ecf661a4fc1f767e96", func := "colander/colanderlaw04.ShapeRows", spec := "shapeRows", unfollowed := true, recurses := true, named := ["unicode/utf8.first", "unicode/utf8.acceptRanges"], apart := false, laid := [("unicode/utf8.acceptRanges", laid_unicode_utf8_acceptRanges), ("unicode/utf8.first", laid_unicode_utf8_first)] }
def ShapeRowsSaid : Prop := shapeRowsRow.holds Tryd.pinned (OpenSpec.ofChange shapeRowsSpec)

/-- ITS FALSE NEIGHBOUR: 'it returns false'. Refute it at one input. -/
def shapeRowsWrong : ChangeSpec := { name := "shapeRows", fn := fun _ => fun
  | [d1, d2] => { results := [.lit (.bool false)], args := [d1, d2] }
  | _ => none }
def ShapeRowsWrongFalsely : Prop := shapeRowsRow.holds Tryd.pinned (OpenSpec.ofChange shapeRowsWrong)

/-- 'colanderlaw04.ShapeBehind': WHATEVER THE INPUT: true; the input reads as it did. -/
def shapeBehindSpec : ChangeSpec := { name := "shapeBehind", fn := fun _ => fun
  | [d1, d2] => { results := [.lit (.bool true)], args := [d1, d2] }
  | _ => none }
def shapeBehindRow : OpenClaim := { program := "ythfhlkacnpdbiaadoor", sum := "b2f05cdae8605cee045ff64c63966c6296b92228d88093ecf661a4fc1f767e96", func := "colander/colanderlaw04.ShapeBehind", spec := "shapeBehind", unfollowed := true, recurses := true, named := ["unicode/utf8.first", "unicode/utf8.acceptRanges"], apart := false, laid := [("unicode/utf8.acceptRanges", laid_unicode_utf8_acceptRanges), ("unicode/utf8.first", laid_unicode_utf8_first)] }
def ShapeBehindSaid : Prop := shapeBehindRow.holds Tryd.pinned (OpenSpec.ofChange shapeBehindSpec)

/-- ITS FALSE NEIGHBOUR: 'it returns false'. Refute it at one input. -/
def shapeBehindWrong : ChangeSpec := { name := "shapeBehind", fn := fun _ => fun
  | [d1, d2] => { results := [.lit (.bool false)], args := [d1, d2] }
  | _ => none }
def ShapeBehindWrongFalsely : Prop := shapeBehindRow.holds Tryd.pinned (OpenSpec.ofChange shapeBehindWrong)

/-- 'colanderlaw04.ShapeDeep': WHATEVER THE INPUT: true; the input reads as it did. -/
def shapeDeepSpec : ChangeSpec := { name := "shapeDeep", fn := fun _ => fun
  | [d] => { results := [.lit (.bool true)], args := [d] }
  | _ => none }
def shapeDeepRow : OpenClaim := { program := "ythfhlkacnpdbiaadoor", sum := "b2f05cdae8605cee045ff64c63966c6296b92228d88093ecf661a4fc1f767e96", func := "colander/colanderlaw04.ShapeDeep", spec := "shapeDeep", unfollowed := true, recurses := true, named := ["unicode/utf8.first", "unicode/utf8.acceptRanges"], apart := false, laid := [("unicode/utf8.acceptRanges", laid_unicode_utf8_acceptRanges), ("unicode/utf8.first", laid_unicode_utf8_first)] }
def ShapeDeepSaid : Prop := shapeDeepRow.holds Tryd.pinned (OpenSpec.ofChange shapeDeepSpec)

/-- ITS FALSE NEIGHBOUR: 'it returns false'. Refute it at one input. -/
def shapeDeepWrong : ChangeSpec := { name := "shapeDeep", fn := fun _ => fun
  | [d] => { results := [.lit (.bool false)], args := [d] }
  | _ => none }
def ShapeDeepWrongFalsely : Prop := shapeDeepRow.holds Tryd.pinned (OpenSpec.ofChange shapeDeepWrong)

/-- 'colanderlaw04.ShapeAlts': WHATEVER THE INPUT: true; the input reads as it did. -/
def shapeAltsSpec : ChangeSpec := { name := "shapeAlts", fn := fun _ => fun
  | [d1, d2] => { results := [.lit (.bool true)], args := [d1, d2] }
  | _ => none }
def shapeAltsRow : OpenClaim := { program := "ythfhlkacnpdbiaadoor", sum := "b2f05cdae8605cee045ff64c63966c6296b92228d88093ecf661a4fc1f767e96", func := "colander/colanderlaw04.ShapeAlts", spec := "shapeAlts", unfollowed := true, recurses := true, named := ["unicode/utf8.first", "unicode/utf8.acceptRanges"], apart := false, laid := [("unicode/utf8.acceptRanges", laid_unicode_utf8_acceptRanges), ("unicode/utf8.first", laid_unicode_utf8_first)] }
def ShapeAltsSaid : Prop := shapeAltsRow.holds Tryd.pinned (OpenSpec.ofChange shapeAltsSpec)

/-- ITS FALSE NEIGHBOUR: 'it returns false'. Refute it at one input. -/
def shapeAltsWrong : ChangeSpec := { name := "shapeAlts", fn := fun _ => fun
  | [d1, d2] => { results := [.lit (.bool false)], args := [d1, d2] }
  | _ => none }
def ShapeAltsWrongFalsely : Prop := shapeAltsRow.holds Tryd.pinned (OpenSpec.ofChange shapeAltsWrong)

/-- 'colanderlaw04.ShapeFree': WHATEVER THE INPUT: true; the input reads as it did. -/
def shapeFreeSpec : ChangeSpec := { name := "shapeFree", fn := fun _ => fun
  | [d1, d2] => { results := [.lit (.bool true)], args := [d1, d2] }
  | _ => none }
def shapeFreeRow : OpenClaim := { program := "ythfhlkacnpdbiaadoor", sum := "b2f05cdae8605cee045ff64c63966c6296b92228d88093ecf661a4fc1f767e96", func := "colander/colanderlaw04.ShapeFree", spec := "shapeFree", unfollowed := true, recurses := true, named := ["unicode/utf8.first", "unicode/utf8.acceptRanges"], apart := false, laid := [("unicode/utf8.acceptRanges", laid_unicode_utf8_acceptRanges), ("unicode/utf8.first", laid_unicode_utf8_first)] }
def ShapeFreeSaid : Prop := shapeFreeRow.holds Tryd.pinned (OpenSpec.ofChange shapeFreeSpec)

/-- ITS FALSE NEIGHBOUR: 'it returns false'. Refute it at one input. -/
def shapeFreeWrong : ChangeSpec := { name := "shapeFree", fn := fun _ => fun
  | [d1, d2] => { results := [.lit (.bool false)], args := [d1, d2] }
  | _ => none }
def ShapeFreeWrongFalsely : Prop := shapeFreeRow.holds Tryd.pinned (OpenSpec.ofChange shapeFreeWrong)

/- THE SECOND FORM. 'bulk': how many values and letters a reading holds, each counted each time it is reached (what is shared counts as often as it is met; a slice's spare places count too). A statement '..UptoSaid' is the law's where the arguments, and the package variables that the reading takes, are together of bulk at most 1048576: NARROWER than '..Said'. Prove '..Said' where nothing that the law and all that it calls make is longer than what came in: it says more and counts as full. Else prove '..UptoSaid'. A law counts once. -/
mutual
def uptoBulk {H : Type} : DataW H → Nat
  | .lit (.string bytes) => bytes.length + 1
  | .lit _ => 1
  | .nil => 1
  | .ptr d => uptoBulk d + 1
  | .slice elems spare => uptoBulkAll elems + uptoBulkAll spare + 1
  | .agg parts => uptoBulkAll parts + 1
  | .iface _ d => uptoBulk d + 1
  | .map entries => uptoBulkEntries entries + 1
  | .held _ => 1
def uptoBulkAll {H : Type} : List (DataW H) → Nat
  | [] => 0
  | d :: r => uptoBulk d + uptoBulkAll r
def uptoBulkEntries {H : Type} : List (Lit × DataW H) → Nat
  | [] => 0
  | x :: r => uptoBulkEntry x + uptoBulkEntries r
def uptoBulkEntry {H : Type} : Lit × DataW H → Nat
  | (.string bytes, d) => bytes.length + uptoBulk d + 1
  | (_, d) => uptoBulk d + 1
 end
def uptoSmall : (H : Type) → List (DataW H) → Bool := fun _ ds => decide (uptoBulkAll ds ≤ 1048576)
def OpenSpec.upto (s : _root_.Go.ChangeSpec) : _root_.Go.OpenSpec := { _root_.Go.OpenSpec.ofChange s with cond := some uptoSmall }

/-- 'colanderlaw04.ShapeOrders', WHERE WHAT IT READS IS OF BULK AT MOST 1048576: true; the input reads as it did. -/
def shapeOrdersUptoRow : OpenClaim := { program := "ythfhlkacnpdbiaadoor", sum := "b2f05cdae8605cee045ff64c63966c6296b92228d88093ecf661a4fc1f767e96", func := "colander/colanderlaw04.ShapeOrders", spec := "shapeOrders", unfollowed := true, recurses := true, named := ["unicode/utf8.first", "unicode/utf8.acceptRanges"], apart := false, laid := [("unicode/utf8.acceptRanges", laid_unicode_utf8_acceptRanges), ("unicode/utf8.first", laid_unicode_utf8_first)], narrowed := true }
def ShapeOrdersUptoSaid : Prop := shapeOrdersUptoRow.holds Tryd.pinned (OpenSpec.upto shapeOrdersSpec)

/-- 'colanderlaw04.ShapeRows', WHERE WHAT IT READS IS OF BULK AT MOST 1048576: true; the input reads as it did. -/
def shapeRowsUptoRow : OpenClaim := { program := "ythfhlkacnpdbiaadoor", sum := "b2f05cdae8605cee045ff64c63966c6296b92228d88093ecf661a4fc1f767e96", func := "colander/colanderlaw04.ShapeRows", spec := "shapeRows", unfollowed := true, recurses := true, named := ["unicode/utf8.first", "unicode/utf8.acceptRanges"], apart := false, laid := [("unicode/utf8.acceptRanges", laid_unicode_utf8_acceptRanges), ("unicode/utf8.first", laid_unicode_utf8_first)], narrowed := true }
def ShapeRowsUptoSaid : Prop := shapeRowsUptoRow.holds Tryd.pinned (OpenSpec.upto shapeRowsSpec)

/-- 'colanderlaw04.ShapeBehind', WHERE WHAT IT READS IS OF BULK AT MOST 1048576: true; the input reads as it did. -/
def shapeBehindUptoRow : OpenClaim := { program := "ythfhlkacnpdbiaadoor", sum := "b2f05cdae8605cee045ff64c63966c6296b92228d88093ecf661a4fc1f767e96", func := "colander/colanderlaw04.ShapeBehind", spec := "shapeBehind", unfollowed := true, recurses := true, named := ["unicode/utf8.first", "unicode/utf8.acceptRanges"], apart := false, laid := [("unicode/utf8.acceptRanges", laid_unicode_utf8_acceptRanges), ("unicode/utf8.first", laid_unicode_utf8_first)], narrowed := true }
def ShapeBehindUptoSaid : Prop := shapeBehindUptoRow.holds Tryd.pinned (OpenSpec.upto shapeBehindSpec)

/-- 'colanderlaw04.ShapeDeep', WHERE WHAT IT READS IS OF BULK AT MOST 1048576: true; the input reads as it did. -/
def shapeDeepUptoRow : OpenClaim := { program := "ythfhlkacnpdbiaadoor", sum := "b2f05cdae8605cee045ff64c63966c6296b92228d88093ecf661a4fc1f767e96", func := "colander/colanderlaw04.ShapeDeep", spec := "shapeDeep", unfollowed := true, recurses := true, named := ["unicode/utf8.first", "unicode/utf8.acceptRanges"], apart := false, laid := [("unicode/utf8.acceptRanges", laid_unicode_utf8_acceptRanges), ("unicode/utf8.first", laid_unicode_utf8_first)], narrowed := true }
def ShapeDeepUptoSaid : Prop := shapeDeepUptoRow.holds Tryd.pinned (OpenSpec.upto shapeDeepSpec)

/-- 'colanderlaw04.ShapeAlts', WHERE WHAT IT READS IS OF BULK AT MOST 1048576: true; the input reads as it did. -/
def shapeAltsUptoRow : OpenClaim := { program := "ythfhlkacnpdbiaadoor", sum := "b2f05cdae8605cee045ff64c63966c6296b92228d88093ecf661a4fc1f767e96", func := "colander/colanderlaw04.ShapeAlts", spec := "shapeAlts", unfollowed := true, recurses := true, named := ["unicode/utf8.first", "unicode/utf8.acceptRanges"], apart := false, laid := [("unicode/utf8.acceptRanges", laid_unicode_utf8_acceptRanges), ("unicode/utf8.first", laid_unicode_utf8_first)], narrowed := true }
def ShapeAltsUptoSaid : Prop := shapeAltsUptoRow.holds Tryd.pinned (OpenSpec.upto shapeAltsSpec)

/-- 'colanderlaw04.ShapeFree', WHERE WHAT IT READS IS OF BULK AT MOST 1048576: true; the input reads as it did. -/
def shapeFreeUptoRow : OpenClaim := { program := "ythfhlkacnpdbiaadoor", sum := "b2f05cdae8605cee045ff64c63966c6296b92228d88093ecf661a4fc1f767e96", func := "colander/colanderlaw04.ShapeFree", spec := "shapeFree", unfollowed := true, recurses := true, named := ["unicode/utf8.first", "unicode/utf8.acceptRanges"], apart := false, laid := [("unicode/utf8.acceptRanges", laid_unicode_utf8_acceptRanges), ("unicode/utf8.first", laid_unicode_utf8_first)], narrowed := true }
def ShapeFreeUptoSaid : Prop := shapeFreeUptoRow.holds Tryd.pinned (OpenSpec.upto shapeFreeSpec)

end Rows
end Go.Proofs.YthfhlkacnpdbiaaDoor
