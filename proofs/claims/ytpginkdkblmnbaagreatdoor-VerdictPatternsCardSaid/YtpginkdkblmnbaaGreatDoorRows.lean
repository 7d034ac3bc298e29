/-
  NARROWER THAN 'FOR EVERY INPUT', by the rows' own cells (each row's printed sentence says how): ShapeTells: laid · VerdictPatterns: laid · VerdictRules: laid · VerdictChanges: laid.
  DERIVED. THE GIVEN ROWS OF THIS SEAT. 4 by the template 'for every input the law returns true; each argument reads behind the call as it read before'; 0 by the template 'total and deterministic' (their statements: YtpginkdkblmnbaaGreatDoorTotals.lean).
  GIVEN WITH THE SEED: the statements are not yours to turn. If you find one false, say at which input.
  Laid BY PROGRAM, IN A SANDBOX (cutbox-rows.mjs): the forced cells as the released guide's own fill.sh prints them over the translation 95bab38502ca045d… (all of the seat's roots in one cut). By AI agents, Wed Nov 11 2026. No macro, syntax, notation, axiom, sorry.
-/
import Derived.Test.YtpginkdkblmnbaaGreatDoorChecked
import GoSem.PinnedTables
import GoSem.Claim
import GoSem.ClaimJoined
import GoSem.ClaimMapViews
import Derived.JoinedTies
import Derived.KernelRfl
namespace Go.Proofs.YtpginkdkblmnbaaGreatDoor
/- THE CELL 'sum', in the pinned program and in every row, IS THE sha256 OF THE DUMP (.gsa) THAT YtpginkdkblmnbaaGreatDoorProg.lean LOADS. Nothing in Lean hashes anything: it is a label: what it is worth is what the hold of that sum in a sandbox is worth. -/
noncomputable def Tryz.pinned : Pinned := { name := "ytpginkdkblmnbaagreatdoor", sum := "95bab38502ca045d0ebe2a3b355b771fbdd80198c26d72418a971d7dcbbf98fd", checked := Tryz.checked }
namespace Rows
def none {H : Type} : Left H := { results := [], args := [] }

/- WHAT THE LISTED PACKAGE-LEVEL VARIABLES READ AS WHEN THE CALL BEGINS. Each datum BY PROGRAM (the guide's laid-datum.mjs) off the statement by which the dump's own 'gosem.cut.vars' lays the variable. In a bare row this is a premise. The card (YtpginkdkblmnbaaGreatDoorCards.lean) ties it to the program's text. -/
def laid_unicode_utf8_acceptRanges {H : Type} : DataW H := .agg [.agg [.lit (.int .u8 128), .lit (.int .u8 191)], .agg [.lit (.int .u8 160), .lit (.int .u8 191)], .agg [.lit (.int .u8 128), .lit (.int .u8 159)], .agg [.lit (.int .u8 144), .lit (.int .u8 191)], .agg [.lit (.int .u8 128), .lit (.int .u8 143)], .agg [.lit (.int .u8 0), .lit (.int .u8 0)], .agg [.lit (.int .u8 0), .lit (.int .u8 0)], .agg [.lit (.int .u8 0), .lit (.int .u8 0)], .agg [.lit (.int .u8 0), .lit (.int .u8 0)], .agg [.lit (.int .u8 0), .lit (.int .u8 0)], .agg [.lit (.int .u8 0), .lit (.int .u8 0)], .agg [.lit (.int .u8 0), .lit (.int .u8 0)], .agg [.lit (.int .u8 0), .lit (.int .u8 0)], .agg [.lit (.int .u8 0), .lit (.int .u8 0)], .agg [.lit (.int .u8 0), .lit (.int .u8 0)], .agg [.lit (.int .u8 0), .lit (.int .u8 0)]]
/-- One of Go's own tables, pinned by name: the form's constant. -/
def laid_unicode_utf8_first : DataW Unit := Go.Pinned.utf8First
def laid_colander_class_lower {H : Type} : DataW H := .agg [.lit (.int .i64 97), .lit (.int .i64 122)]
def laid_colander_class_upper {H : Type} : DataW H := .agg [.lit (.int .i64 65), .lit (.int .i64 90)]

/-- 'colanderlaw04.ShapeTells': WHATEVER THE INPUT: true; the input reads as it did. -/
def shapeTellsSpec : ChangeSpec := { name := "shapeTells", fn := fun _ => fun
  | [d] => { results := [.lit (.bool true)], args := [d] }
  | _ => none }
def shapeTellsRow : OpenClaim := { program := "ytpginkdkblmnbaagreatdoor", sum := "95bab38502ca045d0ebe2a3b355b771fbdd80198c26d72418a971d7dcbbf98fd", func := "colander/colanderlaw04.ShapeTells", spec := "shapeTells", unfollowed := true, recurses := true, named := ["unicode/utf8.first", "unicode/utf8.acceptRanges"], apart := false, laid := [("unicode/utf8.acceptRanges", laid_unicode_utf8_acceptRanges), ("unicode/utf8.first", laid_unicode_utf8_first)] }
def ShapeTellsSaid : Prop := shapeTellsRow.holds Tryz.pinned (OpenSpec.ofChange shapeTellsSpec)

/-- ITS FALSE NEIGHBOUR: 'it returns false'. Refute it at one input. -/
def shapeTellsWrong : ChangeSpec := { name := "shapeTells", fn := fun _ => fun
  | [d] => { results := [.lit (.bool false)], args := [d] }
  | _ => none }
def ShapeTellsWrongFalsely : Prop := shapeTellsRow.holds Tryz.pinned (OpenSpec.ofChange shapeTellsWrong)

/-- 'colanderlaw08.VerdictPatterns': WHATEVER THE INPUT: true; the input reads as it did. -/
def verdictPatternsSpec : ChangeSpec := { name := "verdictPatterns", fn := fun _ => fun
  | [d] => { results := [.lit (.bool true)], args := [d] }
  | _ => none }
def verdictPatternsRow : OpenClaim := { program := "ytpginkdkblmnbaagreatdoor", sum := "95bab38502ca045d0ebe2a3b355b771fbdd80198c26d72418a971d7dcbbf98fd", func := "colander/colanderlaw08.VerdictPatterns", spec := "verdictPatterns", unfollowed := true, recurses := true, named := ["unicode/utf8.first", "unicode/utf8.acceptRanges", "colander/class.lower", "colander/class.upper"], apart := false, laid := [("unicode/utf8.acceptRanges", laid_unicode_utf8_acceptRanges), ("colander/class.lower", laid_colander_class_lower), ("colander/class.upper", laid_colander_class_upper), ("unicode/utf8.first", laid_unicode_utf8_first)] }
def VerdictPatternsSaid : Prop := verdictPatternsRow.holds Tryz.pinned (OpenSpec.ofChange verdictPatternsSpec)

/-- ITS FALSE NEIGHBOUR: 'it returns false'. Refute it at one input. -/
def verdictPatternsWrong : ChangeSpec := { name := "verdictPatterns", fn := fun _ => fun
  | [d] => { results := [.lit (.bool false)], args := [d] }
  | _ => none }
def VerdictPatternsWrongFalsely : Prop := verdictPatternsRow.holds Tryz.pinned (OpenSpec.ofChange verdictPatternsWrong)

/-- 'colanderlaw08.VerdictRules': WHATEVER THE INPUT: true; the input reads as it did. -/
def verdictRulesSpec : ChangeSpec := { name := "verdictRules", fn := fun _ => fun
  | [d] => { results := [.lit (.bool true)], args := [d] }
  | _ => none }
def verdictRulesRow : OpenClaim := { program := "ytpginkdkblmnbaagreatdoor", sum := "95bab38502ca045d0ebe2a3b355b771fbdd80198c26d72418a971d7dcbbf98fd", func := "colander/colanderlaw08.VerdictRules", spec := "verdictRules", unfollowed := true, recurses := true, named := ["unicode/utf8.first", "unicode/utf8.acceptRanges"], apart := false, laid := [("unicode/utf8.acceptRanges", laid_unicode_utf8_acceptRanges), ("unicode/utf8.first", laid_unicode_utf8_first)] }
def VerdictRulesSaid : Prop := verdictRulesRow.holds Tryz.pinned (OpenSpec.ofChange verdictRulesSpec)

/-- ITS FALSE NEIGHBOUR: 'it returns false'. Refute it at one input. -/
def verdictRulesWrong : ChangeSpec := { name := "verdictRules", fn := fun _ => fun
  | [d] => { results := [.lit (.bool false)], args := [d] }
  | _ => none }
def VerdictRulesWrongFalsely : Prop := verdictRulesRow.holds Tryz.pinned (OpenSpec.ofChange verdictRulesWrong)

/-- 'colanderlaw08.VerdictChanges': WHATEVER THE INPUT: true; the input reads as it did. -/
def verdictChangesSpec : ChangeSpec := { name := "verdictChanges", fn := fun _ => fun
  | [d1, d2] => { results := [.lit (.bool true)], args := [d1, d2] }
  | _ => none }
def verdictChangesRow : OpenClaim := { program := "ytpginkdkblmnbaagreatdoor", sum := "95bab38502ca045d0ebe2a3b355b771fbdd80198c26d72418a971d7dcbbf98fd", func := "colander/colanderlaw08.VerdictChanges", spec := "verdictChanges", unfollowed := true, recurses := true, named := ["unicode/utf8.first", "unicode/utf8.acceptRanges"], apart := false, laid := [("unicode/utf8.acceptRanges", laid_unicode_utf8_acceptRanges), ("unicode/utf8.first", laid_unicode_utf8_first)] }
def VerdictChangesSaid : Prop := verdictChangesRow.holds Tryz.pinned (OpenSpec.ofChange verdictChangesSpec)

/-- ITS FALSE NEIGHBOUR: 'it returns false'. Refute it at one input. -/
def verdictChangesWrong : ChangeSpec := { name := "verdictChanges", fn := fun _ => fun
  | [d1, d2] => { results := [.lit (.bool false)], args := [d1, d2] }
  | _ => none }
def VerdictChangesWrongFalsely : Prop := verdictChangesRow.holds Tryz.pinned (OpenSpec.ofChange verdictChangesWrong)

/- THE SECOND FORM. 'bulk': how many values and letters a reading holds, each counted each time it is reached (what is shared counts as often as it is met; a slice's spare places count too). A statement '..UptoSaid' is the law's where the arguments, and the package variables that the reading takes, are together of bulk at most 1048576: NARROWER than '..Said'. Prove '..Said' where nothing that the law and all that it calls make is longer than what came in: it says more and counts as full. Else prove '..UptoSaid'. A law counts once. -/
mutual
def uptoBulk {H : Type} : DataW H → Nat
  | .lit (.string bytes) => bytes.length + 1
  | .lit _ => 1
  | .nil => 1
  | .ptr d => uptoBulk d + 1
  | .slice elems spare => uptoBulkAll elems + uptoBulkAll spare + 1
  | .agg parts => uptoBulkAll parts + 1
  | .iface _ d => uptoBulk d + 1
  | .map entries => uptoBulkEntries entries + 1
  | .held _ => 1
def uptoBulkAll {H : Type} : List (DataW H) → Nat
  | [] => 0
  | d :: r => uptoBulk d + uptoBulkAll r
def uptoBulkEntries {H : Type} : List (Lit × DataW H) → Nat
  | [] => 0
  | x :: r => uptoBulkEntry x + uptoBulkEntries r
def uptoBulkEntry {H : Type} : Lit × DataW H → Nat
  | (.string bytes, d) => bytes.length + uptoBulk d + 1
  | (_, d) => uptoBulk d + 1
 end
def uptoSmall : (H : Type) → List (DataW H) → Bool := fun _ ds => decide (uptoBulkAll ds ≤ 1048576)
def OpenSpec.upto (s : _root_.Go.ChangeSpec) : _root_.Go.OpenSpec := { _root_.Go.OpenSpec.ofChange s with cond := some uptoSmall }

/-- 'colanderlaw04.ShapeTells', WHERE WHAT IT READS IS OF BULK AT MOST 1048576: true; the input reads as it did. -/
def shapeTellsUptoRow : OpenClaim := { program := "ytpginkdkblmnbaagreatdoor", sum := "95bab38502ca045d0ebe2a3b355b771fbdd80198c26d72418a971d7dcbbf98fd", func := "colander/colanderlaw04.ShapeTells", spec := "shapeTells", unfollowed := true, recurses := true, named := ["unicode/utf8.first", "unicode/utf8.acceptRanges"], apart := false, laid := [("unicode/utf8.acceptRanges", laid_unicode_utf8_acceptRanges), ("unicode/utf8.first", laid_unicode_utf8_first)], narrowed := true }
def ShapeTellsUptoSaid : Prop := shapeTellsUptoRow.holds Tryz.pinned (OpenSpec.upto shapeTellsSpec)

/-- 'colanderlaw08.VerdictPatterns', WHERE WHAT IT READS IS OF BULK AT MOST 1048576: true; the input reads as it did. -/
def verdictPatternsUptoRow : OpenClaim := { program := "ytpginkdkblmnbaagreatdoor", sum := "95bab38502ca045d0ebe2a3b355b771fbdd80198c26d72418a971d7dcbbf98fd", func := "colander/colanderlaw08.VerdictPatterns", spec := "verdictPatterns", unfollowed := true, recurses := true, named := ["unicode/utf8.first", "unicode/utf8.acceptRanges", "colander/class.lower", "colander/class.upper"], apart := false, laid := [("unicode/utf8.acceptRanges", laid_unicode_utf8_acceptRanges), ("colander/class.lower", laid_colander_class_lower), ("colander/class.upper", laid_colander_class_upper), ("unicode/utf8.first", laid_unicode_utf8_first)], narrowed := true }
def VerdictPatternsUptoSaid : Prop := verdictPatternsUptoRow.holds Tryz.pinned (OpenSpec.upto verdictPatternsSpec)

/-- 'colanderlaw08.VerdictRules', WHERE WHAT IT READS IS OF BULK AT MOST 1048576: true; the input reads as it did. -/
def verdictRulesUptoRow : OpenClaim := { program := "ytpginkdkblmnbaagreatdoor", sum := "95bab38502ca045d0ebe2a3b355b771fbdd80198c26d72418a971d7dcbbf98fd", func := "colander/colanderlaw08.VerdictRules", spec := "verdictRules", unfollowed := true, recurses := true, named := ["unicode/utf8.first", "unicode/utf8.acceptRanges"], apart := false, laid := [("unicode/utf8.acceptRanges", laid_unicode_utf8_acceptRanges), ("unicode/utf8.first", laid_unicode_utf8_first)], narrowed := true }
def VerdictRulesUptoSaid : Prop := verdictRulesUptoRow.holds Tryz.pinned (OpenSpec.upto verdictRulesSpec)

/-- 'colanderlaw08.VerdictChanges', WHERE WHAT IT READS IS OF BULK AT MOST 1048576: true; the input reads as it did. -/
def verdictChangesUptoRow : OpenClaim := { program := "ytpginkdkblmnbaagreatdoor", sum := "95bab38502ca045d0ebe2a3b355b771fbdd80198c26d72418a971d7dcbbf98fd", func := "colander/colanderlaw08.VerdictChanges", spec := "verdictChanges", unfollowed := true, recurses := true, named := ["unicode/utf8.first", "unicode/utf8.acceptRanges"], apart := false, laid := [("unicode/utf8.acceptRanges", laid_unicode_utf8_acceptRanges), ("unicode/utf8.first", laid_unicode_utf8_first)], narrowed := true }
def VerdictChangesUptoSaid : Prop := verdictChangesUptoRow.holds Tryz.pinned (OpenSpec.upto verdictChangesSpec)

end Rows
end Go.Proofs.YtpginkdkblmnbaaGreatDoor
