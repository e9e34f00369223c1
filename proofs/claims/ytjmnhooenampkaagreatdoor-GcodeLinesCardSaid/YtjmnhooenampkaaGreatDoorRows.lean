/-
  NARROWER THAN 'FOR EVERY INPUT', by the rows' own cells (each row's printed sentence says how): GcodeReads: laid · GcodeLines: laid · GcodeBack: laid.
  DERIVED. THE GIVEN ROWS OF THIS SEAT. 3 by the template 'for every input the law returns true; each argument reads behind the call as it read before'; 0 by the template 'total and deterministic' (their statements: YtjmnhooenampkaaGreatDoorTotals.lean).
  GIVEN WITH THE SEED: the statements are not yours to turn. If you find one false, say at which input.
  Laid BY PROGRAM, IN A SANDBOX (cutbox-rows.mjs): the forced cells as the released guide's own fill.sh prints them over the translation 3d577aa082a67c8f… (all of the seat's roots in one cut). By AI agents, Wed Nov 11 2026. No macro, syntax, notation, axiom, sorry.
-/
import Derived.Test.YtjmnhooenampkaaGreatDoorChecked
import GoSem.PinnedTables
import GoSem.Claim
import GoSem.ClaimJoined
import GoSem.ClaimMapViews
import Derived.JoinedTies
import Derived.KernelRfl
namespace Go.Proofs.YtjmnhooenampkaaGreatDoor
/- THE CELL 'sum', in the pinned program and in every row, IS THE sha256 OF THE DUMP (.gsa) THAT YtjmnhooenampkaaGreatDoorProg.lean LOADS. Nothing in Lean hashes anything: it is a label: what it is worth is what the hold of that sum in a sandbox is worth. -/
noncomputable def Tryz.pinned : Pinned := { name := "ytjmnhooenampkaagreatdoor", sum := "3d577aa082a67c8f731537a9a804930841226841f8523291f6c7d8f3c612f28b", checked := Tryz.checked }
namespace Rows
def none {H : Type} : Left H := { results := [], args := [] }

/- WHAT THE LISTED PACKAGE-LEVEL VARIABLES READ AS WHEN THE CALL BEGINS. Each datum BY PROGRAM (the guide's laid-datum.mjs) off the statement by which the dump's own 'gosem.cut.vars' lays the variable. In a bare row this is a premise. The card (YtjmnhooenampkaaGreatDoorCards.lean) ties it to the program's text. -/
def laid_errors_errorType {H : Type} : DataW H := .iface "internal/reflectlite.rtype" (.agg [.ptr (.lit (.string [101, 114, 114, 111, 114]))])
def laid_astragal_gcode_errShort {H : Type} : DataW H := .iface "*errors.errorString" (.ptr (.agg [.lit (.string [115, 104, 111, 114, 116])]))
def laid_astragal_gcode_errLong {H : Type} : DataW H := .iface "*errors.errorString" (.ptr (.agg [.lit (.string [108, 111, 110, 103])]))
def laid_astragal_gcode_errForm {H : Type} : DataW H := .iface "*errors.errorString" (.ptr (.agg [.lit (.string [102, 111, 114, 109])]))
def laid_astragal_gcode_errKind {H : Type} : DataW H := .iface "*errors.errorString" (.ptr (.agg [.lit (.string [107, 105, 110, 100])]))
def laid_unicode_utf8_acceptRanges {H : Type} : DataW H := .agg [.agg [.lit (.int .u8 128), .lit (.int .u8 191)], .agg [.lit (.int .u8 160), .lit (.int .u8 191)], .agg [.lit (.int .u8 128), .lit (.int .u8 159)], .agg [.lit (.int .u8 144), .lit (.int .u8 191)], .agg [.lit (.int .u8 128), .lit (.int .u8 143)], .agg [.lit (.int .u8 0), .lit (.int .u8 0)], .agg [.lit (.int .u8 0), .lit (.int .u8 0)], .agg [.lit (.int .u8 0), .lit (.int .u8 0)], .agg [.lit (.int .u8 0), .lit (.int .u8 0)], .agg [.lit (.int .u8 0), .lit (.int .u8 0)], .agg [.lit (.int .u8 0), .lit (.int .u8 0)], .agg [.lit (.int .u8 0), .lit (.int .u8 0)], .agg [.lit (.int .u8 0), .lit (.int .u8 0)], .agg [.lit (.int .u8 0), .lit (.int .u8 0)], .agg [.lit (.int .u8 0), .lit (.int .u8 0)], .agg [.lit (.int .u8 0), .lit (.int .u8 0)]]
/-- One of Go's own tables, pinned by name: the form's constant. -/
def laid_unicode_utf8_first : DataW Unit := Go.Pinned.utf8First

/-- 'astragallaw17.GcodeReads': WHATEVER THE INPUT: true; the input reads as it did. -/
def gcodeReadsSpec : ChangeSpec := { name := "gcodeReads", fn := fun _ => fun
  | [d] => { results := [.lit (.bool true)], args := [d] }
  | _ => none }
def gcodeReadsRow : OpenClaim := { program := "ytjmnhooenampkaagreatdoor", sum := "3d577aa082a67c8f731537a9a804930841226841f8523291f6c7d8f3c612f28b", func := "astragal/astragallaw17.GcodeReads", spec := "gcodeReads", inPlace := ["math/bits.Add64", "internal/reflectlite.ValueOf", "(internal/reflectlite.Value).Type", "(internal/reflectlite.Value).IsNil", "internal/reflectlite.TypeOf", "(internal/reflectlite.Value).Elem", "(internal/reflectlite.Value).Set"], unfollowed := true, recurses := true, named := ["astragal/gcode.errShort", "astragal/gcode.errForm", "astragal/gcode.errKind", "astragal/gcode.errLong", "errors.errorType"], apart := false, laid := [("errors.errorType", laid_errors_errorType), ("astragal/gcode.errShort", laid_astragal_gcode_errShort), ("astragal/gcode.errLong", laid_astragal_gcode_errLong), ("astragal/gcode.errForm", laid_astragal_gcode_errForm), ("astragal/gcode.errKind", laid_astragal_gcode_errKind)] }
def GcodeReadsSaid : Prop := gcodeReadsRow.holds Tryz.pinned (OpenSpec.ofChange gcodeReadsSpec)

/-- ITS FALSE NEIGHBOUR: 'it returns false'. Refute it at one input. -/
def gcodeReadsWrong : ChangeSpec := { name := "gcodeReads", fn := fun _ => fun
  | [d] => { results := [.lit (.bool false)], args := [d] }
  | _ => none }
def GcodeReadsWrongFalsely : Prop := gcodeReadsRow.holds Tryz.pinned (OpenSpec.ofChange gcodeReadsWrong)

/-- 'astragallaw17.GcodeLines': WHATEVER THE INPUT: true; the input reads as it did. -/
def gcodeLinesSpec : ChangeSpec := { name := "gcodeLines", fn := fun _ => fun
  | [d] => { results := [.lit (.bool true)], args := [d] }
  | _ => none }
def gcodeLinesRow : OpenClaim := { program := "ytjmnhooenampkaagreatdoor", sum := "3d577aa082a67c8f731537a9a804930841226841f8523291f6c7d8f3c612f28b", func := "astragal/astragallaw17.GcodeLines", spec := "gcodeLines", inPlace := ["math/bits.Add64", "internal/bytealg.CountString", "internal/bytealg.IndexByteString", "internal/bytealg.IndexString", "internal/reflectlite.ValueOf", "(internal/reflectlite.Value).Type", "(internal/reflectlite.Value).IsNil", "internal/reflectlite.TypeOf", "(internal/reflectlite.Value).Elem", "(internal/reflectlite.Value).Set"], unfollowed := true, recurses := true, named := ["astragal/gcode.errShort", "astragal/gcode.errForm", "unicode/utf8.first", "unicode/utf8.acceptRanges", "internal/bytealg.MaxLen", "astragal/gcode.errKind", "astragal/gcode.errLong", "errors.errorType"], apart := false, laid := [("unicode/utf8.acceptRanges", laid_unicode_utf8_acceptRanges), ("errors.errorType", laid_errors_errorType), ("astragal/gcode.errShort", laid_astragal_gcode_errShort), ("astragal/gcode.errLong", laid_astragal_gcode_errLong), ("astragal/gcode.errForm", laid_astragal_gcode_errForm), ("astragal/gcode.errKind", laid_astragal_gcode_errKind), ("unicode/utf8.first", laid_unicode_utf8_first)] }
def GcodeLinesSaid : Prop := gcodeLinesRow.holds Tryz.pinned (OpenSpec.ofChange gcodeLinesSpec)

/-- ITS FALSE NEIGHBOUR: 'it returns false'. Refute it at one input. -/
def gcodeLinesWrong : ChangeSpec := { name := "gcodeLines", fn := fun _ => fun
  | [d] => { results := [.lit (.bool false)], args := [d] }
  | _ => none }
def GcodeLinesWrongFalsely : Prop := gcodeLinesRow.holds Tryz.pinned (OpenSpec.ofChange gcodeLinesWrong)

/-- 'astragallaw17.GcodeBack': WHATEVER THE INPUT: true; the input reads as it did. -/
def gcodeBackSpec : ChangeSpec := { name := "gcodeBack", fn := fun _ => fun
  | [d] => { results := [.lit (.bool true)], args := [d] }
  | _ => none }
def gcodeBackRow : OpenClaim := { program := "ytjmnhooenampkaagreatdoor", sum := "3d577aa082a67c8f731537a9a804930841226841f8523291f6c7d8f3c612f28b", func := "astragal/astragallaw17.GcodeBack", spec := "gcodeBack", inPlace := ["math/bits.Add64", "internal/reflectlite.ValueOf", "(internal/reflectlite.Value).Type", "(internal/reflectlite.Value).IsNil", "internal/reflectlite.TypeOf", "(internal/reflectlite.Value).Elem", "(internal/reflectlite.Value).Set", "internal/bytealg.CountString", "internal/bytealg.IndexByteString", "internal/bytealg.IndexString"], unfollowed := true, recurses := true, named := ["astragal/gcode.errShort", "astragal/gcode.errForm", "astragal/gcode.errKind", "astragal/gcode.errLong", "errors.errorType", "unicode/utf8.first", "unicode/utf8.acceptRanges", "internal/bytealg.MaxLen"], apart := false, laid := [("unicode/utf8.acceptRanges", laid_unicode_utf8_acceptRanges), ("errors.errorType", laid_errors_errorType), ("astragal/gcode.errShort", laid_astragal_gcode_errShort), ("astragal/gcode.errLong", laid_astragal_gcode_errLong), ("astragal/gcode.errForm", laid_astragal_gcode_errForm), ("astragal/gcode.errKind", laid_astragal_gcode_errKind), ("unicode/utf8.first", laid_unicode_utf8_first)] }
def GcodeBackSaid : Prop := gcodeBackRow.holds Tryz.pinned (OpenSpec.ofChange gcodeBackSpec)

/-- ITS FALSE NEIGHBOUR: 'it returns false'. Refute it at one input. -/
def gcodeBackWrong : ChangeSpec := { name := "gcodeBack", fn := fun _ => fun
  | [d] => { results := [.lit (.bool false)], args := [d] }
  | _ => none }
def GcodeBackWrongFalsely : Prop := gcodeBackRow.holds Tryz.pinned (OpenSpec.ofChange gcodeBackWrong)

/- THE SECOND FORM. 'bulk': how many values and letters a reading holds, each counted each time it is reached (what is shared counts as often as it is met; a slice's spare places count too). A statement '..UptoSaid' is the law's where the arguments, and the package variables that the reading takes, are together of bulk at most 1048576: NARROWER than '..Said'. Prove '..Said' where nothing that the law and all that it calls make is longer than what came in: it says more and counts as full. Else prove '..UptoSaid'. A law counts once. -/
mutual
def uptoBulk {H : Type} : DataW H → Nat
  | .lit (.string bytes) => bytes.length + 1
  | .lit _ => 1
  | .nil => 1
  | .ptr d => uptoBulk d + 1
  | .slice elems spare => uptoBulkAll elems + uptoBulkAll spare + 1
  | .agg parts => uptoBulkAll parts + 1
  | .iface _ d => uptoBulk d + 1
  | .map entries => uptoBulkEntries entries + 1
  | .held _ => 1
def uptoBulkAll {H : Type} : List (DataW H) → Nat
  | [] => 0
  | d :: r => uptoBulk d + uptoBulkAll r
def uptoBulkEntries {H : Type} : List (Lit × DataW H) → Nat
  | [] => 0
  | x :: r => uptoBulkEntry x + uptoBulkEntries r
def uptoBulkEntry {H : Type} : Lit × DataW H → Nat
  | (.string bytes, d) => bytes.length + uptoBulk d + 1
  | (_, d) => uptoBulk d + 1
 end
def uptoSmall : (H : Type) → List (DataW H) → Bool := fun _ ds => decide (uptoBulkAll ds ≤ 1048576)
def OpenSpec.upto (s : _root_.Go.ChangeSpec) : _root_.Go.OpenSpec := { _root_.Go.OpenSpec.ofChange s with cond := some uptoSmall }

/-- 'astragallaw17.GcodeReads', WHERE WHAT IT READS IS OF BULK AT MOST 1048576: true; the input reads as it did. -/
def gcodeReadsUptoRow : OpenClaim := { program := "ytjmnhooenampkaagreatdoor", sum := "3d577aa082a67c8f731537a9a804930841226841f8523291f6c7d8f3c612f28b", func := "astragal/astragallaw17.GcodeReads", spec := "gcodeReads", inPlace := ["math/bits.Add64", "internal/reflectlite.ValueOf", "(internal/reflectlite.Value).Type", "(internal/reflectlite.Value).IsNil", "internal/reflectlite.TypeOf", "(internal/reflectlite.Value).Elem", "(internal/reflectlite.Value).Set"], unfollowed := true, recurses := true, named := ["astragal/gcode.errShort", "astragal/gcode.errForm", "astragal/gcode.errKind", "astragal/gcode.errLong", "errors.errorType"], apart := false, laid := [("errors.errorType", laid_errors_errorType), ("astragal/gcode.errShort", laid_astragal_gcode_errShort), ("astragal/gcode.errLong", laid_astragal_gcode_errLong), ("astragal/gcode.errForm", laid_astragal_gcode_errForm), ("astragal/gcode.errKind", laid_astragal_gcode_errKind)], narrowed := true }
def GcodeReadsUptoSaid : Prop := gcodeReadsUptoRow.holds Tryz.pinned (OpenSpec.upto gcodeReadsSpec)

/-- 'astragallaw17.GcodeLines', WHERE WHAT IT READS IS OF BULK AT MOST 1048576: true; the input reads as it did. -/
def gcodeLinesUptoRow : OpenClaim := { program := "ytjmnhooenampkaagreatdoor", sum := "3d577aa082a67c8f731537a9a804930841226841f8523291f6c7d8f3c612f28b", func := "astragal/astragallaw17.GcodeLines", spec := "gcodeLines", inPlace := ["math/bits.Add64", "internal/bytealg.CountString", "internal/bytealg.IndexByteString", "internal/bytealg.IndexString", "internal/reflectlite.ValueOf", "(internal/reflectlite.Value).Type", "(internal/reflectlite.Value).IsNil", "internal/reflectlite.TypeOf", "(internal/reflectlite.Value).Elem", "(internal/reflectlite.Value).Set"], unfollowed := true, recurses := true, named := ["astragal/gcode.errShort", "astragal/gcode.errForm", "unicode/utf8.first", "unicode/utf8.acceptRanges", "internal/bytealg.MaxLen", "astragal/gcode.errKind", "astragal/gcode.errLong", "errors.errorType"], apart := false, laid := [("unicode/utf8.acceptRanges", laid_unicode_utf8_acceptRanges), ("errors.errorType", laid_errors_errorType), ("astragal/gcode.errShort", laid_astragal_gcode_errShort), ("astragal/gcode.errLong", laid_astragal_gcode_errLong), ("astragal/gcode.errForm", laid_astragal_gcode_errForm), ("astragal/gcode.errKind", laid_astragal_gcode_errKind), ("unicode/utf8.first", laid_unicode_utf8_first)], narrowed := true }
def GcodeLinesUptoSaid : Prop := gcodeLinesUptoRow.holds Tryz.pinned (OpenSpec.upto gcodeLinesSpec)

/-- 'astragallaw17.GcodeBack', WHERE WHAT IT READS IS OF BULK AT MOST 1048576: true; the input reads as it did. -/
def gcodeBackUptoRow : OpenClaim := { program := "ytjmnhooenampkaagreatdoor", sum := "3d577aa082a67c8f731537a9a804930841226841f8523291f6c7d8f3c612f28b", func := "astragal/astragallaw17.GcodeBack", spec := "gcodeBack", inPlace := ["math/bits.Add64", "internal/reflectlite.ValueOf", "(internal/reflectlite.Value).Type", "(internal/reflectlite.Value).IsNil", "internal/reflectlite.TypeOf", "(internal/reflectlite.Value).Elem", "(internal/reflectlite.Value).Set", "internal/bytealg.CountString", "internal/bytealg.IndexByteString", "internal/bytealg.IndexString"], unfollowed := true, recurses := true, named := ["astragal/gcode.errShort", "astragal/gcode.errForm", "astragal/gcode.errKind", "astragal/gcode.errLong", "errors.errorType", "unicode/utf8.first", "unicode/utf8.acceptRanges", "internal/bytealg.MaxLen"], apart := false, laid := [("unicode/utf8.acceptRanges", laid_unicode_utf8_acceptRanges), ("errors.errorType", laid_errors_errorType), ("astragal/gcode.errShort", laid_astragal_gcode_errShort), ("astragal/gcode.errLong", laid_astragal_gcode_errLong), ("astragal/gcode.errForm", laid_astragal_gcode_errForm), ("astragal/gcode.errKind", laid_astragal_gcode_errKind), ("unicode/utf8.first", laid_unicode_utf8_first)], narrowed := true }
def GcodeBackUptoSaid : Prop := gcodeBackUptoRow.holds Tryz.pinned (OpenSpec.upto gcodeBackSpec)

end Rows
end Go.Proofs.YtjmnhooenampkaaGreatDoor
