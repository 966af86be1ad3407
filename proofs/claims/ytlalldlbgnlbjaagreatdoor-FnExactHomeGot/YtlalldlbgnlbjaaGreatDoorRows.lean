/-
  NARROWER THAN 'FOR EVERY INPUT', by the rows' own cells (each row's printed sentence says how): FnExactHomeGot: ifaces, laid · FnHomeGot: ifaces, laid.
  DERIVED. THE GIVEN ROWS OF THIS SEAT. 2 by the template 'for every input the law returns true; each argument reads behind the call as it read before'; 0 by the template 'total and deterministic' (their statements: YtlalldlbgnlbjaaGreatDoorTotals.lean).
  GIVEN WITH THE SEED: the statements are not yours to turn. If you find one false, say at which input.
  Laid BY PROGRAM, IN A SANDBOX (cutbox-rows.mjs): the forced cells as the released guide's own fill.sh prints them over the translation 43797d195f2231fc… (all of the seat's roots in one cut). By AI agents, Wed Nov 11 2026. No macro, syntax, notation, axiom, sorry.
-/
import Derived.Test.YtlalldlbgnlbjaaGreatDoorChecked
import GoSem.Claim
import GoSem.ClaimJoined
import GoSem.ClaimMapViews
import Derived.JoinedTies
import Derived.KernelRfl
namespace Go.Proofs.YtlalldlbgnlbjaaGreatDoor
/- THE CELL 'sum', in the pinned program and in every row, IS THE sha256 OF THE DUMP (.gsa) THAT YtlalldlbgnlbjaaGreatDoorProg.lean LOADS. Nothing in Lean hashes anything: it is a label: what it is worth is what the hold of that sum in a sandbox is worth. -/
noncomputable def Tryz.pinned : Pinned := { name := "ytlalldlbgnlbjaagreatdoor", sum := "43797d195f2231fc85ea737e9025189926439c1574279cd313d8183c3d16abe6", checked := Tryz.checked }
namespace Rows
def none {H : Type} : Left H := { results := [], args := [] }

/- WHAT THE LISTED PACKAGE-LEVEL VARIABLES READ AS WHEN THE CALL BEGINS. Each datum BY PROGRAM (the guide's laid-datum.mjs) off the statement by which the dump's own 'gosem.cut.vars' lays the variable. In a bare row this is a premise. The card (YtlalldlbgnlbjaaGreatDoorCards.lean) ties it to the program's text. -/
def laid_errors_errorType {H : Type} : DataW H := .iface "internal/reflectlite.rtype" (.agg [.ptr (.lit (.string [101, 114, 114, 111, 114]))])
def laid_loop_example_g00384_impl_msgShapes {H : Type} : DataW H := .agg [.agg [.lit (.string []), .lit (.bool false), .lit (.bool false), .lit (.bool false)], .agg [.lit (.string [114, 101, 97, 100]), .lit (.bool true), .lit (.bool false), .lit (.bool false)], .agg [.lit (.string [119, 114, 105, 116, 101]), .lit (.bool true), .lit (.bool false), .lit (.bool false)], .agg [.lit (.string [112, 117, 116]), .lit (.bool true), .lit (.bool false), .lit (.bool true)], .agg [.lit (.string [105, 110, 118]), .lit (.bool false), .lit (.bool false), .lit (.bool false)], .agg [.lit (.string [102, 101, 116, 99, 104]), .lit (.bool false), .lit (.bool true), .lit (.bool false)], .agg [.lit (.string [97, 99, 107]), .lit (.bool true), .lit (.bool false), .lit (.bool false)], .agg [.lit (.string [100, 97, 116, 97]), .lit (.bool true), .lit (.bool false), .lit (.bool true)], .agg [.lit (.string [103, 114, 97, 110, 116]), .lit (.bool false), .lit (.bool true), .lit (.bool true)], .agg [.lit (.string [100, 111, 110, 101]), .lit (.bool false), .lit (.bool false), .lit (.bool false)]]
def laid_loop_example_g00384_impl_errBusy {H : Type} : DataW H := .iface "*errors.errorString" (.ptr (.agg [.lit (.string [116, 104, 101, 32, 108, 105, 110, 101, 32, 105, 115, 32, 98, 117, 115, 121])]))
def laid_loop_example_g00384_impl_errOwns {H : Type} : DataW H := .iface "*errors.errorString" (.ptr (.agg [.lit (.string [105, 116, 32, 111, 119, 110, 115, 32, 116, 104, 101, 32, 108, 105, 110, 101])]))
def laid_loop_example_g00384_impl_errFull {H : Type} : DataW H := .iface "*errors.errorString" (.ptr (.agg [.lit (.string [116, 111, 111, 32, 109, 97, 110, 121, 32, 119, 97, 105, 116])]))
def laid_loop_example_g00384_impl_errTwice {H : Type} : DataW H := .iface "*errors.errorString" (.ptr (.agg [.lit (.string [105, 116, 32, 119, 97, 105, 116, 115, 32, 97, 108, 114, 101, 97, 100, 121])]))
def laid_loop_example_g00384_impl_errUnasked {H : Type} : DataW H := .iface "*errors.errorString" (.ptr (.agg [.lit (.string [105, 116, 32, 119, 97, 115, 32, 110, 111, 116, 32, 97, 115, 107, 101, 100, 32, 102, 111, 114, 32, 116, 104, 105, 115])]))

/-- 'laws.FnExactHomeGot': WHATEVER THE INPUT: true; the input reads as it did. -/
def fnExactHomeGotSpec : ChangeSpec := { name := "fnExactHomeGot", vars := ["loop.example/g00384/impl.msgShapes", "loop.example/g00384/impl.errBusy", "loop.example/g00384/impl.errOwns", "loop.example/g00384/impl.errFull", "loop.example/g00384/impl.errTwice", "loop.example/g00384/impl.errUnasked"], fn := fun _ => fun
  | [d1, d2, g1, g2, g3, g4, g5, g6] => { results := [.lit (.bool true)], args := [d1, d2], vars := [g1, g2, g3, g4, g5, g6] }
  | _ => none }
def fnExactHomeGotRow : OpenClaim := { program := "ytlalldlbgnlbjaagreatdoor", sum := "43797d195f2231fc85ea737e9025189926439c1574279cd313d8183c3d16abe6", func := "loop.example/g00384/laws.FnExactHomeGot", spec := "fnExactHomeGot", inPlace := ["internal/reflectlite.TypeOf", "internal/reflectlite.ValueOf", "(internal/reflectlite.Value).Type", "(internal/reflectlite.Value).IsNil", "(internal/reflectlite.Value).Elem", "(internal/reflectlite.Value).Set"], unfollowed := true, recurses := true, named := ["loop.example/g00384/impl.msgShapes", "loop.example/g00384/impl.errBusy", "loop.example/g00384/impl.errOwns", "loop.example/g00384/impl.errFull", "loop.example/g00384/impl.errTwice", "loop.example/g00384/impl.errUnasked", "errors.errorType"], ifaces := true, apart := false, laid := [("errors.errorType", laid_errors_errorType), ("loop.example/g00384/impl.msgShapes", laid_loop_example_g00384_impl_msgShapes), ("loop.example/g00384/impl.errBusy", laid_loop_example_g00384_impl_errBusy), ("loop.example/g00384/impl.errOwns", laid_loop_example_g00384_impl_errOwns), ("loop.example/g00384/impl.errFull", laid_loop_example_g00384_impl_errFull), ("loop.example/g00384/impl.errTwice", laid_loop_example_g00384_impl_errTwice), ("loop.example/g00384/impl.errUnasked", laid_loop_example_g00384_impl_errUnasked)] }
def FnExactHomeGotSaid : Prop := fnExactHomeGotRow.holds Tryz.pinned (OpenSpec.ofChange fnExactHomeGotSpec)

/-- ITS FALSE NEIGHBOUR: 'it returns false'. Refute it at one input. -/
def fnExactHomeGotWrong : ChangeSpec := { name := "fnExactHomeGot", vars := ["loop.example/g00384/impl.msgShapes", "loop.example/g00384/impl.errBusy", "loop.example/g00384/impl.errOwns", "loop.example/g00384/impl.errFull", "loop.example/g00384/impl.errTwice", "loop.example/g00384/impl.errUnasked"], fn := fun _ => fun
  | [d1, d2, g1, g2, g3, g4, g5, g6] => { results := [.lit (.bool false)], args := [d1, d2], vars := [g1, g2, g3, g4, g5, g6] }
  | _ => none }
def FnExactHomeGotWrongFalsely : Prop := fnExactHomeGotRow.holds Tryz.pinned (OpenSpec.ofChange fnExactHomeGotWrong)

/-- 'laws.FnHomeGot': WHATEVER THE INPUT: true; the input reads as it did. -/
def fnHomeGotSpec : ChangeSpec := { name := "fnHomeGot", vars := ["loop.example/g00384/impl.msgShapes", "loop.example/g00384/impl.errBusy", "loop.example/g00384/impl.errOwns", "loop.example/g00384/impl.errFull", "loop.example/g00384/impl.errTwice", "loop.example/g00384/impl.errUnasked"], fn := fun _ => fun
  | [d, g1, g2, g3, g4, g5, g6] => { results := [.lit (.bool true)], args := [d], vars := [g1, g2, g3, g4, g5, g6] }
  | _ => none }
def fnHomeGotRow : OpenClaim := { program := "ytlalldlbgnlbjaagreatdoor", sum := "43797d195f2231fc85ea737e9025189926439c1574279cd313d8183c3d16abe6", func := "loop.example/g00384/laws.FnHomeGot", spec := "fnHomeGot", inPlace := ["internal/reflectlite.TypeOf", "internal/reflectlite.ValueOf", "(internal/reflectlite.Value).Type", "(internal/reflectlite.Value).IsNil", "(internal/reflectlite.Value).Elem", "(internal/reflectlite.Value).Set"], unfollowed := true, recurses := true, named := ["loop.example/g00384/impl.msgShapes", "loop.example/g00384/impl.errBusy", "loop.example/g00384/impl.errOwns", "loop.example/g00384/impl.errFull", "loop.example/g00384/impl.errTwice", "loop.example/g00384/impl.errUnasked", "errors.errorType"], ifaces := true, apart := false, laid := [("errors.errorType", laid_errors_errorType), ("loop.example/g00384/impl.msgShapes", laid_loop_example_g00384_impl_msgShapes), ("loop.example/g00384/impl.errBusy", laid_loop_example_g00384_impl_errBusy), ("loop.example/g00384/impl.errOwns", laid_loop_example_g00384_impl_errOwns), ("loop.example/g00384/impl.errFull", laid_loop_example_g00384_impl_errFull), ("loop.example/g00384/impl.errTwice", laid_loop_example_g00384_impl_errTwice), ("loop.example/g00384/impl.errUnasked", laid_loop_example_g00384_impl_errUnasked)] }
def FnHomeGotSaid : Prop := fnHomeGotRow.holds Tryz.pinned (OpenSpec.ofChange fnHomeGotSpec)

/-- ITS FALSE NEIGHBOUR: 'it returns false'. Refute it at one input. -/
def fnHomeGotWrong : ChangeSpec := { name := "fnHomeGot", vars := ["loop.example/g00384/impl.msgShapes", "loop.example/g00384/impl.errBusy", "loop.example/g00384/impl.errOwns", "loop.example/g00384/impl.errFull", "loop.example/g00384/impl.errTwice", "loop.example/g00384/impl.errUnasked"], fn := fun _ => fun
  | [d, g1, g2, g3, g4, g5, g6] => { results := [.lit (.bool false)], args := [d], vars := [g1, g2, g3, g4, g5, g6] }
  | _ => none }
def FnHomeGotWrongFalsely : Prop := fnHomeGotRow.holds Tryz.pinned (OpenSpec.ofChange fnHomeGotWrong)

/- THE SECOND FORM. 'bulk': how many values and letters a reading holds, each counted each time it is reached (what is shared counts as often as it is met; a slice's spare places count too). A statement '..UptoSaid' is the law's where the arguments, and the package variables that the reading takes, are together of bulk at most 1048576: NARROWER than '..Said'. Prove '..Said' where nothing that the law and all that it calls make is longer than what came in: it says more and counts as full. Else prove '..UptoSaid'. A law counts once. -/
mutual
def uptoBulk {H : Type} : DataW H → Nat
  | .lit (.string bytes) => bytes.length + 1
  | .lit _ => 1
  | .nil => 1
  | .ptr d => uptoBulk d + 1
  | .slice elems spare => uptoBulkAll elems + uptoBulkAll spare + 1
  | .agg parts => uptoBulkAll parts + 1
  | .iface _ d => uptoBulk d + 1
  | .map entries => uptoBulkEntries entries + 1
  | .held _ => 1
def uptoBulkAll {H : Type} : List (DataW H) → Nat
  | [] => 0
  | d :: r => uptoBulk d + uptoBulkAll r
def uptoBulkEntries {H : Type} : List (Lit × DataW H) → Nat
  | [] => 0
  | x :: r => uptoBulkEntry x + uptoBulkEntries r
def uptoBulkEntry {H : Type} : Lit × DataW H → Nat
  | (.string bytes, d) => bytes.length + uptoBulk d + 1
  | (_, d) => uptoBulk d + 1
 end
def uptoSmall : (H : Type) → List (DataW H) → Bool := fun _ ds => decide (uptoBulkAll ds ≤ 1048576)
def OpenSpec.upto (s : _root_.Go.ChangeSpec) : _root_.Go.OpenSpec := { _root_.Go.OpenSpec.ofChange s with cond := some uptoSmall }

/-- 'laws.FnExactHomeGot', WHERE WHAT IT READS IS OF BULK AT MOST 1048576: true; the input reads as it did. -/
def fnExactHomeGotUptoRow : OpenClaim := { program := "ytlalldlbgnlbjaagreatdoor", sum := "43797d195f2231fc85ea737e9025189926439c1574279cd313d8183c3d16abe6", func := "loop.example/g00384/laws.FnExactHomeGot", spec := "fnExactHomeGot", inPlace := ["internal/reflectlite.TypeOf", "internal/reflectlite.ValueOf", "(internal/reflectlite.Value).Type", "(internal/reflectlite.Value).IsNil", "(internal/reflectlite.Value).Elem", "(internal/reflectlite.Value).Set"], unfollowed := true, recurses := true, named := ["loop.example/g00384/impl.msgShapes", "loop.example/g00384/impl.errBusy", "loop.example/g00384/impl.errOwns", "loop.example/g00384/impl.errFull", "loop.example/g00384/impl.errTwice", "loop.example/g00384/impl.errUnasked", "errors.errorType"], ifaces := true, apart := false, laid := [("errors.errorType", laid_errors_errorType), ("loop.example/g00384/impl.msgShapes", laid_loop_example_g00384_impl_msgShapes), ("loop.example/g00384/impl.errBusy", laid_loop_example_g00384_impl_errBusy), ("loop.example/g00384/impl.errOwns", laid_loop_example_g00384_impl_errOwns), ("loop.example/g00384/impl.errFull", laid_loop_example_g00384_impl_errFull), ("loop.example/g00384/impl.errTwice", laid_loop_example_g00384_impl_errTwice), ("loop.example/g00384/impl.errUnasked", laid_loop_example_g00384_impl_errUnasked)], narrowed := true }
def FnExactHomeGotUptoSaid : Prop := fnExactHomeGotUptoRow.holds Tryz.pinned (OpenSpec.upto fnExactHomeGotSpec)

/-- 'laws.FnHomeGot', WHERE WHAT IT READS IS OF BULK AT MOST 1048576: true; the input reads as it did. -/
def fnHomeGotUptoRow : OpenClaim := { program := "ytlalldlbgnlbjaagreatdoor", sum := "43797d195f2231fc85ea737e9025189926439c1574279cd313d8183c3d16abe6", func := "loop.example/g00384/laws.FnHomeGot", spec := "fnHomeGot", inPlace := ["internal/reflectlite.TypeOf", "internal/reflectlite.ValueOf", "(internal/reflectlite.Value).Type", "(internal/reflectlite.Value).IsNil", "(internal/reflectlite.Value).Elem", "(internal/reflectlite.Value).Set"], unfollowed := true, recurses := true, named := ["loop.example/g00384/impl.msgShapes", "loop.example/g00384/impl.errBusy", "loop.example/g00384/impl.errOwns", "loop.example/g00384/impl.errFull", "loop.example/g00384/impl.errTwice", "loop.example/g00384/impl.errUnasked", "errors.errorType"], ifaces := true, apart := false, laid := [("errors.errorType", laid_errors_errorType), ("loop.example/g00384/impl.msgShapes", laid_loop_example_g00384_impl_msgShapes), ("loop.example/g00384/impl.errBusy", laid_loop_example_g00384_impl_errBusy), ("loop.example/g00384/impl.errOwns", laid_loop_example_g00384_impl_errOwns), ("loop.example/g00384/impl.errFull", laid_loop_example_g00384_impl_errFull), ("loop.example/g00384/impl.errTwice", laid_loop_example_g00384_impl_errTwice), ("loop.example/g00384/impl.errUnasked", laid_loop_example_g00384_impl_errUnasked)], narrowed := true }
def FnHomeGotUptoSaid : Prop := fnHomeGotUptoRow.holds Tryz.pinned (OpenSpec.upto fnHomeGotSpec)

end Rows
end Go.Proofs.YtlalldlbgnlbjaaGreatDoor
