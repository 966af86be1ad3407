/-
  NARROWER THAN 'FOR EVERY INPUT', by the rows' own cells (each row's printed sentence says how): FnMachineNew: laid.
  DERIVED. THE GIVEN ROWS OF THIS SEAT. 1 by the template 'for every input the law returns true; each argument reads behind the call as it read before'; 0 by the template 'total and deterministic' (their statements: YtelknolcneiikaaDoorTotals.lean).
  GIVEN WITH THE SEED: the statements are not yours to turn. If you find one false, say at which input.
  Laid BY PROGRAM, IN A SANDBOX (cutbox-rows.mjs): the forced cells as the released guide's own fill.sh prints them over the translation 35c6107b512b452a… (all of the seat's roots in one cut). By AI agents, Wed Nov 11 2026. No macro, syntax, notation, axiom, sorry.
-/
import Derived.Test.YtelknolcneiikaaDoorChecked
import GoSem.Claim
import GoSem.ClaimJoined
import GoSem.ClaimMapViews
import Derived.JoinedTies
import Derived.KernelRfl
namespace Go.Proofs.YtelknolcneiikaaDoor
/- THE CELL 'sum', in the pinned program and in every row, IS THE sha256 OF THE DUMP (.gsa) THAT YtelknolcneiikaaDoorProg.lean LOADS. Nothing in Lean hashes anything: it is a label: what it is worth is what the hold of that sum in a sandbox is worth. -/
noncomputable def Tryd.pinned : Pinned := { name := "ytelknolcneiikaadoor", sum := "35c6107b512b452a79d08c3d8e7efbce447f422bac33956016d8d8d5a6e88454", checked := Tryd.checked }
namespace Rows
def none {H : Type} : Left H := { results := [], args := [] }

/- WHAT THE LISTED PACKAGE-LEVEL VARIABLES READ AS WHEN THE CALL BEGINS. Each datum BY PROGRAM (the guide's laid-datum.mjs) off the statement by which the dump's own 'gosem.cut.vars' lays the variable. In a bare row this is a premise. The card (YtelknolcneiikaaDoorCards.lean) ties it to the program's text. -/
def laid_loop_example_g00384_impl_msgShapes {H : Type} : DataW H := .agg [.agg [.lit (.string []), .lit (.bool false), .lit (.bool false), .lit (.bool false)], .agg [.lit (.string [114, 101, 97, 100]), .lit (.bool true), .lit (.bool false), .lit (.bool false)], .agg [.lit (.string [119, 114, 105, 116, 101]), .lit (.bool true), .lit (.bool false), .lit (.bool false)], .agg [.lit (.string [112, 117, 116]), .lit (.bool true), .lit (.bool false), .lit (.bool true)], .agg [.lit (.string [105, 110, 118]), .lit (.bool false), .lit (.bool false), .lit (.bool false)], .agg [.lit (.string [102, 101, 116, 99, 104]), .lit (.bool false), .lit (.bool true), .lit (.bool false)], .agg [.lit (.string [97, 99, 107]), .lit (.bool true), .lit (.bool false), .lit (.bool false)], .agg [.lit (.string [100, 97, 116, 97]), .lit (.bool true), .lit (.bool false), .lit (.bool true)], .agg [.lit (.string [103, 114, 97, 110, 116]), .lit (.bool false), .lit (.bool true), .lit (.bool true)], .agg [.lit (.string [100, 111, 110, 101]), .lit (.bool false), .lit (.bool false), .lit (.bool false)]]

/-- 'laws.FnMachineNew': WHATEVER THE INPUT: true; the input reads as it did. -/
def fnMachineNewSpec : ChangeSpec := { name := "fnMachineNew", vars := ["loop.example/g00384/impl.msgShapes"], fn := fun _ => fun
  | [d, g1] => { results := [.lit (.bool true)], args := [d], vars := [g1] }
  | _ => none }
def fnMachineNewRow : OpenClaim := { program := "ytelknolcneiikaadoor", sum := "35c6107b512b452a79d08c3d8e7efbce447f422bac33956016d8d8d5a6e88454", func := "loop.example/g00384/laws.FnMachineNew", spec := "fnMachineNew", unfollowed := true, recurses := true, named := ["loop.example/g00384/impl.msgShapes"], apart := false, laid := [("loop.example/g00384/impl.msgShapes", laid_loop_example_g00384_impl_msgShapes)] }
def FnMachineNewSaid : Prop := fnMachineNewRow.holds Tryd.pinned (OpenSpec.ofChange fnMachineNewSpec)

/-- ITS FALSE NEIGHBOUR: 'it returns false'. Refute it at one input. -/
def fnMachineNewWrong : ChangeSpec := { name := "fnMachineNew", vars := ["loop.example/g00384/impl.msgShapes"], fn := fun _ => fun
  | [d, g1] => { results := [.lit (.bool false)], args := [d], vars := [g1] }
  | _ => none }
def FnMachineNewWrongFalsely : Prop := fnMachineNewRow.holds Tryd.pinned (OpenSpec.ofChange fnMachineNewWrong)

/- THE SECOND FORM. 'bulk': how many values and letters a reading holds, each counted each time it is reached (what is shared counts as often as it is met; a slice's spare places count too). A statement '..UptoSaid' is the law's where the arguments, and the package variables that the reading takes, are together of bulk at most 1048576: NARROWER than '..Said'. Prove '..Said' where nothing that the law and all that it calls make is longer than what came in: it says more and counts as full. Else prove '..UptoSaid'. A law counts once. -/
mutual
def uptoBulk {H : Type} : DataW H → Nat
  | .lit (.string bytes) => bytes.length + 1
  | .lit _ => 1
  | .nil => 1
  | .ptr d => uptoBulk d + 1
  | .slice elems spare => uptoBulkAll elems + uptoBulkAll spare + 1
  | .agg parts => uptoBulkAll parts + 1
  | .iface _ d => uptoBulk d + 1
  | .map entries => uptoBulkEntries entries + 1
  | .held _ => 1
def uptoBulkAll {H : Type} : List (DataW H) → Nat
  | [] => 0
  | d :: r => uptoBulk d + uptoBulkAll r
def uptoBulkEntries {H : Type} : List (Lit × DataW H) → Nat
  | [] => 0
  | x :: r => uptoBulkEntry x + uptoBulkEntries r
def uptoBulkEntry {H : Type} : Lit × DataW H → Nat
  | (.string bytes, d) => bytes.length + uptoBulk d + 1
  | (_, d) => uptoBulk d + 1
 end
def uptoSmall : (H : Type) → List (DataW H) → Bool := fun _ ds => decide (uptoBulkAll ds ≤ 1048576)
def OpenSpec.upto (s : _root_.Go.ChangeSpec) : _root_.Go.OpenSpec := { _root_.Go.OpenSpec.ofChange s with cond := some uptoSmall }

/-- 'laws.FnMachineNew', WHERE WHAT IT READS IS OF BULK AT MOST 1048576: true; the input reads as it did. -/
def fnMachineNewUptoRow : OpenClaim := { program := "ytelknolcneiikaadoor", sum := "35c6107b512b452a79d08c3d8e7efbce447f422bac33956016d8d8d5a6e88454", func := "loop.example/g00384/laws.FnMachineNew", spec := "fnMachineNew", unfollowed := true, recurses := true, named := ["loop.example/g00384/impl.msgShapes"], apart := false, laid := [("loop.example/g00384/impl.msgShapes", laid_loop_example_g00384_impl_msgShapes)], narrowed := true }
def FnMachineNewUptoSaid : Prop := fnMachineNewUptoRow.holds Tryd.pinned (OpenSpec.upto fnMachineNewSpec)

end Rows
end Go.Proofs.YtelknolcneiikaaDoor
