/-
  NARROWER THAN 'FOR EVERY INPUT', by the rows' own cells (each row's printed sentence says how): FnExactOwnersOf: laid · FnExactSharersOf: laid · FnExactNewestOf: laid · FnExactOneWriter: laid · FnExactQuiet: laid.
  DERIVED. THE GIVEN ROWS OF THIS SEAT. 5 by the template 'for every input the law returns true; each argument reads behind the call as it read before'; 0 by the template 'total and deterministic' (their statements: YtfckacabaajnkaaDoorTotals.lean).
  GIVEN WITH THE SEED: the statements are not yours to turn. If you find one false, say at which input.
  Laid BY PROGRAM, IN A SANDBOX (cutbox-rows.mjs): the forced cells as the released guide's own fill.sh prints them over the translation 225d9a803f98693c… (all of the seat's roots in one cut). By AI agents, Wed Nov 11 2026. No macro, syntax, notation, axiom, sorry.
-/
import Derived.Test.YtfckacabaajnkaaDoorChecked
import GoSem.Claim
import GoSem.ClaimJoined
import GoSem.ClaimMapViews
import Derived.JoinedTies
import Derived.KernelRfl
namespace Go.Proofs.YtfckacabaajnkaaDoor
/- THE CELL 'sum', in the pinned program and in every row, IS THE sha256 OF THE DUMP (.gsa) THAT YtfckacabaajnkaaDoorProg.lean LOADS. Nothing in Lean hashes anything: it is a label: what it is worth is what the hold of that sum in a sandbox is worth. -/
noncomputable def Tryd.pinned : Pinned := { name := "ytfckacabaajnkaadoor", sum := "225d9a803f98693cc1d3748ea955cb452b99ef7a2c86e5d490c60eaf7a8a43d3", checked := Tryd.checked }
namespace Rows
def none {H : Type} : Left H := { results := [], args := [] }

/- WHAT THE LISTED PACKAGE-LEVEL VARIABLES READ AS WHEN THE CALL BEGINS. Each datum BY PROGRAM (the guide's laid-datum.mjs) off the statement by which the dump's own 'gosem.cut.vars' lays the variable. In a bare row this is a premise. The card (YtfckacabaajnkaaDoorCards.lean) ties it to the program's text. -/
def laid_loop_example_g00384_impl_msgShapes {H : Type} : DataW H := .agg [.agg [.lit (.string []), .lit (.bool false), .lit (.bool false), .lit (.bool false)], .agg [.lit (.string [114, 101, 97, 100]), .lit (.bool true), .lit (.bool false), .lit (.bool false)], .agg [.lit (.string [119, 114, 105, 116, 101]), .lit (.bool true), .lit (.bool false), .lit (.bool false)], .agg [.lit (.string [112, 117, 116]), .lit (.bool true), .lit (.bool false), .lit (.bool true)], .agg [.lit (.string [105, 110, 118]), .lit (.bool false), .lit (.bool false), .lit (.bool false)], .agg [.lit (.string [102, 101, 116, 99, 104]), .lit (.bool false), .lit (.bool true), .lit (.bool false)], .agg [.lit (.string [97, 99, 107]), .lit (.bool true), .lit (.bool false), .lit (.bool false)], .agg [.lit (.string [100, 97, 116, 97]), .lit (.bool true), .lit (.bool false), .lit (.bool true)], .agg [.lit (.string [103, 114, 97, 110, 116]), .lit (.bool false), .lit (.bool true), .lit (.bool true)], .agg [.lit (.string [100, 111, 110, 101]), .lit (.bool false), .lit (.bool false), .lit (.bool false)]]

/-- 'laws.FnExactOwnersOf': WHATEVER THE INPUT: true; the input reads as it did. -/
def fnExactOwnersOfSpec : ChangeSpec := { name := "fnExactOwnersOf", vars := ["loop.example/g00384/impl.msgShapes"], fn := fun _ => fun
  | [d1, d2, g1] => { results := [.lit (.bool true)], args := [d1, d2], vars := [g1] }
  | _ => none }
def fnExactOwnersOfRow : OpenClaim := { program := "ytfckacabaajnkaadoor", sum := "225d9a803f98693cc1d3748ea955cb452b99ef7a2c86e5d490c60eaf7a8a43d3", func := "loop.example/g00384/laws.FnExactOwnersOf", spec := "fnExactOwnersOf", unfollowed := true, recurses := true, named := ["loop.example/g00384/impl.msgShapes"], apart := false, laid := [("loop.example/g00384/impl.msgShapes", laid_loop_example_g00384_impl_msgShapes)] }
def FnExactOwnersOfSaid : Prop := fnExactOwnersOfRow.holds Tryd.pinned (OpenSpec.ofChange fnExactOwnersOfSpec)

/-- ITS FALSE NEIGHBOUR: 'it returns false'. Refute it at one input. -/
def fnExactOwnersOfWrong : ChangeSpec := { name := "fnExactOwnersOf", vars := ["loop.example/g00384/impl.msgShapes"], fn := fun _ => fun
  | [d1, d2, g1] => { results := [.lit (.bool false)], args := [d1, d2], vars := [g1] }
  | _ => none }
def FnExactOwnersOfWrongFalsely : Prop := fnExactOwnersOfRow.holds Tryd.pinned (OpenSpec.ofChange fnExactOwnersOfWrong)

/-- 'laws.FnExactSharersOf': WHATEVER THE INPUT: true; the input reads as it did. -/
def fnExactSharersOfSpec : ChangeSpec := { name := "fnExactSharersOf", vars := ["loop.example/g00384/impl.msgShapes"], fn := fun _ => fun
  | [d1, d2, g1] => { results := [.lit (.bool true)], args := [d1, d2], vars := [g1] }
  | _ => none }
def fnExactSharersOfRow : OpenClaim := { program := "ytfckacabaajnkaadoor", sum := "225d9a803f98693cc1d3748ea955cb452b99ef7a2c86e5d490c60eaf7a8a43d3", func := "loop.example/g00384/laws.FnExactSharersOf", spec := "fnExactSharersOf", unfollowed := true, recurses := true, named := ["loop.example/g00384/impl.msgShapes"], apart := false, laid := [("loop.example/g00384/impl.msgShapes", laid_loop_example_g00384_impl_msgShapes)] }
def FnExactSharersOfSaid : Prop := fnExactSharersOfRow.holds Tryd.pinned (OpenSpec.ofChange fnExactSharersOfSpec)

/-- ITS FALSE NEIGHBOUR: 'it returns false'. Refute it at one input. -/
def fnExactSharersOfWrong : ChangeSpec := { name := "fnExactSharersOf", vars := ["loop.example/g00384/impl.msgShapes"], fn := fun _ => fun
  | [d1, d2, g1] => { results := [.lit (.bool false)], args := [d1, d2], vars := [g1] }
  | _ => none }
def FnExactSharersOfWrongFalsely : Prop := fnExactSharersOfRow.holds Tryd.pinned (OpenSpec.ofChange fnExactSharersOfWrong)

/-- 'laws.FnExactNewestOf': WHATEVER THE INPUT: true; the input reads as it did. -/
def fnExactNewestOfSpec : ChangeSpec := { name := "fnExactNewestOf", vars := ["loop.example/g00384/impl.msgShapes"], fn := fun _ => fun
  | [d1, d2, g1] => { results := [.lit (.bool true)], args := [d1, d2], vars := [g1] }
  | _ => none }
def fnExactNewestOfRow : OpenClaim := { program := "ytfckacabaajnkaadoor", sum := "225d9a803f98693cc1d3748ea955cb452b99ef7a2c86e5d490c60eaf7a8a43d3", func := "loop.example/g00384/laws.FnExactNewestOf", spec := "fnExactNewestOf", unfollowed := true, recurses := true, named := ["loop.example/g00384/impl.msgShapes"], apart := false, laid := [("loop.example/g00384/impl.msgShapes", laid_loop_example_g00384_impl_msgShapes)] }
def FnExactNewestOfSaid : Prop := fnExactNewestOfRow.holds Tryd.pinned (OpenSpec.ofChange fnExactNewestOfSpec)

/-- ITS FALSE NEIGHBOUR: 'it returns false'. Refute it at one input. -/
def fnExactNewestOfWrong : ChangeSpec := { name := "fnExactNewestOf", vars := ["loop.example/g00384/impl.msgShapes"], fn := fun _ => fun
  | [d1, d2, g1] => { results := [.lit (.bool false)], args := [d1, d2], vars := [g1] }
  | _ => none }
def FnExactNewestOfWrongFalsely : Prop := fnExactNewestOfRow.holds Tryd.pinned (OpenSpec.ofChange fnExactNewestOfWrong)

/-- 'laws.FnExactOneWriter': WHATEVER THE INPUT: true; the input reads as it did. -/
def fnExactOneWriterSpec : ChangeSpec := { name := "fnExactOneWriter", vars := ["loop.example/g00384/impl.msgShapes"], fn := fun _ => fun
  | [d, g1] => { results := [.lit (.bool true)], args := [d], vars := [g1] }
  | _ => none }
def fnExactOneWriterRow : OpenClaim := { program := "ytfckacabaajnkaadoor", sum := "225d9a803f98693cc1d3748ea955cb452b99ef7a2c86e5d490c60eaf7a8a43d3", func := "loop.example/g00384/laws.FnExactOneWriter", spec := "fnExactOneWriter", unfollowed := true, recurses := true, named := ["loop.example/g00384/impl.msgShapes"], apart := false, laid := [("loop.example/g00384/impl.msgShapes", laid_loop_example_g00384_impl_msgShapes)] }
def FnExactOneWriterSaid : Prop := fnExactOneWriterRow.holds Tryd.pinned (OpenSpec.ofChange fnExactOneWriterSpec)

/-- ITS FALSE NEIGHBOUR: 'it returns false'. Refute it at one input. -/
def fnExactOneWriterWrong : ChangeSpec := { name := "fnExactOneWriter", vars := ["loop.example/g00384/impl.msgShapes"], fn := fun _ => fun
  | [d, g1] => { results := [.lit (.bool false)], args := [d], vars := [g1] }
  | _ => none }
def FnExactOneWriterWrongFalsely : Prop := fnExactOneWriterRow.holds Tryd.pinned (OpenSpec.ofChange fnExactOneWriterWrong)

/-- 'laws.FnExactQuiet': WHATEVER THE INPUT: true; the input reads as it did. -/
def fnExactQuietSpec : ChangeSpec := { name := "fnExactQuiet", vars := ["loop.example/g00384/impl.msgShapes"], fn := fun _ => fun
  | [d, g1] => { results := [.lit (.bool true)], args := [d], vars := [g1] }
  | _ => none }
def fnExactQuietRow : OpenClaim := { program := "ytfckacabaajnkaadoor", sum := "225d9a803f98693cc1d3748ea955cb452b99ef7a2c86e5d490c60eaf7a8a43d3", func := "loop.example/g00384/laws.FnExactQuiet", spec := "fnExactQuiet", unfollowed := true, recurses := true, named := ["loop.example/g00384/impl.msgShapes"], apart := false, laid := [("loop.example/g00384/impl.msgShapes", laid_loop_example_g00384_impl_msgShapes)] }
def FnExactQuietSaid : Prop := fnExactQuietRow.holds Tryd.pinned (OpenSpec.ofChange fnExactQuietSpec)

/-- ITS FALSE NEIGHBOUR: 'it returns false'. Refute it at one input. -/
def fnExactQuietWrong : ChangeSpec := { name := "fnExactQuiet", vars := ["loop.example/g00384/impl.msgShapes"], fn := fun _ => fun
  | [d, g1] => { results := [.lit (.bool false)], args := [d], vars := [g1] }
  | _ => none }
def FnExactQuietWrongFalsely : Prop := fnExactQuietRow.holds Tryd.pinned (OpenSpec.ofChange fnExactQuietWrong)

/- THE SECOND FORM. 'bulk': how many values and letters a reading holds, each counted each time it is reached (what is shared counts as often as it is met; a slice's spare places count too). A statement '..UptoSaid' is the law's where the arguments, and the package variables that the reading takes, are together of bulk at most 1048576: NARROWER than '..Said'. Prove '..Said' where nothing that the law and all that it calls make is longer than what came in: it says more and counts as full. Else prove '..UptoSaid'. A law counts once. -/
mutual
def uptoBulk {H : Type} : DataW H → Nat
  | .lit (.string bytes) => bytes.length + 1
  | .lit _ => 1
  | .nil => 1
  | .ptr d => uptoBulk d + 1
  | .slice elems spare => uptoBulkAll elems + uptoBulkAll spare + 1
  | .agg parts => uptoBulkAll parts + 1
  | .iface _ d => uptoBulk d + 1
  | .map entries => uptoBulkEntries entries + 1
  | .held _ => 1
def uptoBulkAll {H : Type} : List (DataW H) → Nat
  | [] => 0
  | d :: r => uptoBulk d + uptoBulkAll r
def uptoBulkEntries {H : Type} : List (Lit × DataW H) → Nat
  | [] => 0
  | x :: r => uptoBulkEntry x + uptoBulkEntries r
def uptoBulkEntry {H : Type} : Lit × DataW H → Nat
  | (.string bytes, d) => bytes.length + uptoBulk d + 1
  | (_, d) => uptoBulk d + 1
 end
def uptoSmall : (H : Type) → List (DataW H) → Bool := fun _ ds => decide (uptoBulkAll ds ≤ 1048576)
def OpenSpec.upto (s : _root_.Go.ChangeSpec) : _root_.Go.OpenSpec := { _root_.Go.OpenSpec.ofChange s with cond := some uptoSmall }

/-- 'laws.FnExactOwnersOf', WHERE WHAT IT READS IS OF BULK AT MOST 1048576: true; the input reads as it did. -/
def fnExactOwnersOfUptoRow : OpenClaim := { program := "ytfckacabaajnkaadoor", sum := "225d9a803f98693cc1d3748ea955cb452b99ef7a2c86e5d490c60eaf7a8a43d3", func := "loop.example/g00384/laws.FnExactOwnersOf", spec := "fnExactOwnersOf", unfollowed := true, recurses := true, named := ["loop.example/g00384/impl.msgShapes"], apart := false, laid := [("loop.example/g00384/impl.msgShapes", laid_loop_example_g00384_impl_msgShapes)], narrowed := true }
def FnExactOwnersOfUptoSaid : Prop := fnExactOwnersOfUptoRow.holds Tryd.pinned (OpenSpec.upto fnExactOwnersOfSpec)

/-- 'laws.FnExactSharersOf', WHERE WHAT IT READS IS OF BULK AT MOST 1048576: true; the input reads as it did. -/
def fnExactSharersOfUptoRow : OpenClaim := { program := "ytfckacabaajnkaadoor", sum := "225d9a803f98693cc1d3748ea955cb452b99ef7a2c86e5d490c60eaf7a8a43d3", func := "loop.example/g00384/laws.FnExactSharersOf", spec := "fnExactSharersOf", unfollowed := true, recurses := true, named := ["loop.example/g00384/impl.msgShapes"], apart := false, laid := [("loop.example/g00384/impl.msgShapes", laid_loop_example_g00384_impl_msgShapes)], narrowed := true }
def FnExactSharersOfUptoSaid : Prop := fnExactSharersOfUptoRow.holds Tryd.pinned (OpenSpec.upto fnExactSharersOfSpec)

/-- 'laws.FnExactNewestOf', WHERE WHAT IT READS IS OF BULK AT MOST 1048576: true; the input reads as it did. -/
def fnExactNewestOfUptoRow : OpenClaim := { program := "ytfckacabaajnkaadoor", sum := "225d9a803f98693cc1d3748ea955cb452b99ef7a2c86e5d490c60eaf7a8a43d3", func := "loop.example/g00384/laws.FnExactNewestOf", spec := "fnExactNewestOf", unfollowed := true, recurses := true, named := ["loop.example/g00384/impl.msgShapes"], apart := false, laid := [("loop.example/g00384/impl.msgShapes", laid_loop_example_g00384_impl_msgShapes)], narrowed := true }
def FnExactNewestOfUptoSaid : Prop := fnExactNewestOfUptoRow.holds Tryd.pinned (OpenSpec.upto fnExactNewestOfSpec)

/-- 'laws.FnExactOneWriter', WHERE WHAT IT READS IS OF BULK AT MOST 1048576: true; the input reads as it did. -/
def fnExactOneWriterUptoRow : OpenClaim := { program := "ytfckacabaajnkaadoor", sum := "225d9a803f98693cc1d3748ea955cb452b99ef7a2c86e5d490c60eaf7a8a43d3", func := "loop.example/g00384/laws.FnExactOneWriter", spec := "fnExactOneWriter", unfollowed := true, recurses := true, named := ["loop.example/g00384/impl.msgShapes"], apart := false, laid := [("loop.example/g00384/impl.msgShapes", laid_loop_example_g00384_impl_msgShapes)], narrowed := true }
def FnExactOneWriterUptoSaid : Prop := fnExactOneWriterUptoRow.holds Tryd.pinned (OpenSpec.upto fnExactOneWriterSpec)

/-- 'laws.FnExactQuiet', WHERE WHAT IT READS IS OF BULK AT MOST 1048576: true; the input reads as it did. -/
def fnExactQuietUptoRow : OpenClaim := { program := "ytfckacabaajnkaadoor", sum := "225d9a803f98693cc1d3748ea955cb452b99ef7a2c86e5d490c60eaf7a8a43d3", func := "loop.example/g00384/laws.FnExactQuiet", spec := "fnExactQuiet", unfollowed := true, recurses := true, named := ["loop.example/g00384/impl.msgShapes"], apart := false, laid := [("loop.example/g00384/impl.msgShapes", laid_loop_example_g00384_impl_msgShapes)], narrowed := true }
def FnExactQuietUptoSaid : Prop := fnExactQuietUptoRow.holds Tryd.pinned (OpenSpec.upto fnExactQuietSpec)

end Rows
end Go.Proofs.YtfckacabaajnkaaDoor
