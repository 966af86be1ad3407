/-
  No cell of these rows narrows 'for every input' (looked for: loops, veiled, ifaces, maps, wideKeys, modest, calm, conditions, laid).
  DERIVED. THE GIVEN ROWS OF THIS SEAT. 6 by the template 'for every input the law returns true; each argument reads behind the call as it read before'; 0 by the template 'total and deterministic' (their statements: YtbinjcmfbkhbjacTotals.lean).
  GIVEN WITH THE SEED: the statements are not yours to turn. If you find one false, say at which input.
  Laid BY PROGRAM, IN A SANDBOX (cutbox-rows.mjs): the forced cells as the released guide's own fill.sh prints them over the translation c40e3446a72747fc… (all of the seat's roots in one cut). By AI agents, Wed Nov 11 2026. No macro, syntax, notation, axiom, sorry.
-/
import Derived.Test.YtbinjcmfbkhbjacChecked
import GoSem.Claim
import GoSem.ClaimJoined
import GoSem.ClaimMapViews
import Derived.JoinedTies
import Derived.KernelRfl
namespace Go.Proofs.Ytbinjcmfbkhbjac
/- THE CELL 'sum', in the pinned program and in every row, IS THE sha256 OF THE DUMP (.gsa) THAT YtbinjcmfbkhbjacProg.lean LOADS. Nothing in Lean hashes anything: it is a label: what it is worth is what the hold of that sum in a sandbox is worth. -/
noncomputable def Try.pinned : Pinned := { name := "ytbinjcmfbkhbjac", sum := "c40e3446a72747fc281d919e87bcdd1a9c9a3770a0e8ae3fc3e6fa6d8eb7c997", checked := Try.checked }
namespace Rows
def none {H : Type} : Left H := { results := [], args := [] }

/-- 'laws.FnExactCrc16': WHATEVER THE INPUT: true; the input reads as it did. -/
def fnExactCrc16Spec : ChangeSpec := { name := "fnExactCrc16", fn := fun _ => fun
  | [d] => { results := [.lit (.bool true)], args := [d] }
  | _ => none }
def fnExactCrc16Row : OpenClaim := { program := "ytbinjcmfbkhbjac", sum := "c40e3446a72747fc281d919e87bcdd1a9c9a3770a0e8ae3fc3e6fa6d8eb7c997", func := "loop.example/g00384/laws.FnExactCrc16", spec := "fnExactCrc16", apart := false }
def FnExactCrc16Said : Prop := fnExactCrc16Row.holds Try.pinned (OpenSpec.ofChange fnExactCrc16Spec)

/-- ITS FALSE NEIGHBOUR: 'it returns false'. Refute it at one input. -/
def fnExactCrc16Wrong : ChangeSpec := { name := "fnExactCrc16", fn := fun _ => fun
  | [d] => { results := [.lit (.bool false)], args := [d] }
  | _ => none }
def FnExactCrc16WrongFalsely : Prop := fnExactCrc16Row.holds Try.pinned (OpenSpec.ofChange fnExactCrc16Wrong)

/-- 'laws.FnExactFlitOk': WHATEVER THE INPUT: true; the input reads as it did. -/
def fnExactFlitOkSpec : ChangeSpec := { name := "fnExactFlitOk", fn := fun _ => fun
  | [d] => { results := [.lit (.bool true)], args := [d] }
  | _ => none }
def fnExactFlitOkRow : OpenClaim := { program := "ytbinjcmfbkhbjac", sum := "c40e3446a72747fc281d919e87bcdd1a9c9a3770a0e8ae3fc3e6fa6d8eb7c997", func := "loop.example/g00384/laws.FnExactFlitOk", spec := "fnExactFlitOk", apart := false }
def FnExactFlitOkSaid : Prop := fnExactFlitOkRow.holds Try.pinned (OpenSpec.ofChange fnExactFlitOkSpec)

/-- ITS FALSE NEIGHBOUR: 'it returns false'. Refute it at one input. -/
def fnExactFlitOkWrong : ChangeSpec := { name := "fnExactFlitOk", fn := fun _ => fun
  | [d] => { results := [.lit (.bool false)], args := [d] }
  | _ => none }
def FnExactFlitOkWrongFalsely : Prop := fnExactFlitOkRow.holds Try.pinned (OpenSpec.ofChange fnExactFlitOkWrong)

/-- 'laws.FnExactFlitText': WHATEVER THE INPUT: true; the input reads as it did. -/
def fnExactFlitTextSpec : ChangeSpec := { name := "fnExactFlitText", fn := fun _ => fun
  | [d] => { results := [.lit (.bool true)], args := [d] }
  | _ => none }
def fnExactFlitTextRow : OpenClaim := { program := "ytbinjcmfbkhbjac", sum := "c40e3446a72747fc281d919e87bcdd1a9c9a3770a0e8ae3fc3e6fa6d8eb7c997", func := "loop.example/g00384/laws.FnExactFlitText", spec := "fnExactFlitText", apart := false }
def FnExactFlitTextSaid : Prop := fnExactFlitTextRow.holds Try.pinned (OpenSpec.ofChange fnExactFlitTextSpec)

/-- ITS FALSE NEIGHBOUR: 'it returns false'. Refute it at one input. -/
def fnExactFlitTextWrong : ChangeSpec := { name := "fnExactFlitText", fn := fun _ => fun
  | [d] => { results := [.lit (.bool false)], args := [d] }
  | _ => none }
def FnExactFlitTextWrongFalsely : Prop := fnExactFlitTextRow.holds Try.pinned (OpenSpec.ofChange fnExactFlitTextWrong)

/-- 'laws.FnExactReadFlit': WHATEVER THE INPUT: true; the input reads as it did. -/
def fnExactReadFlitSpec : ChangeSpec := { name := "fnExactReadFlit", fn := fun _ => fun
  | [d] => { results := [.lit (.bool true)], args := [d] }
  | _ => none }
def fnExactReadFlitRow : OpenClaim := { program := "ytbinjcmfbkhbjac", sum := "c40e3446a72747fc281d919e87bcdd1a9c9a3770a0e8ae3fc3e6fa6d8eb7c997", func := "loop.example/g00384/laws.FnExactReadFlit", spec := "fnExactReadFlit", apart := false }
def FnExactReadFlitSaid : Prop := fnExactReadFlitRow.holds Try.pinned (OpenSpec.ofChange fnExactReadFlitSpec)

/-- ITS FALSE NEIGHBOUR: 'it returns false'. Refute it at one input. -/
def fnExactReadFlitWrong : ChangeSpec := { name := "fnExactReadFlit", fn := fun _ => fun
  | [d] => { results := [.lit (.bool false)], args := [d] }
  | _ => none }
def FnExactReadFlitWrongFalsely : Prop := fnExactReadFlitRow.holds Try.pinned (OpenSpec.ofChange fnExactReadFlitWrong)

/-- 'laws.FnCrc16': WHATEVER THE INPUT: true; the input reads as it did. -/
def fnCrc16Spec : ChangeSpec := { name := "fnCrc16", fn := fun _ => fun
  | [d] => { results := [.lit (.bool true)], args := [d] }
  | _ => none }
def fnCrc16Row : OpenClaim := { program := "ytbinjcmfbkhbjac", sum := "c40e3446a72747fc281d919e87bcdd1a9c9a3770a0e8ae3fc3e6fa6d8eb7c997", func := "loop.example/g00384/laws.FnCrc16", spec := "fnCrc16", apart := false }
def FnCrc16Said : Prop := fnCrc16Row.holds Try.pinned (OpenSpec.ofChange fnCrc16Spec)

/-- ITS FALSE NEIGHBOUR: 'it returns false'. Refute it at one input. -/
def fnCrc16Wrong : ChangeSpec := { name := "fnCrc16", fn := fun _ => fun
  | [d] => { results := [.lit (.bool false)], args := [d] }
  | _ => none }
def FnCrc16WrongFalsely : Prop := fnCrc16Row.holds Try.pinned (OpenSpec.ofChange fnCrc16Wrong)

/-- 'laws.FnFlits': WHATEVER THE INPUT: true; the input reads as it did. -/
def fnFlitsSpec : ChangeSpec := { name := "fnFlits", fn := fun _ => fun
  | [d] => { results := [.lit (.bool true)], args := [d] }
  | _ => none }
def fnFlitsRow : OpenClaim := { program := "ytbinjcmfbkhbjac", sum := "c40e3446a72747fc281d919e87bcdd1a9c9a3770a0e8ae3fc3e6fa6d8eb7c997", func := "loop.example/g00384/laws.FnFlits", spec := "fnFlits", apart := false }
def FnFlitsSaid : Prop := fnFlitsRow.holds Try.pinned (OpenSpec.ofChange fnFlitsSpec)

/-- ITS FALSE NEIGHBOUR: 'it returns false'. Refute it at one input. -/
def fnFlitsWrong : ChangeSpec := { name := "fnFlits", fn := fun _ => fun
  | [d] => { results := [.lit (.bool false)], args := [d] }
  | _ => none }
def FnFlitsWrongFalsely : Prop := fnFlitsRow.holds Try.pinned (OpenSpec.ofChange fnFlitsWrong)

/- THE SECOND FORM. 'bulk': how many values and letters a reading holds, each counted each time it is reached (what is shared counts as often as it is met; a slice's spare places count too). A statement '..UptoSaid' is the law's where the arguments, and the package variables that the reading takes, are together of bulk at most 1048576: NARROWER than '..Said'. Prove '..Said' where nothing that the law and all that it calls make is longer than what came in: it says more and counts as full. Else prove '..UptoSaid'. A law counts once. -/
mutual
def uptoBulk {H : Type} : DataW H → Nat
  | .lit (.string bytes) => bytes.length + 1
  | .lit _ => 1
  | .nil => 1
  | .ptr d => uptoBulk d + 1
  | .slice elems spare => uptoBulkAll elems + uptoBulkAll spare + 1
  | .agg parts => uptoBulkAll parts + 1
  | .iface _ d => uptoBulk d + 1
  | .map entries => uptoBulkEntries entries + 1
  | .held _ => 1
def uptoBulkAll {H : Type} : List (DataW H) → Nat
  | [] => 0
  | d :: r => uptoBulk d + uptoBulkAll r
def uptoBulkEntries {H : Type} : List (Lit × DataW H) → Nat
  | [] => 0
  | x :: r => uptoBulkEntry x + uptoBulkEntries r
def uptoBulkEntry {H : Type} : Lit × DataW H → Nat
  | (.string bytes, d) => bytes.length + uptoBulk d + 1
  | (_, d) => uptoBulk d + 1
 end
def uptoSmall : (H : Type) → List (DataW H) → Bool := fun _ ds => decide (uptoBulkAll ds ≤ 1048576)
def OpenSpec.upto (s : _root_.Go.ChangeSpec) : _root_.Go.OpenSpec := { _root_.Go.OpenSpec.ofChange s with cond := some uptoSmall }

/-- 'laws.FnExactCrc16', WHERE WHAT IT READS IS OF BULK AT MOST 1048576: true; the input reads as it did. -/
def fnExactCrc16UptoRow : OpenClaim := { program := "ytbinjcmfbkhbjac", sum := "c40e3446a72747fc281d919e87bcdd1a9c9a3770a0e8ae3fc3e6fa6d8eb7c997", func := "loop.example/g00384/laws.FnExactCrc16", spec := "fnExactCrc16", apart := false, narrowed := true }
def FnExactCrc16UptoSaid : Prop := fnExactCrc16UptoRow.holds Try.pinned (OpenSpec.upto fnExactCrc16Spec)

/-- 'laws.FnExactFlitOk', WHERE WHAT IT READS IS OF BULK AT MOST 1048576: true; the input reads as it did. -/
def fnExactFlitOkUptoRow : OpenClaim := { program := "ytbinjcmfbkhbjac", sum := "c40e3446a72747fc281d919e87bcdd1a9c9a3770a0e8ae3fc3e6fa6d8eb7c997", func := "loop.example/g00384/laws.FnExactFlitOk", spec := "fnExactFlitOk", apart := false, narrowed := true }
def FnExactFlitOkUptoSaid : Prop := fnExactFlitOkUptoRow.holds Try.pinned (OpenSpec.upto fnExactFlitOkSpec)

/-- 'laws.FnExactFlitText', WHERE WHAT IT READS IS OF BULK AT MOST 1048576: true; the input reads as it did. -/
def fnExactFlitTextUptoRow : OpenClaim := { program := "ytbinjcmfbkhbjac", sum := "c40e3446a72747fc281d919e87bcdd1a9c9a3770a0e8ae3fc3e6fa6d8eb7c997", func := "loop.example/g00384/laws.FnExactFlitText", spec := "fnExactFlitText", apart := false, narrowed := true }
def FnExactFlitTextUptoSaid : Prop := fnExactFlitTextUptoRow.holds Try.pinned (OpenSpec.upto fnExactFlitTextSpec)

/-- 'laws.FnExactReadFlit', WHERE WHAT IT READS IS OF BULK AT MOST 1048576: true; the input reads as it did. -/
def fnExactReadFlitUptoRow : OpenClaim := { program := "ytbinjcmfbkhbjac", sum := "c40e3446a72747fc281d919e87bcdd1a9c9a3770a0e8ae3fc3e6fa6d8eb7c997", func := "loop.example/g00384/laws.FnExactReadFlit", spec := "fnExactReadFlit", apart := false, narrowed := true }
def FnExactReadFlitUptoSaid : Prop := fnExactReadFlitUptoRow.holds Try.pinned (OpenSpec.upto fnExactReadFlitSpec)

/-- 'laws.FnCrc16', WHERE WHAT IT READS IS OF BULK AT MOST 1048576: true; the input reads as it did. -/
def fnCrc16UptoRow : OpenClaim := { program := "ytbinjcmfbkhbjac", sum := "c40e3446a72747fc281d919e87bcdd1a9c9a3770a0e8ae3fc3e6fa6d8eb7c997", func := "loop.example/g00384/laws.FnCrc16", spec := "fnCrc16", apart := false, narrowed := true }
def FnCrc16UptoSaid : Prop := fnCrc16UptoRow.holds Try.pinned (OpenSpec.upto fnCrc16Spec)

/-- 'laws.FnFlits', WHERE WHAT IT READS IS OF BULK AT MOST 1048576: true; the input reads as it did. -/
def fnFlitsUptoRow : OpenClaim := { program := "ytbinjcmfbkhbjac", sum := "c40e3446a72747fc281d919e87bcdd1a9c9a3770a0e8ae3fc3e6fa6d8eb7c997", func := "loop.example/g00384/laws.FnFlits", spec := "fnFlits", apart := false, narrowed := true }
def FnFlitsUptoSaid : Prop := fnFlitsUptoRow.holds Try.pinned (OpenSpec.upto fnFlitsSpec)

end Rows
end Go.Proofs.Ytbinjcmfbkhbjac
