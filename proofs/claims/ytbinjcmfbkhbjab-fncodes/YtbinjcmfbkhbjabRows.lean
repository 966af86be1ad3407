/-
  No cell of these rows narrows 'for every input' (looked for: loops, veiled, ifaces, maps, wideKeys, modest, calm, conditions, laid).
  DERIVED. THE GIVEN ROWS OF THIS SEAT. 6 by the template 'for every input the law returns true; each argument reads behind the call as it read before'; 0 by the template 'total and deterministic' (their statements: YtbinjcmfbkhbjabTotals.lean).
  GIVEN WITH THE SEED: the statements are not yours to turn. If you find one false, say at which input.
  Laid BY PROGRAM, IN A SANDBOX (cutbox-rows.mjs): the forced cells as the released guide's own fill.sh prints them over the translation b150bc171a2544c0… (all of the seat's roots in one cut). By AI agents, Wed Nov 11 2026. No macro, syntax, notation, axiom, sorry.
-/
import Derived.Test.YtbinjcmfbkhbjabChecked
import GoSem.Claim
import GoSem.ClaimJoined
import GoSem.ClaimMapViews
import Derived.JoinedTies
import Derived.KernelRfl
namespace Go.Proofs.Ytbinjcmfbkhbjab
/- THE CELL 'sum', in the pinned program and in every row, IS THE sha256 OF THE DUMP (.gsa) THAT YtbinjcmfbkhbjabProg.lean LOADS. Nothing in Lean hashes anything: it is a label: what it is worth is what the hold of that sum in a sandbox is worth. -/
noncomputable def Try.pinned : Pinned := { name := "ytbinjcmfbkhbjab", sum := "b150bc171a2544c025fef07b310c9f5dd3c6a6a57763298984058859eed45fdf", checked := Try.checked }
namespace Rows
def none {H : Type} : Left H := { results := [], args := [] }

/-- 'laws.FnEcc': WHATEVER THE INPUT: true; the input reads as it did. -/
def fnEccSpec : ChangeSpec := { name := "fnEcc", fn := fun _ => fun
  | [d] => { results := [.lit (.bool true)], args := [d] }
  | _ => none }
def fnEccRow : OpenClaim := { program := "ytbinjcmfbkhbjab", sum := "b150bc171a2544c025fef07b310c9f5dd3c6a6a57763298984058859eed45fdf", func := "loop.example/g00384/laws.FnEcc", spec := "fnEcc", apart := false }
def FnEccSaid : Prop := fnEccRow.holds Try.pinned (OpenSpec.ofChange fnEccSpec)

/-- ITS FALSE NEIGHBOUR: 'it returns false'. Refute it at one input. -/
def fnEccWrong : ChangeSpec := { name := "fnEcc", fn := fun _ => fun
  | [d] => { results := [.lit (.bool false)], args := [d] }
  | _ => none }
def FnEccWrongFalsely : Prop := fnEccRow.holds Try.pinned (OpenSpec.ofChange fnEccWrong)

/-- 'laws.FnOneFlip': WHATEVER THE INPUT: true; the input reads as it did. -/
def fnOneFlipSpec : ChangeSpec := { name := "fnOneFlip", fn := fun _ => fun
  | [d] => { results := [.lit (.bool true)], args := [d] }
  | _ => none }
def fnOneFlipRow : OpenClaim := { program := "ytbinjcmfbkhbjab", sum := "b150bc171a2544c025fef07b310c9f5dd3c6a6a57763298984058859eed45fdf", func := "loop.example/g00384/laws.FnOneFlip", spec := "fnOneFlip", apart := false }
def FnOneFlipSaid : Prop := fnOneFlipRow.holds Try.pinned (OpenSpec.ofChange fnOneFlipSpec)

/-- ITS FALSE NEIGHBOUR: 'it returns false'. Refute it at one input. -/
def fnOneFlipWrong : ChangeSpec := { name := "fnOneFlip", fn := fun _ => fun
  | [d] => { results := [.lit (.bool false)], args := [d] }
  | _ => none }
def FnOneFlipWrongFalsely : Prop := fnOneFlipRow.holds Try.pinned (OpenSpec.ofChange fnOneFlipWrong)

/-- 'laws.FnTwoFlips': WHATEVER THE INPUT: true; the input reads as it did. -/
def fnTwoFlipsSpec : ChangeSpec := { name := "fnTwoFlips", fn := fun _ => fun
  | [d] => { results := [.lit (.bool true)], args := [d] }
  | _ => none }
def fnTwoFlipsRow : OpenClaim := { program := "ytbinjcmfbkhbjab", sum := "b150bc171a2544c025fef07b310c9f5dd3c6a6a57763298984058859eed45fdf", func := "loop.example/g00384/laws.FnTwoFlips", spec := "fnTwoFlips", apart := false }
def FnTwoFlipsSaid : Prop := fnTwoFlipsRow.holds Try.pinned (OpenSpec.ofChange fnTwoFlipsSpec)

/-- ITS FALSE NEIGHBOUR: 'it returns false'. Refute it at one input. -/
def fnTwoFlipsWrong : ChangeSpec := { name := "fnTwoFlips", fn := fun _ => fun
  | [d] => { results := [.lit (.bool false)], args := [d] }
  | _ => none }
def FnTwoFlipsWrongFalsely : Prop := fnTwoFlipsRow.holds Try.pinned (OpenSpec.ofChange fnTwoFlipsWrong)

/-- 'laws.FnFlipTwice': WHATEVER THE INPUT: true; the input reads as it did. -/
def fnFlipTwiceSpec : ChangeSpec := { name := "fnFlipTwice", fn := fun _ => fun
  | [d] => { results := [.lit (.bool true)], args := [d] }
  | _ => none }
def fnFlipTwiceRow : OpenClaim := { program := "ytbinjcmfbkhbjab", sum := "b150bc171a2544c025fef07b310c9f5dd3c6a6a57763298984058859eed45fdf", func := "loop.example/g00384/laws.FnFlipTwice", spec := "fnFlipTwice", apart := false }
def FnFlipTwiceSaid : Prop := fnFlipTwiceRow.holds Try.pinned (OpenSpec.ofChange fnFlipTwiceSpec)

/-- ITS FALSE NEIGHBOUR: 'it returns false'. Refute it at one input. -/
def fnFlipTwiceWrong : ChangeSpec := { name := "fnFlipTwice", fn := fun _ => fun
  | [d] => { results := [.lit (.bool false)], args := [d] }
  | _ => none }
def FnFlipTwiceWrongFalsely : Prop := fnFlipTwiceRow.holds Try.pinned (OpenSpec.ofChange fnFlipTwiceWrong)

/-- 'laws.FnCodes': WHATEVER THE INPUT: true; the input reads as it did. -/
def fnCodesSpec : ChangeSpec := { name := "fnCodes", fn := fun _ => fun
  | [d] => { results := [.lit (.bool true)], args := [d] }
  | _ => none }
def fnCodesRow : OpenClaim := { program := "ytbinjcmfbkhbjab", sum := "b150bc171a2544c025fef07b310c9f5dd3c6a6a57763298984058859eed45fdf", func := "loop.example/g00384/laws.FnCodes", spec := "fnCodes", apart := false }
def FnCodesSaid : Prop := fnCodesRow.holds Try.pinned (OpenSpec.ofChange fnCodesSpec)

/-- ITS FALSE NEIGHBOUR: 'it returns false'. Refute it at one input. -/
def fnCodesWrong : ChangeSpec := { name := "fnCodes", fn := fun _ => fun
  | [d] => { results := [.lit (.bool false)], args := [d] }
  | _ => none }
def FnCodesWrongFalsely : Prop := fnCodesRow.holds Try.pinned (OpenSpec.ofChange fnCodesWrong)

/-- 'laws.FnReadCode': WHATEVER THE INPUT: true; the input reads as it did. -/
def fnReadCodeSpec : ChangeSpec := { name := "fnReadCode", fn := fun _ => fun
  | [d] => { results := [.lit (.bool true)], args := [d] }
  | _ => none }
def fnReadCodeRow : OpenClaim := { program := "ytbinjcmfbkhbjab", sum := "b150bc171a2544c025fef07b310c9f5dd3c6a6a57763298984058859eed45fdf", func := "loop.example/g00384/laws.FnReadCode", spec := "fnReadCode", apart := false }
def FnReadCodeSaid : Prop := fnReadCodeRow.holds Try.pinned (OpenSpec.ofChange fnReadCodeSpec)

/-- ITS FALSE NEIGHBOUR: 'it returns false'. Refute it at one input. -/
def fnReadCodeWrong : ChangeSpec := { name := "fnReadCode", fn := fun _ => fun
  | [d] => { results := [.lit (.bool false)], args := [d] }
  | _ => none }
def FnReadCodeWrongFalsely : Prop := fnReadCodeRow.holds Try.pinned (OpenSpec.ofChange fnReadCodeWrong)

/- THE SECOND FORM. 'bulk': how many values and letters a reading holds, each counted each time it is reached (what is shared counts as often as it is met; a slice's spare places count too). A statement '..UptoSaid' is the law's where the arguments, and the package variables that the reading takes, are together of bulk at most 1048576: NARROWER than '..Said'. Prove '..Said' where nothing that the law and all that it calls make is longer than what came in: it says more and counts as full. Else prove '..UptoSaid'. A law counts once. -/
mutual
def uptoBulk {H : Type} : DataW H → Nat
  | .lit (.string bytes) => bytes.length + 1
  | .lit _ => 1
  | .nil => 1
  | .ptr d => uptoBulk d + 1
  | .slice elems spare => uptoBulkAll elems + uptoBulkAll spare + 1
  | .agg parts => uptoBulkAll parts + 1
  | .iface _ d => uptoBulk d + 1
  | .map entries => uptoBulkEntries entries + 1
  | .held _ => 1
def uptoBulkAll {H : Type} : List (DataW H) → Nat
  | [] => 0
  | d :: r => uptoBulk d + uptoBulkAll r
def uptoBulkEntries {H : Type} : List (Lit × DataW H) → Nat
  | [] => 0
  | x :: r => uptoBulkEntry x + uptoBulkEntries r
def uptoBulkEntry {H : Type} : Lit × DataW H → Nat
  | (.string bytes, d) => bytes.length + uptoBulk d + 1
  | (_, d) => uptoBulk d + 1
 end
def uptoSmall : (H : Type) → List (DataW H) → Bool := fun _ ds => decide (uptoBulkAll ds ≤ 1048576)
def OpenSpec.upto (s : _root_.Go.ChangeSpec) : _root_.Go.OpenSpec := { _root_.Go.OpenSpec.ofChange s with cond := some uptoSmall }

/-- 'laws.FnEcc', WHERE WHAT IT READS IS OF BULK AT MOST 1048576: true; the input reads as it did. -/
def fnEccUptoRow : OpenClaim := { program := "ytbinjcmfbkhbjab", sum := "b150bc171a2544c025fef07b310c9f5dd3c6a6a57763298984058859eed45fdf", func := "loop.example/g00384/laws.FnEcc", spec := "fnEcc", apart := false, narrowed := true }
def FnEccUptoSaid : Prop := fnEccUptoRow.holds Try.pinned (OpenSpec.upto fnEccSpec)

/-- 'laws.FnOneFlip', WHERE WHAT IT READS IS OF BULK AT MOST 1048576: true; the input reads as it did. -/
def fnOneFlipUptoRow : OpenClaim := { program := "ytbinjcmfbkhbjab", sum := "b150bc171a2544c025fef07b310c9f5dd3c6a6a57763298984058859eed45fdf", func := "loop.example/g00384/laws.FnOneFlip", spec := "fnOneFlip", apart := false, narrowed := true }
def FnOneFlipUptoSaid : Prop := fnOneFlipUptoRow.holds Try.pinned (OpenSpec.upto fnOneFlipSpec)

/-- 'laws.FnTwoFlips', WHERE WHAT IT READS IS OF BULK AT MOST 1048576: true; the input reads as it did. -/
def fnTwoFlipsUptoRow : OpenClaim := { program := "ytbinjcmfbkhbjab", sum := "b150bc171a2544c025fef07b310c9f5dd3c6a6a57763298984058859eed45fdf", func := "loop.example/g00384/laws.FnTwoFlips", spec := "fnTwoFlips", apart := false, narrowed := true }
def FnTwoFlipsUptoSaid : Prop := fnTwoFlipsUptoRow.holds Try.pinned (OpenSpec.upto fnTwoFlipsSpec)

/-- 'laws.FnFlipTwice', WHERE WHAT IT READS IS OF BULK AT MOST 1048576: true; the input reads as it did. -/
def fnFlipTwiceUptoRow : OpenClaim := { program := "ytbinjcmfbkhbjab", sum := "b150bc171a2544c025fef07b310c9f5dd3c6a6a57763298984058859eed45fdf", func := "loop.example/g00384/laws.FnFlipTwice", spec := "fnFlipTwice", apart := false, narrowed := true }
def FnFlipTwiceUptoSaid : Prop := fnFlipTwiceUptoRow.holds Try.pinned (OpenSpec.upto fnFlipTwiceSpec)

/-- 'laws.FnCodes', WHERE WHAT IT READS IS OF BULK AT MOST 1048576: true; the input reads as it did. -/
def fnCodesUptoRow : OpenClaim := { program := "ytbinjcmfbkhbjab", sum := "b150bc171a2544c025fef07b310c9f5dd3c6a6a57763298984058859eed45fdf", func := "loop.example/g00384/laws.FnCodes", spec := "fnCodes", apart := false, narrowed := true }
def FnCodesUptoSaid : Prop := fnCodesUptoRow.holds Try.pinned (OpenSpec.upto fnCodesSpec)

/-- 'laws.FnReadCode', WHERE WHAT IT READS IS OF BULK AT MOST 1048576: true; the input reads as it did. -/
def fnReadCodeUptoRow : OpenClaim := { program := "ytbinjcmfbkhbjab", sum := "b150bc171a2544c025fef07b310c9f5dd3c6a6a57763298984058859eed45fdf", func := "loop.example/g00384/laws.FnReadCode", spec := "fnReadCode", apart := false, narrowed := true }
def FnReadCodeUptoSaid : Prop := fnReadCodeUptoRow.holds Try.pinned (OpenSpec.upto fnReadCodeSpec)

end Rows
end Go.Proofs.Ytbinjcmfbkhbjab
