/-
  No cell of these rows narrows 'for every input' (looked for: loops, veiled, ifaces, maps, wideKeys, modest, calm, conditions, laid).
  DERIVED. THE GIVEN ROWS OF THIS SEAT. 8 by the template 'for every input the law returns true; each argument reads behind the call as it read before'; 0 by the template 'total and deterministic' (their statements: YtafokmegmkbiaaaTotals.lean).
  GIVEN WITH THE SEED: the statements are not yours to turn. If you find one false, say at which input.
  Laid BY PROGRAM, IN A SANDBOX (cutbox-rows.mjs): the forced cells as the released guide's own fill.sh prints them over the translation 9f56a528ef3c5a46… (all of the seat's roots in one cut). By AI agents, Wed Nov 11 2026. No macro, syntax, notation, axiom, sorry.
-/
import Derived.Test.YtafokmegmkbiaaaChecked
import GoSem.Claim
import GoSem.ClaimJoined
import GoSem.ClaimMapViews
import Derived.JoinedTies
import Derived.KernelRfl
namespace Go.Proofs.Ytafokmegmkbiaaa
/- THE CELL 'sum', in the pinned program and in every row, IS THE sha256 OF THE DUMP (.gsa) THAT YtafokmegmkbiaaaProg.lean LOADS. Nothing in Lean hashes anything: it is a label: what it is worth is what the hold of that sum in a sandbox is worth. -/
noncomputable def Try.pinned : Pinned := { name := "ytafokmegmkbiaaa", sum := "9f56a528ef3c5a461fd1ede61ac3280d5f2c054ca3f0d9c0f1bc79bfea014987", checked := Try.checked }
namespace Rows
def none {H : Type} : Left H := { results := [], args := [] }

/-- 'laws.FnLeft': WHATEVER THE INPUT: true; the input reads as it did. -/
def fnLeftSpec : ChangeSpec := { name := "fnLeft", fn := fun _ => fun
  | [d] => { results := [.lit (.bool true)], args := [d] }
  | _ => none }
def fnLeftRow : OpenClaim := { program := "ytafokmegmkbiaaa", sum := "9f56a528ef3c5a461fd1ede61ac3280d5f2c054ca3f0d9c0f1bc79bfea014987", func := "loop.example/g00384/laws.FnLeft", spec := "fnLeft", unfollowed := true, recurses := true, apart := false }
def FnLeftSaid : Prop := fnLeftRow.holds Try.pinned (OpenSpec.ofChange fnLeftSpec)

/-- ITS FALSE NEIGHBOUR: 'it returns false'. Refute it at one input. -/
def fnLeftWrong : ChangeSpec := { name := "fnLeft", fn := fun _ => fun
  | [d] => { results := [.lit (.bool false)], args := [d] }
  | _ => none }
def FnLeftWrongFalsely : Prop := fnLeftRow.holds Try.pinned (OpenSpec.ofChange fnLeftWrong)

/-- 'laws.FnLineNew': WHATEVER THE INPUT: true; the input reads as it did. -/
def fnLineNewSpec : ChangeSpec := { name := "fnLineNew", fn := fun _ => fun
  | [d] => { results := [.lit (.bool true)], args := [d] }
  | _ => none }
def fnLineNewRow : OpenClaim := { program := "ytafokmegmkbiaaa", sum := "9f56a528ef3c5a461fd1ede61ac3280d5f2c054ca3f0d9c0f1bc79bfea014987", func := "loop.example/g00384/laws.FnLineNew", spec := "fnLineNew", apart := false }
def FnLineNewSaid : Prop := fnLineNewRow.holds Try.pinned (OpenSpec.ofChange fnLineNewSpec)

/-- ITS FALSE NEIGHBOUR: 'it returns false'. Refute it at one input. -/
def fnLineNewWrong : ChangeSpec := { name := "fnLineNew", fn := fun _ => fun
  | [d] => { results := [.lit (.bool false)], args := [d] }
  | _ => none }
def FnLineNewWrongFalsely : Prop := fnLineNewRow.holds Try.pinned (OpenSpec.ofChange fnLineNewWrong)

/-- 'laws.FnExactSlotOk': WHATEVER THE INPUT: true; the input reads as it did. -/
def fnExactSlotOkSpec : ChangeSpec := { name := "fnExactSlotOk", fn := fun _ => fun
  | [d] => { results := [.lit (.bool true)], args := [d] }
  | _ => none }
def fnExactSlotOkRow : OpenClaim := { program := "ytafokmegmkbiaaa", sum := "9f56a528ef3c5a461fd1ede61ac3280d5f2c054ca3f0d9c0f1bc79bfea014987", func := "loop.example/g00384/laws.FnExactSlotOk", spec := "fnExactSlotOk", apart := false }
def FnExactSlotOkSaid : Prop := fnExactSlotOkRow.holds Try.pinned (OpenSpec.ofChange fnExactSlotOkSpec)

/-- ITS FALSE NEIGHBOUR: 'it returns false'. Refute it at one input. -/
def fnExactSlotOkWrong : ChangeSpec := { name := "fnExactSlotOk", fn := fun _ => fun
  | [d] => { results := [.lit (.bool false)], args := [d] }
  | _ => none }
def FnExactSlotOkWrongFalsely : Prop := fnExactSlotOkRow.holds Try.pinned (OpenSpec.ofChange fnExactSlotOkWrong)

/-- 'laws.FnExactAsked': WHATEVER THE INPUT: true; the input reads as it did. -/
def fnExactAskedSpec : ChangeSpec := { name := "fnExactAsked", fn := fun _ => fun
  | [d1, d2, d3] => { results := [.lit (.bool true)], args := [d1, d2, d3] }
  | _ => none }
def fnExactAskedRow : OpenClaim := { program := "ytafokmegmkbiaaa", sum := "9f56a528ef3c5a461fd1ede61ac3280d5f2c054ca3f0d9c0f1bc79bfea014987", func := "loop.example/g00384/laws.FnExactAsked", spec := "fnExactAsked", unfollowed := true, recurses := true, apart := false }
def FnExactAskedSaid : Prop := fnExactAskedRow.holds Try.pinned (OpenSpec.ofChange fnExactAskedSpec)

/-- ITS FALSE NEIGHBOUR: 'it returns false'. Refute it at one input. -/
def fnExactAskedWrong : ChangeSpec := { name := "fnExactAsked", fn := fun _ => fun
  | [d1, d2, d3] => { results := [.lit (.bool false)], args := [d1, d2, d3] }
  | _ => none }
def FnExactAskedWrongFalsely : Prop := fnExactAskedRow.holds Try.pinned (OpenSpec.ofChange fnExactAskedWrong)

/-- 'laws.FnExactStored': WHATEVER THE INPUT: true; the input reads as it did. -/
def fnExactStoredSpec : ChangeSpec := { name := "fnExactStored", fn := fun _ => fun
  | [d1, d2, d3, d4] => { results := [.lit (.bool true)], args := [d1, d2, d3, d4] }
  | _ => none }
def fnExactStoredRow : OpenClaim := { program := "ytafokmegmkbiaaa", sum := "9f56a528ef3c5a461fd1ede61ac3280d5f2c054ca3f0d9c0f1bc79bfea014987", func := "loop.example/g00384/laws.FnExactStored", spec := "fnExactStored", unfollowed := true, recurses := true, apart := false }
def FnExactStoredSaid : Prop := fnExactStoredRow.holds Try.pinned (OpenSpec.ofChange fnExactStoredSpec)

/-- ITS FALSE NEIGHBOUR: 'it returns false'. Refute it at one input. -/
def fnExactStoredWrong : ChangeSpec := { name := "fnExactStored", fn := fun _ => fun
  | [d1, d2, d3, d4] => { results := [.lit (.bool false)], args := [d1, d2, d3, d4] }
  | _ => none }
def FnExactStoredWrongFalsely : Prop := fnExactStoredRow.holds Try.pinned (OpenSpec.ofChange fnExactStoredWrong)

/-- 'laws.FnExactLeft': WHATEVER THE INPUT: true; the input reads as it did. -/
def fnExactLeftSpec : ChangeSpec := { name := "fnExactLeft", fn := fun _ => fun
  | [d1, d2, d3] => { results := [.lit (.bool true)], args := [d1, d2, d3] }
  | _ => none }
def fnExactLeftRow : OpenClaim := { program := "ytafokmegmkbiaaa", sum := "9f56a528ef3c5a461fd1ede61ac3280d5f2c054ca3f0d9c0f1bc79bfea014987", func := "loop.example/g00384/laws.FnExactLeft", spec := "fnExactLeft", unfollowed := true, recurses := true, apart := false }
def FnExactLeftSaid : Prop := fnExactLeftRow.holds Try.pinned (OpenSpec.ofChange fnExactLeftSpec)

/-- ITS FALSE NEIGHBOUR: 'it returns false'. Refute it at one input. -/
def fnExactLeftWrong : ChangeSpec := { name := "fnExactLeft", fn := fun _ => fun
  | [d1, d2, d3] => { results := [.lit (.bool false)], args := [d1, d2, d3] }
  | _ => none }
def FnExactLeftWrongFalsely : Prop := fnExactLeftRow.holds Try.pinned (OpenSpec.ofChange fnExactLeftWrong)

/-- 'laws.FnExactLineOk': WHATEVER THE INPUT: true; the input reads as it did. -/
def fnExactLineOkSpec : ChangeSpec := { name := "fnExactLineOk", fn := fun _ => fun
  | [d] => { results := [.lit (.bool true)], args := [d] }
  | _ => none }
def fnExactLineOkRow : OpenClaim := { program := "ytafokmegmkbiaaa", sum := "9f56a528ef3c5a461fd1ede61ac3280d5f2c054ca3f0d9c0f1bc79bfea014987", func := "loop.example/g00384/laws.FnExactLineOk", spec := "fnExactLineOk", apart := false }
def FnExactLineOkSaid : Prop := fnExactLineOkRow.holds Try.pinned (OpenSpec.ofChange fnExactLineOkSpec)

/-- ITS FALSE NEIGHBOUR: 'it returns false'. Refute it at one input. -/
def fnExactLineOkWrong : ChangeSpec := { name := "fnExactLineOk", fn := fun _ => fun
  | [d] => { results := [.lit (.bool false)], args := [d] }
  | _ => none }
def FnExactLineOkWrongFalsely : Prop := fnExactLineOkRow.holds Try.pinned (OpenSpec.ofChange fnExactLineOkWrong)

/-- 'laws.FnExactLineNew': WHATEVER THE INPUT: true; the input reads as it did. -/
def fnExactLineNewSpec : ChangeSpec := { name := "fnExactLineNew", fn := fun _ => fun
  | [d] => { results := [.lit (.bool true)], args := [d] }
  | _ => none }
def fnExactLineNewRow : OpenClaim := { program := "ytafokmegmkbiaaa", sum := "9f56a528ef3c5a461fd1ede61ac3280d5f2c054ca3f0d9c0f1bc79bfea014987", func := "loop.example/g00384/laws.FnExactLineNew", spec := "fnExactLineNew", apart := false }
def FnExactLineNewSaid : Prop := fnExactLineNewRow.holds Try.pinned (OpenSpec.ofChange fnExactLineNewSpec)

/-- ITS FALSE NEIGHBOUR: 'it returns false'. Refute it at one input. -/
def fnExactLineNewWrong : ChangeSpec := { name := "fnExactLineNew", fn := fun _ => fun
  | [d] => { results := [.lit (.bool false)], args := [d] }
  | _ => none }
def FnExactLineNewWrongFalsely : Prop := fnExactLineNewRow.holds Try.pinned (OpenSpec.ofChange fnExactLineNewWrong)

/- THE SECOND FORM. 'bulk': how many values and letters a reading holds, each counted each time it is reached (what is shared counts as often as it is met; a slice's spare places count too). A statement '..UptoSaid' is the law's where the arguments, and the package variables that the reading takes, are together of bulk at most 1048576: NARROWER than '..Said'. Prove '..Said' where nothing that the law and all that it calls make is longer than what came in: it says more and counts as full. Else prove '..UptoSaid'. A law counts once. -/
mutual
def uptoBulk {H : Type} : DataW H → Nat
  | .lit (.string bytes) => bytes.length + 1
  | .lit _ => 1
  | .nil => 1
  | .ptr d => uptoBulk d + 1
  | .slice elems spare => uptoBulkAll elems + uptoBulkAll spare + 1
  | .agg parts => uptoBulkAll parts + 1
  | .iface _ d => uptoBulk d + 1
  | .map entries => uptoBulkEntries entries + 1
  | .held _ => 1
def uptoBulkAll {H : Type} : List (DataW H) → Nat
  | [] => 0
  | d :: r => uptoBulk d + uptoBulkAll r
def uptoBulkEntries {H : Type} : List (Lit × DataW H) → Nat
  | [] => 0
  | x :: r => uptoBulkEntry x + uptoBulkEntries r
def uptoBulkEntry {H : Type} : Lit × DataW H → Nat
  | (.string bytes, d) => bytes.length + uptoBulk d + 1
  | (_, d) => uptoBulk d + 1
 end
def uptoSmall : (H : Type) → List (DataW H) → Bool := fun _ ds => decide (uptoBulkAll ds ≤ 1048576)
def OpenSpec.upto (s : _root_.Go.ChangeSpec) : _root_.Go.OpenSpec := { _root_.Go.OpenSpec.ofChange s with cond := some uptoSmall }

/-- 'laws.FnLeft', WHERE WHAT IT READS IS OF BULK AT MOST 1048576: true; the input reads as it did. -/
def fnLeftUptoRow : OpenClaim := { program := "ytafokmegmkbiaaa", sum := "9f56a528ef3c5a461fd1ede61ac3280d5f2c054ca3f0d9c0f1bc79bfea014987", func := "loop.example/g00384/laws.FnLeft", spec := "fnLeft", unfollowed := true, recurses := true, apart := false, narrowed := true }
def FnLeftUptoSaid : Prop := fnLeftUptoRow.holds Try.pinned (OpenSpec.upto fnLeftSpec)

/-- 'laws.FnLineNew', WHERE WHAT IT READS IS OF BULK AT MOST 1048576: true; the input reads as it did. -/
def fnLineNewUptoRow : OpenClaim := { program := "ytafokmegmkbiaaa", sum := "9f56a528ef3c5a461fd1ede61ac3280d5f2c054ca3f0d9c0f1bc79bfea014987", func := "loop.example/g00384/laws.FnLineNew", spec := "fnLineNew", apart := false, narrowed := true }
def FnLineNewUptoSaid : Prop := fnLineNewUptoRow.holds Try.pinned (OpenSpec.upto fnLineNewSpec)

/-- 'laws.FnExactSlotOk', WHERE WHAT IT READS IS OF BULK AT MOST 1048576: true; the input reads as it did. -/
def fnExactSlotOkUptoRow : OpenClaim := { program := "ytafokmegmkbiaaa", sum := "9f56a528ef3c5a461fd1ede61ac3280d5f2c054ca3f0d9c0f1bc79bfea014987", func := "loop.example/g00384/laws.FnExactSlotOk", spec := "fnExactSlotOk", apart := false, narrowed := true }
def FnExactSlotOkUptoSaid : Prop := fnExactSlotOkUptoRow.holds Try.pinned (OpenSpec.upto fnExactSlotOkSpec)

/-- 'laws.FnExactAsked', WHERE WHAT IT READS IS OF BULK AT MOST 1048576: true; the input reads as it did. -/
def fnExactAskedUptoRow : OpenClaim := { program := "ytafokmegmkbiaaa", sum := "9f56a528ef3c5a461fd1ede61ac3280d5f2c054ca3f0d9c0f1bc79bfea014987", func := "loop.example/g00384/laws.FnExactAsked", spec := "fnExactAsked", unfollowed := true, recurses := true, apart := false, narrowed := true }
def FnExactAskedUptoSaid : Prop := fnExactAskedUptoRow.holds Try.pinned (OpenSpec.upto fnExactAskedSpec)

/-- 'laws.FnExactStored', WHERE WHAT IT READS IS OF BULK AT MOST 1048576: true; the input reads as it did. -/
def fnExactStoredUptoRow : OpenClaim := { program := "ytafokmegmkbiaaa", sum := "9f56a528ef3c5a461fd1ede61ac3280d5f2c054ca3f0d9c0f1bc79bfea014987", func := "loop.example/g00384/laws.FnExactStored", spec := "fnExactStored", unfollowed := true, recurses := true, apart := false, narrowed := true }
def FnExactStoredUptoSaid : Prop := fnExactStoredUptoRow.holds Try.pinned (OpenSpec.upto fnExactStoredSpec)

/-- 'laws.FnExactLeft', WHERE WHAT IT READS IS OF BULK AT MOST 1048576: true; the input reads as it did. -/
def fnExactLeftUptoRow : OpenClaim := { program := "ytafokmegmkbiaaa", sum := "9f56a528ef3c5a461fd1ede61ac3280d5f2c054ca3f0d9c0f1bc79bfea014987", func := "loop.example/g00384/laws.FnExactLeft", spec := "fnExactLeft", unfollowed := true, recurses := true, apart := false, narrowed := true }
def FnExactLeftUptoSaid : Prop := fnExactLeftUptoRow.holds Try.pinned (OpenSpec.upto fnExactLeftSpec)

/-- 'laws.FnExactLineOk', WHERE WHAT IT READS IS OF BULK AT MOST 1048576: true; the input reads as it did. -/
def fnExactLineOkUptoRow : OpenClaim := { program := "ytafokmegmkbiaaa", sum := "9f56a528ef3c5a461fd1ede61ac3280d5f2c054ca3f0d9c0f1bc79bfea014987", func := "loop.example/g00384/laws.FnExactLineOk", spec := "fnExactLineOk", apart := false, narrowed := true }
def FnExactLineOkUptoSaid : Prop := fnExactLineOkUptoRow.holds Try.pinned (OpenSpec.upto fnExactLineOkSpec)

/-- 'laws.FnExactLineNew', WHERE WHAT IT READS IS OF BULK AT MOST 1048576: true; the input reads as it did. -/
def fnExactLineNewUptoRow : OpenClaim := { program := "ytafokmegmkbiaaa", sum := "9f56a528ef3c5a461fd1ede61ac3280d5f2c054ca3f0d9c0f1bc79bfea014987", func := "loop.example/g00384/laws.FnExactLineNew", spec := "fnExactLineNew", apart := false, narrowed := true }
def FnExactLineNewUptoSaid : Prop := fnExactLineNewUptoRow.holds Try.pinned (OpenSpec.upto fnExactLineNewSpec)

end Rows
end Go.Proofs.Ytafokmegmkbiaaa
