/-
  No cell of these rows narrows 'for every input' (looked for: loops, veiled, ifaces, maps, wideKeys, modest, calm, conditions, laid).
  DERIVED. THE GIVEN ROWS OF THIS SEAT. 6 by the template 'for every input the law returns true; each argument reads behind the call as it read before'; 0 by the template 'total and deterministic' (their statements: YtaifflodnnflfaaTotals.lean).
  GIVEN WITH THE SEED: the statements are not yours to turn. If you find one false, say at which input.
  Laid BY PROGRAM, IN A SANDBOX (cutbox-rows.mjs): the forced cells as the released guide's own fill.sh prints them over the translation d3778abef767c37d… (all of the seat's roots in one cut). By AI agents, Wed Nov 11 2026. No macro, syntax, notation, axiom, sorry.
-/
import Derived.Test.YtaifflodnnflfaaChecked
import GoSem.Claim
import GoSem.ClaimJoined
import GoSem.ClaimMapViews
import Derived.JoinedTies
import Derived.KernelRfl
namespace Go.Proofs.Ytaifflodnnflfaa
/- THE CELL 'sum', in the pinned program and in every row, IS THE sha256 OF THE DUMP (.gsa) THAT YtaifflodnnflfaaProg.lean LOADS. Nothing in Lean hashes anything: it is a label: what it is worth is what the hold of that sum in a sandbox is worth. -/
noncomputable def Try.pinned : Pinned := { name := "ytaifflodnnflfaa", sum := "d3778abef767c37d0d5432061e38c47e1f210e0b017062d247994250fdf59607", checked := Try.checked }
namespace Rows
def none {H : Type} : Left H := { results := [], args := [] }

/-- 'laws.FnExactPairOk': WHATEVER THE INPUT: true; the input reads as it did. -/
def fnExactPairOkSpec : ChangeSpec := { name := "fnExactPairOk", fn := fun _ => fun
  | [d] => { results := [.lit (.bool true)], args := [d] }
  | _ => none }
def fnExactPairOkRow : OpenClaim := { program := "ytaifflodnnflfaa", sum := "d3778abef767c37d0d5432061e38c47e1f210e0b017062d247994250fdf59607", func := "loop.example/g00384/laws.FnExactPairOk", spec := "fnExactPairOk", apart := false }
def FnExactPairOkSaid : Prop := fnExactPairOkRow.holds Try.pinned (OpenSpec.ofChange fnExactPairOkSpec)

/-- ITS FALSE NEIGHBOUR: 'it returns false'. Refute it at one input. -/
def fnExactPairOkWrong : ChangeSpec := { name := "fnExactPairOk", fn := fun _ => fun
  | [d] => { results := [.lit (.bool false)], args := [d] }
  | _ => none }
def FnExactPairOkWrongFalsely : Prop := fnExactPairOkRow.holds Try.pinned (OpenSpec.ofChange fnExactPairOkWrong)

/-- 'laws.FnExactPairNew': WHATEVER THE INPUT: true; the input reads as it did. -/
def fnExactPairNewSpec : ChangeSpec := { name := "fnExactPairNew", fn := fun _ => fun
  | [d] => { results := [.lit (.bool true)], args := [d] }
  | _ => none }
def fnExactPairNewRow : OpenClaim := { program := "ytaifflodnnflfaa", sum := "d3778abef767c37d0d5432061e38c47e1f210e0b017062d247994250fdf59607", func := "loop.example/g00384/laws.FnExactPairNew", spec := "fnExactPairNew", apart := false }
def FnExactPairNewSaid : Prop := fnExactPairNewRow.holds Try.pinned (OpenSpec.ofChange fnExactPairNewSpec)

/-- ITS FALSE NEIGHBOUR: 'it returns false'. Refute it at one input. -/
def fnExactPairNewWrong : ChangeSpec := { name := "fnExactPairNew", fn := fun _ => fun
  | [d] => { results := [.lit (.bool false)], args := [d] }
  | _ => none }
def FnExactPairNewWrongFalsely : Prop := fnExactPairNewRow.holds Try.pinned (OpenSpec.ofChange fnExactPairNewWrong)

/-- 'laws.FnExactPairRead': WHATEVER THE INPUT: true; the input reads as it did. -/
def fnExactPairReadSpec : ChangeSpec := { name := "fnExactPairRead", fn := fun _ => fun
  | [d1, d2] => { results := [.lit (.bool true)], args := [d1, d2] }
  | _ => none }
def fnExactPairReadRow : OpenClaim := { program := "ytaifflodnnflfaa", sum := "d3778abef767c37d0d5432061e38c47e1f210e0b017062d247994250fdf59607", func := "loop.example/g00384/laws.FnExactPairRead", spec := "fnExactPairRead", apart := false }
def FnExactPairReadSaid : Prop := fnExactPairReadRow.holds Try.pinned (OpenSpec.ofChange fnExactPairReadSpec)

/-- ITS FALSE NEIGHBOUR: 'it returns false'. Refute it at one input. -/
def fnExactPairReadWrong : ChangeSpec := { name := "fnExactPairRead", fn := fun _ => fun
  | [d1, d2] => { results := [.lit (.bool false)], args := [d1, d2] }
  | _ => none }
def FnExactPairReadWrongFalsely : Prop := fnExactPairReadRow.holds Try.pinned (OpenSpec.ofChange fnExactPairReadWrong)

/-- 'laws.FnExactPairFail': WHATEVER THE INPUT: true; the input reads as it did. -/
def fnExactPairFailSpec : ChangeSpec := { name := "fnExactPairFail", fn := fun _ => fun
  | [d1, d2] => { results := [.lit (.bool true)], args := [d1, d2] }
  | _ => none }
def fnExactPairFailRow : OpenClaim := { program := "ytaifflodnnflfaa", sum := "d3778abef767c37d0d5432061e38c47e1f210e0b017062d247994250fdf59607", func := "loop.example/g00384/laws.FnExactPairFail", spec := "fnExactPairFail", apart := false }
def FnExactPairFailSaid : Prop := fnExactPairFailRow.holds Try.pinned (OpenSpec.ofChange fnExactPairFailSpec)

/-- ITS FALSE NEIGHBOUR: 'it returns false'. Refute it at one input. -/
def fnExactPairFailWrong : ChangeSpec := { name := "fnExactPairFail", fn := fun _ => fun
  | [d1, d2] => { results := [.lit (.bool false)], args := [d1, d2] }
  | _ => none }
def FnExactPairFailWrongFalsely : Prop := fnExactPairFailRow.holds Try.pinned (OpenSpec.ofChange fnExactPairFailWrong)

/-- 'laws.FnExactPairMend': WHATEVER THE INPUT: true; the input reads as it did. -/
def fnExactPairMendSpec : ChangeSpec := { name := "fnExactPairMend", fn := fun _ => fun
  | [d] => { results := [.lit (.bool true)], args := [d] }
  | _ => none }
def fnExactPairMendRow : OpenClaim := { program := "ytaifflodnnflfaa", sum := "d3778abef767c37d0d5432061e38c47e1f210e0b017062d247994250fdf59607", func := "loop.example/g00384/laws.FnExactPairMend", spec := "fnExactPairMend", apart := false }
def FnExactPairMendSaid : Prop := fnExactPairMendRow.holds Try.pinned (OpenSpec.ofChange fnExactPairMendSpec)

/-- ITS FALSE NEIGHBOUR: 'it returns false'. Refute it at one input. -/
def fnExactPairMendWrong : ChangeSpec := { name := "fnExactPairMend", fn := fun _ => fun
  | [d] => { results := [.lit (.bool false)], args := [d] }
  | _ => none }
def FnExactPairMendWrongFalsely : Prop := fnExactPairMendRow.holds Try.pinned (OpenSpec.ofChange fnExactPairMendWrong)

/-- 'laws.FnExactPairWrite': WHATEVER THE INPUT: true; the input reads as it did. -/
def fnExactPairWriteSpec : ChangeSpec := { name := "fnExactPairWrite", fn := fun _ => fun
  | [d1, d2, d3] => { results := [.lit (.bool true)], args := [d1, d2, d3] }
  | _ => none }
def fnExactPairWriteRow : OpenClaim := { program := "ytaifflodnnflfaa", sum := "d3778abef767c37d0d5432061e38c47e1f210e0b017062d247994250fdf59607", func := "loop.example/g00384/laws.FnExactPairWrite", spec := "fnExactPairWrite", apart := false }
def FnExactPairWriteSaid : Prop := fnExactPairWriteRow.holds Try.pinned (OpenSpec.ofChange fnExactPairWriteSpec)

/-- ITS FALSE NEIGHBOUR: 'it returns false'. Refute it at one input. -/
def fnExactPairWriteWrong : ChangeSpec := { name := "fnExactPairWrite", fn := fun _ => fun
  | [d1, d2, d3] => { results := [.lit (.bool false)], args := [d1, d2, d3] }
  | _ => none }
def FnExactPairWriteWrongFalsely : Prop := fnExactPairWriteRow.holds Try.pinned (OpenSpec.ofChange fnExactPairWriteWrong)

/- THE SECOND FORM. 'bulk': how many values and letters a reading holds, each counted each time it is reached (what is shared counts as often as it is met; a slice's spare places count too). A statement '..UptoSaid' is the law's where the arguments, and the package variables that the reading takes, are together of bulk at most 1048576: NARROWER than '..Said'. Prove '..Said' where nothing that the law and all that it calls make is longer than what came in: it says more and counts as full. Else prove '..UptoSaid'. A law counts once. -/
mutual
def uptoBulk {H : Type} : DataW H → Nat
  | .lit (.string bytes) => bytes.length + 1
  | .lit _ => 1
  | .nil => 1
  | .ptr d => uptoBulk d + 1
  | .slice elems spare => uptoBulkAll elems + uptoBulkAll spare + 1
  | .agg parts => uptoBulkAll parts + 1
  | .iface _ d => uptoBulk d + 1
  | .map entries => uptoBulkEntries entries + 1
  | .held _ => 1
def uptoBulkAll {H : Type} : List (DataW H) → Nat
  | [] => 0
  | d :: r => uptoBulk d + uptoBulkAll r
def uptoBulkEntries {H : Type} : List (Lit × DataW H) → Nat
  | [] => 0
  | x :: r => uptoBulkEntry x + uptoBulkEntries r
def uptoBulkEntry {H : Type} : Lit × DataW H → Nat
  | (.string bytes, d) => bytes.length + uptoBulk d + 1
  | (_, d) => uptoBulk d + 1
 end
def uptoSmall : (H : Type) → List (DataW H) → Bool := fun _ ds => decide (uptoBulkAll ds ≤ 1048576)
def OpenSpec.upto (s : _root_.Go.ChangeSpec) : _root_.Go.OpenSpec := { _root_.Go.OpenSpec.ofChange s with cond := some uptoSmall }

/-- 'laws.FnExactPairOk', WHERE WHAT IT READS IS OF BULK AT MOST 1048576: true; the input reads as it did. -/
def fnExactPairOkUptoRow : OpenClaim := { program := "ytaifflodnnflfaa", sum := "d3778abef767c37d0d5432061e38c47e1f210e0b017062d247994250fdf59607", func := "loop.example/g00384/laws.FnExactPairOk", spec := "fnExactPairOk", apart := false, narrowed := true }
def FnExactPairOkUptoSaid : Prop := fnExactPairOkUptoRow.holds Try.pinned (OpenSpec.upto fnExactPairOkSpec)

/-- 'laws.FnExactPairNew', WHERE WHAT IT READS IS OF BULK AT MOST 1048576: true; the input reads as it did. -/
def fnExactPairNewUptoRow : OpenClaim := { program := "ytaifflodnnflfaa", sum := "d3778abef767c37d0d5432061e38c47e1f210e0b017062d247994250fdf59607", func := "loop.example/g00384/laws.FnExactPairNew", spec := "fnExactPairNew", apart := false, narrowed := true }
def FnExactPairNewUptoSaid : Prop := fnExactPairNewUptoRow.holds Try.pinned (OpenSpec.upto fnExactPairNewSpec)

/-- 'laws.FnExactPairRead', WHERE WHAT IT READS IS OF BULK AT MOST 1048576: true; the input reads as it did. -/
def fnExactPairReadUptoRow : OpenClaim := { program := "ytaifflodnnflfaa", sum := "d3778abef767c37d0d5432061e38c47e1f210e0b017062d247994250fdf59607", func := "loop.example/g00384/laws.FnExactPairRead", spec := "fnExactPairRead", apart := false, narrowed := true }
def FnExactPairReadUptoSaid : Prop := fnExactPairReadUptoRow.holds Try.pinned (OpenSpec.upto fnExactPairReadSpec)

/-- 'laws.FnExactPairFail', WHERE WHAT IT READS IS OF BULK AT MOST 1048576: true; the input reads as it did. -/
def fnExactPairFailUptoRow : OpenClaim := { program := "ytaifflodnnflfaa", sum := "d3778abef767c37d0d5432061e38c47e1f210e0b017062d247994250fdf59607", func := "loop.example/g00384/laws.FnExactPairFail", spec := "fnExactPairFail", apart := false, narrowed := true }
def FnExactPairFailUptoSaid : Prop := fnExactPairFailUptoRow.holds Try.pinned (OpenSpec.upto fnExactPairFailSpec)

/-- 'laws.FnExactPairMend', WHERE WHAT IT READS IS OF BULK AT MOST 1048576: true; the input reads as it did. -/
def fnExactPairMendUptoRow : OpenClaim := { program := "ytaifflodnnflfaa", sum := "d3778abef767c37d0d5432061e38c47e1f210e0b017062d247994250fdf59607", func := "loop.example/g00384/laws.FnExactPairMend", spec := "fnExactPairMend", apart := false, narrowed := true }
def FnExactPairMendUptoSaid : Prop := fnExactPairMendUptoRow.holds Try.pinned (OpenSpec.upto fnExactPairMendSpec)

/-- 'laws.FnExactPairWrite', WHERE WHAT IT READS IS OF BULK AT MOST 1048576: true; the input reads as it did. -/
def fnExactPairWriteUptoRow : OpenClaim := { program := "ytaifflodnnflfaa", sum := "d3778abef767c37d0d5432061e38c47e1f210e0b017062d247994250fdf59607", func := "loop.example/g00384/laws.FnExactPairWrite", spec := "fnExactPairWrite", apart := false, narrowed := true }
def FnExactPairWriteUptoSaid : Prop := fnExactPairWriteUptoRow.holds Try.pinned (OpenSpec.upto fnExactPairWriteSpec)

end Rows
end Go.Proofs.Ytaifflodnnflfaa
