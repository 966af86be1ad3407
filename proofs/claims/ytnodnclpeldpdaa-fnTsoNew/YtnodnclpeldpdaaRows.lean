/-
  No cell of these rows narrows 'for every input' (looked for: loops, veiled, ifaces, maps, wideKeys, modest, calm, conditions, laid).
  DERIVED. THE GIVEN ROWS OF THIS SEAT. 8 by the template 'for every input the law returns true; each argument reads behind the call as it read before'; 0 by the template 'total and deterministic' (their statements: YtnodnclpeldpdaaTotals.lean).
  GIVEN WITH THE SEED: the statements are not yours to turn. If you find one false, say at which input.
  Laid BY PROGRAM, IN A SANDBOX (cutbox-rows.mjs): the forced cells as the released guide's own fill.sh prints them over the translation b29bad78232a4fb4… (all of the seat's roots in one cut). By AI agents, Wed Nov 11 2026. No macro, syntax, notation, axiom, sorry.
-/
import Derived.Test.YtnodnclpeldpdaaChecked
import GoSem.Claim
import GoSem.ClaimJoined
import GoSem.ClaimMapViews
import Derived.JoinedTies
import Derived.KernelRfl
namespace Go.Proofs.Ytnodnclpeldpdaa
/- THE CELL 'sum', in the pinned program and in every row, IS THE sha256 OF THE DUMP (.gsa) THAT YtnodnclpeldpdaaProg.lean LOADS. Nothing in Lean hashes anything: it is a label: what it is worth is what the hold of that sum in a sandbox is worth. -/
noncomputable def Try.pinned : Pinned := { name := "ytnodnclpeldpdaa", sum := "b29bad78232a4fb4c38314dd9bb3e5313dc358e9b6dc5396b9de28780c1acd78", checked := Try.checked }
namespace Rows
def none {H : Type} : Left H := { results := [], args := [] }

/-- 'laws.FnExactTsoNew': WHATEVER THE INPUT: true; the input reads as it did. -/
def fnExactTsoNewSpec : ChangeSpec := { name := "fnExactTsoNew", fn := fun _ => fun
  | [d] => { results := [.lit (.bool true)], args := [d] }
  | _ => none }
def fnExactTsoNewRow : OpenClaim := { program := "ytnodnclpeldpdaa", sum := "b29bad78232a4fb4c38314dd9bb3e5313dc358e9b6dc5396b9de28780c1acd78", func := "loop.example/g00384/laws.FnExactTsoNew", spec := "fnExactTsoNew", apart := false }
def FnExactTsoNewSaid : Prop := fnExactTsoNewRow.holds Try.pinned (OpenSpec.ofChange fnExactTsoNewSpec)

/-- ITS FALSE NEIGHBOUR: 'it returns false'. Refute it at one input. -/
def fnExactTsoNewWrong : ChangeSpec := { name := "fnExactTsoNew", fn := fun _ => fun
  | [d] => { results := [.lit (.bool false)], args := [d] }
  | _ => none }
def FnExactTsoNewWrongFalsely : Prop := fnExactTsoNewRow.holds Try.pinned (OpenSpec.ofChange fnExactTsoNewWrong)

/-- 'laws.FnExactSeenBy': WHATEVER THE INPUT: true; the input reads as it did. -/
def fnExactSeenBySpec : ChangeSpec := { name := "fnExactSeenBy", fn := fun _ => fun
  | [d1, d2, d3] => { results := [.lit (.bool true)], args := [d1, d2, d3] }
  | _ => none }
def fnExactSeenByRow : OpenClaim := { program := "ytnodnclpeldpdaa", sum := "b29bad78232a4fb4c38314dd9bb3e5313dc358e9b6dc5396b9de28780c1acd78", func := "loop.example/g00384/laws.FnExactSeenBy", spec := "fnExactSeenBy", apart := false }
def FnExactSeenBySaid : Prop := fnExactSeenByRow.holds Try.pinned (OpenSpec.ofChange fnExactSeenBySpec)

/-- ITS FALSE NEIGHBOUR: 'it returns false'. Refute it at one input. -/
def fnExactSeenByWrong : ChangeSpec := { name := "fnExactSeenBy", fn := fun _ => fun
  | [d1, d2, d3] => { results := [.lit (.bool false)], args := [d1, d2, d3] }
  | _ => none }
def FnExactSeenByWrongFalsely : Prop := fnExactSeenByRow.holds Try.pinned (OpenSpec.ofChange fnExactSeenByWrong)

/-- 'laws.FnExactTsoDo': WHATEVER THE INPUT: true; the input reads as it did. -/
def fnExactTsoDoSpec : ChangeSpec := { name := "fnExactTsoDo", fn := fun _ => fun
  | [d1, d2] => { results := [.lit (.bool true)], args := [d1, d2] }
  | _ => none }
def fnExactTsoDoRow : OpenClaim := { program := "ytnodnclpeldpdaa", sum := "b29bad78232a4fb4c38314dd9bb3e5313dc358e9b6dc5396b9de28780c1acd78", func := "loop.example/g00384/laws.FnExactTsoDo", spec := "fnExactTsoDo", unfollowed := true, recurses := true, apart := false }
def FnExactTsoDoSaid : Prop := fnExactTsoDoRow.holds Try.pinned (OpenSpec.ofChange fnExactTsoDoSpec)

/-- ITS FALSE NEIGHBOUR: 'it returns false'. Refute it at one input. -/
def fnExactTsoDoWrong : ChangeSpec := { name := "fnExactTsoDo", fn := fun _ => fun
  | [d1, d2] => { results := [.lit (.bool false)], args := [d1, d2] }
  | _ => none }
def FnExactTsoDoWrongFalsely : Prop := fnExactTsoDoRow.holds Try.pinned (OpenSpec.ofChange fnExactTsoDoWrong)

/-- 'laws.FnExactTsoPlay': WHATEVER THE INPUT: true; the input reads as it did. -/
def fnExactTsoPlaySpec : ChangeSpec := { name := "fnExactTsoPlay", fn := fun _ => fun
  | [d1, d2] => { results := [.lit (.bool true)], args := [d1, d2] }
  | _ => none }
def fnExactTsoPlayRow : OpenClaim := { program := "ytnodnclpeldpdaa", sum := "b29bad78232a4fb4c38314dd9bb3e5313dc358e9b6dc5396b9de28780c1acd78", func := "loop.example/g00384/laws.FnExactTsoPlay", spec := "fnExactTsoPlay", unfollowed := true, recurses := true, apart := false }
def FnExactTsoPlaySaid : Prop := fnExactTsoPlayRow.holds Try.pinned (OpenSpec.ofChange fnExactTsoPlaySpec)

/-- ITS FALSE NEIGHBOUR: 'it returns false'. Refute it at one input. -/
def fnExactTsoPlayWrong : ChangeSpec := { name := "fnExactTsoPlay", fn := fun _ => fun
  | [d1, d2] => { results := [.lit (.bool false)], args := [d1, d2] }
  | _ => none }
def FnExactTsoPlayWrongFalsely : Prop := fnExactTsoPlayRow.holds Try.pinned (OpenSpec.ofChange fnExactTsoPlayWrong)

/-- 'laws.FnExactDrained': WHATEVER THE INPUT: true; the input reads as it did. -/
def fnExactDrainedSpec : ChangeSpec := { name := "fnExactDrained", fn := fun _ => fun
  | [d] => { results := [.lit (.bool true)], args := [d] }
  | _ => none }
def fnExactDrainedRow : OpenClaim := { program := "ytnodnclpeldpdaa", sum := "b29bad78232a4fb4c38314dd9bb3e5313dc358e9b6dc5396b9de28780c1acd78", func := "loop.example/g00384/laws.FnExactDrained", spec := "fnExactDrained", apart := false }
def FnExactDrainedSaid : Prop := fnExactDrainedRow.holds Try.pinned (OpenSpec.ofChange fnExactDrainedSpec)

/-- ITS FALSE NEIGHBOUR: 'it returns false'. Refute it at one input. -/
def fnExactDrainedWrong : ChangeSpec := { name := "fnExactDrained", fn := fun _ => fun
  | [d] => { results := [.lit (.bool false)], args := [d] }
  | _ => none }
def FnExactDrainedWrongFalsely : Prop := fnExactDrainedRow.holds Try.pinned (OpenSpec.ofChange fnExactDrainedWrong)

/-- 'laws.FnTsoNew': WHATEVER THE INPUT: true; the input reads as it did. -/
def fnTsoNewSpec : ChangeSpec := { name := "fnTsoNew", fn := fun _ => fun
  | [d] => { results := [.lit (.bool true)], args := [d] }
  | _ => none }
def fnTsoNewRow : OpenClaim := { program := "ytnodnclpeldpdaa", sum := "b29bad78232a4fb4c38314dd9bb3e5313dc358e9b6dc5396b9de28780c1acd78", func := "loop.example/g00384/laws.FnTsoNew", spec := "fnTsoNew", apart := false }
def FnTsoNewSaid : Prop := fnTsoNewRow.holds Try.pinned (OpenSpec.ofChange fnTsoNewSpec)

/-- ITS FALSE NEIGHBOUR: 'it returns false'. Refute it at one input. -/
def fnTsoNewWrong : ChangeSpec := { name := "fnTsoNew", fn := fun _ => fun
  | [d] => { results := [.lit (.bool false)], args := [d] }
  | _ => none }
def FnTsoNewWrongFalsely : Prop := fnTsoNewRow.holds Try.pinned (OpenSpec.ofChange fnTsoNewWrong)

/-- 'laws.FnSeen': WHATEVER THE INPUT: true; the input reads as it did. -/
def fnSeenSpec : ChangeSpec := { name := "fnSeen", fn := fun _ => fun
  | [d] => { results := [.lit (.bool true)], args := [d] }
  | _ => none }
def fnSeenRow : OpenClaim := { program := "ytnodnclpeldpdaa", sum := "b29bad78232a4fb4c38314dd9bb3e5313dc358e9b6dc5396b9de28780c1acd78", func := "loop.example/g00384/laws.FnSeen", spec := "fnSeen", apart := false }
def FnSeenSaid : Prop := fnSeenRow.holds Try.pinned (OpenSpec.ofChange fnSeenSpec)

/-- ITS FALSE NEIGHBOUR: 'it returns false'. Refute it at one input. -/
def fnSeenWrong : ChangeSpec := { name := "fnSeen", fn := fun _ => fun
  | [d] => { results := [.lit (.bool false)], args := [d] }
  | _ => none }
def FnSeenWrongFalsely : Prop := fnSeenRow.holds Try.pinned (OpenSpec.ofChange fnSeenWrong)

/-- 'laws.FnFence': WHATEVER THE INPUT: true; the input reads as it did. -/
def fnFenceSpec : ChangeSpec := { name := "fnFence", fn := fun _ => fun
  | [d] => { results := [.lit (.bool true)], args := [d] }
  | _ => none }
def fnFenceRow : OpenClaim := { program := "ytnodnclpeldpdaa", sum := "b29bad78232a4fb4c38314dd9bb3e5313dc358e9b6dc5396b9de28780c1acd78", func := "loop.example/g00384/laws.FnFence", spec := "fnFence", unfollowed := true, recurses := true, apart := false }
def FnFenceSaid : Prop := fnFenceRow.holds Try.pinned (OpenSpec.ofChange fnFenceSpec)

/-- ITS FALSE NEIGHBOUR: 'it returns false'. Refute it at one input. -/
def fnFenceWrong : ChangeSpec := { name := "fnFence", fn := fun _ => fun
  | [d] => { results := [.lit (.bool false)], args := [d] }
  | _ => none }
def FnFenceWrongFalsely : Prop := fnFenceRow.holds Try.pinned (OpenSpec.ofChange fnFenceWrong)

/- THE SECOND FORM. 'bulk': how many values and letters a reading holds, each counted each time it is reached (what is shared counts as often as it is met; a slice's spare places count too). A statement '..UptoSaid' is the law's where the arguments, and the package variables that the reading takes, are together of bulk at most 1048576: NARROWER than '..Said'. Prove '..Said' where nothing that the law and all that it calls make is longer than what came in: it says more and counts as full. Else prove '..UptoSaid'. A law counts once. -/
mutual
def uptoBulk {H : Type} : DataW H → Nat
  | .lit (.string bytes) => bytes.length + 1
  | .lit _ => 1
  | .nil => 1
  | .ptr d => uptoBulk d + 1
  | .slice elems spare => uptoBulkAll elems + uptoBulkAll spare + 1
  | .agg parts => uptoBulkAll parts + 1
  | .iface _ d => uptoBulk d + 1
  | .map entries => uptoBulkEntries entries + 1
  | .held _ => 1
def uptoBulkAll {H : Type} : List (DataW H) → Nat
  | [] => 0
  | d :: r => uptoBulk d + uptoBulkAll r
def uptoBulkEntries {H : Type} : List (Lit × DataW H) → Nat
  | [] => 0
  | x :: r => uptoBulkEntry x + uptoBulkEntries r
def uptoBulkEntry {H : Type} : Lit × DataW H → Nat
  | (.string bytes, d) => bytes.length + uptoBulk d + 1
  | (_, d) => uptoBulk d + 1
 end
def uptoSmall : (H : Type) → List (DataW H) → Bool := fun _ ds => decide (uptoBulkAll ds ≤ 1048576)
def OpenSpec.upto (s : _root_.Go.ChangeSpec) : _root_.Go.OpenSpec := { _root_.Go.OpenSpec.ofChange s with cond := some uptoSmall }

/-- 'laws.FnExactTsoNew', WHERE WHAT IT READS IS OF BULK AT MOST 1048576: true; the input reads as it did. -/
def fnExactTsoNewUptoRow : OpenClaim := { program := "ytnodnclpeldpdaa", sum := "b29bad78232a4fb4c38314dd9bb3e5313dc358e9b6dc5396b9de28780c1acd78", func := "loop.example/g00384/laws.FnExactTsoNew", spec := "fnExactTsoNew", apart := false, narrowed := true }
def FnExactTsoNewUptoSaid : Prop := fnExactTsoNewUptoRow.holds Try.pinned (OpenSpec.upto fnExactTsoNewSpec)

/-- 'laws.FnExactSeenBy', WHERE WHAT IT READS IS OF BULK AT MOST 1048576: true; the input reads as it did. -/
def fnExactSeenByUptoRow : OpenClaim := { program := "ytnodnclpeldpdaa", sum := "b29bad78232a4fb4c38314dd9bb3e5313dc358e9b6dc5396b9de28780c1acd78", func := "loop.example/g00384/laws.FnExactSeenBy", spec := "fnExactSeenBy", apart := false, narrowed := true }
def FnExactSeenByUptoSaid : Prop := fnExactSeenByUptoRow.holds Try.pinned (OpenSpec.upto fnExactSeenBySpec)

/-- 'laws.FnExactTsoDo', WHERE WHAT IT READS IS OF BULK AT MOST 1048576: true; the input reads as it did. -/
def fnExactTsoDoUptoRow : OpenClaim := { program := "ytnodnclpeldpdaa", sum := "b29bad78232a4fb4c38314dd9bb3e5313dc358e9b6dc5396b9de28780c1acd78", func := "loop.example/g00384/laws.FnExactTsoDo", spec := "fnExactTsoDo", unfollowed := true, recurses := true, apart := false, narrowed := true }
def FnExactTsoDoUptoSaid : Prop := fnExactTsoDoUptoRow.holds Try.pinned (OpenSpec.upto fnExactTsoDoSpec)

/-- 'laws.FnExactTsoPlay', WHERE WHAT IT READS IS OF BULK AT MOST 1048576: true; the input reads as it did. -/
def fnExactTsoPlayUptoRow : OpenClaim := { program := "ytnodnclpeldpdaa", sum := "b29bad78232a4fb4c38314dd9bb3e5313dc358e9b6dc5396b9de28780c1acd78", func := "loop.example/g00384/laws.FnExactTsoPlay", spec := "fnExactTsoPlay", unfollowed := true, recurses := true, apart := false, narrowed := true }
def FnExactTsoPlayUptoSaid : Prop := fnExactTsoPlayUptoRow.holds Try.pinned (OpenSpec.upto fnExactTsoPlaySpec)

/-- 'laws.FnExactDrained', WHERE WHAT IT READS IS OF BULK AT MOST 1048576: true; the input reads as it did. -/
def fnExactDrainedUptoRow : OpenClaim := { program := "ytnodnclpeldpdaa", sum := "b29bad78232a4fb4c38314dd9bb3e5313dc358e9b6dc5396b9de28780c1acd78", func := "loop.example/g00384/laws.FnExactDrained", spec := "fnExactDrained", apart := false, narrowed := true }
def FnExactDrainedUptoSaid : Prop := fnExactDrainedUptoRow.holds Try.pinned (OpenSpec.upto fnExactDrainedSpec)

/-- 'laws.FnTsoNew', WHERE WHAT IT READS IS OF BULK AT MOST 1048576: true; the input reads as it did. -/
def fnTsoNewUptoRow : OpenClaim := { program := "ytnodnclpeldpdaa", sum := "b29bad78232a4fb4c38314dd9bb3e5313dc358e9b6dc5396b9de28780c1acd78", func := "loop.example/g00384/laws.FnTsoNew", spec := "fnTsoNew", apart := false, narrowed := true }
def FnTsoNewUptoSaid : Prop := fnTsoNewUptoRow.holds Try.pinned (OpenSpec.upto fnTsoNewSpec)

/-- 'laws.FnSeen', WHERE WHAT IT READS IS OF BULK AT MOST 1048576: true; the input reads as it did. -/
def fnSeenUptoRow : OpenClaim := { program := "ytnodnclpeldpdaa", sum := "b29bad78232a4fb4c38314dd9bb3e5313dc358e9b6dc5396b9de28780c1acd78", func := "loop.example/g00384/laws.FnSeen", spec := "fnSeen", apart := false, narrowed := true }
def FnSeenUptoSaid : Prop := fnSeenUptoRow.holds Try.pinned (OpenSpec.upto fnSeenSpec)

/-- 'laws.FnFence', WHERE WHAT IT READS IS OF BULK AT MOST 1048576: true; the input reads as it did. -/
def fnFenceUptoRow : OpenClaim := { program := "ytnodnclpeldpdaa", sum := "b29bad78232a4fb4c38314dd9bb3e5313dc358e9b6dc5396b9de28780c1acd78", func := "loop.example/g00384/laws.FnFence", spec := "fnFence", unfollowed := true, recurses := true, apart := false, narrowed := true }
def FnFenceUptoSaid : Prop := fnFenceUptoRow.holds Try.pinned (OpenSpec.upto fnFenceSpec)

end Rows
end Go.Proofs.Ytnodnclpeldpdaa
