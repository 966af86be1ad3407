/-
  No cell of these rows narrows 'for every input' (looked for: loops, veiled, ifaces, maps, wideKeys, modest, calm, conditions, laid).
  DERIVED. THE GIVEN ROWS OF THIS SEAT. 5 by the template 'for every input the law returns true; each argument reads behind the call as it read before'; 0 by the template 'total and deterministic' (their statements: YtgafpepmmjjaaaaTotals.lean).
  GIVEN WITH THE SEED: the statements are not yours to turn. If you find one false, say at which input.
  Laid BY PROGRAM, IN A SANDBOX (cutbox-rows.mjs): the forced cells as the released guide's own fill.sh prints them over the translation 4c4460f611dca0a0… (all of the seat's roots in one cut). By AI agents, Wed Nov 11 2026. No macro, syntax, notation, axiom, sorry.
-/
import Derived.Test.YtgafpepmmjjaaaaChecked
import GoSem.Claim
import GoSem.ClaimJoined
import GoSem.ClaimMapViews
import Derived.JoinedTies
import Derived.KernelRfl
namespace Go.Proofs.Ytgafpepmmjjaaaa
/- THE CELL 'sum', in the pinned program and in every row, IS THE sha256 OF THE DUMP (.gsa) THAT YtgafpepmmjjaaaaProg.lean LOADS. Nothing in Lean hashes anything: it is a label: what it is worth is what the hold of that sum in a sandbox is worth. -/
noncomputable def Try.pinned : Pinned := { name := "ytgafpepmmjjaaaa", sum := "4c4460f611dca0a0a6a49509e9207d1ff3924b4f59b83983e95b0d4769160d7f", checked := Try.checked }
namespace Rows
def none {H : Type} : Left H := { results := [], args := [] }

/-- 'laws.FnDists': WHATEVER THE INPUT: true; the input reads as it did. -/
def fnDistsSpec : ChangeSpec := { name := "fnDists", fn := fun _ => fun
  | [d] => { results := [.lit (.bool true)], args := [d] }
  | _ => none }
def fnDistsRow : OpenClaim := { program := "ytgafpepmmjjaaaa", sum := "4c4460f611dca0a0a6a49509e9207d1ff3924b4f59b83983e95b0d4769160d7f", func := "loop.example/g00384/laws.FnDists", spec := "fnDists", unfollowed := true, recurses := true, apart := false }
def FnDistsSaid : Prop := fnDistsRow.holds Try.pinned (OpenSpec.ofChange fnDistsSpec)

/-- ITS FALSE NEIGHBOUR: 'it returns false'. Refute it at one input. -/
def fnDistsWrong : ChangeSpec := { name := "fnDists", fn := fun _ => fun
  | [d] => { results := [.lit (.bool false)], args := [d] }
  | _ => none }
def FnDistsWrongFalsely : Prop := fnDistsRow.holds Try.pinned (OpenSpec.ofChange fnDistsWrong)

/-- 'laws.FnPathBy': WHATEVER THE INPUT: true; the input reads as it did. -/
def fnPathBySpec : ChangeSpec := { name := "fnPathBy", fn := fun _ => fun
  | [d] => { results := [.lit (.bool true)], args := [d] }
  | _ => none }
def fnPathByRow : OpenClaim := { program := "ytgafpepmmjjaaaa", sum := "4c4460f611dca0a0a6a49509e9207d1ff3924b4f59b83983e95b0d4769160d7f", func := "loop.example/g00384/laws.FnPathBy", spec := "fnPathBy", unfollowed := true, recurses := true, apart := false }
def FnPathBySaid : Prop := fnPathByRow.holds Try.pinned (OpenSpec.ofChange fnPathBySpec)

/-- ITS FALSE NEIGHBOUR: 'it returns false'. Refute it at one input. -/
def fnPathByWrong : ChangeSpec := { name := "fnPathBy", fn := fun _ => fun
  | [d] => { results := [.lit (.bool false)], args := [d] }
  | _ => none }
def FnPathByWrongFalsely : Prop := fnPathByRow.holds Try.pinned (OpenSpec.ofChange fnPathByWrong)

/-- 'laws.FnNextHop': WHATEVER THE INPUT: true; the input reads as it did. -/
def fnNextHopSpec : ChangeSpec := { name := "fnNextHop", fn := fun _ => fun
  | [d] => { results := [.lit (.bool true)], args := [d] }
  | _ => none }
def fnNextHopRow : OpenClaim := { program := "ytgafpepmmjjaaaa", sum := "4c4460f611dca0a0a6a49509e9207d1ff3924b4f59b83983e95b0d4769160d7f", func := "loop.example/g00384/laws.FnNextHop", spec := "fnNextHop", unfollowed := true, recurses := true, apart := false }
def FnNextHopSaid : Prop := fnNextHopRow.holds Try.pinned (OpenSpec.ofChange fnNextHopSpec)

/-- ITS FALSE NEIGHBOUR: 'it returns false'. Refute it at one input. -/
def fnNextHopWrong : ChangeSpec := { name := "fnNextHop", fn := fun _ => fun
  | [d] => { results := [.lit (.bool false)], args := [d] }
  | _ => none }
def FnNextHopWrongFalsely : Prop := fnNextHopRow.holds Try.pinned (OpenSpec.ofChange fnNextHopWrong)

/-- 'laws.FnFewer': WHATEVER THE INPUT: true; the input reads as it did. -/
def fnFewerSpec : ChangeSpec := { name := "fnFewer", fn := fun _ => fun
  | [d] => { results := [.lit (.bool true)], args := [d] }
  | _ => none }
def fnFewerRow : OpenClaim := { program := "ytgafpepmmjjaaaa", sum := "4c4460f611dca0a0a6a49509e9207d1ff3924b4f59b83983e95b0d4769160d7f", func := "loop.example/g00384/laws.FnFewer", spec := "fnFewer", unfollowed := true, recurses := true, apart := false }
def FnFewerSaid : Prop := fnFewerRow.holds Try.pinned (OpenSpec.ofChange fnFewerSpec)

/-- ITS FALSE NEIGHBOUR: 'it returns false'. Refute it at one input. -/
def fnFewerWrong : ChangeSpec := { name := "fnFewer", fn := fun _ => fun
  | [d] => { results := [.lit (.bool false)], args := [d] }
  | _ => none }
def FnFewerWrongFalsely : Prop := fnFewerRow.holds Try.pinned (OpenSpec.ofChange fnFewerWrong)

/-- 'laws.FnWhole': WHATEVER THE INPUT: true; the input reads as it did. -/
def fnWholeSpec : ChangeSpec := { name := "fnWhole", fn := fun _ => fun
  | [d] => { results := [.lit (.bool true)], args := [d] }
  | _ => none }
def fnWholeRow : OpenClaim := { program := "ytgafpepmmjjaaaa", sum := "4c4460f611dca0a0a6a49509e9207d1ff3924b4f59b83983e95b0d4769160d7f", func := "loop.example/g00384/laws.FnWhole", spec := "fnWhole", unfollowed := true, recurses := true, apart := false }
def FnWholeSaid : Prop := fnWholeRow.holds Try.pinned (OpenSpec.ofChange fnWholeSpec)

/-- ITS FALSE NEIGHBOUR: 'it returns false'. Refute it at one input. -/
def fnWholeWrong : ChangeSpec := { name := "fnWhole", fn := fun _ => fun
  | [d] => { results := [.lit (.bool false)], args := [d] }
  | _ => none }
def FnWholeWrongFalsely : Prop := fnWholeRow.holds Try.pinned (OpenSpec.ofChange fnWholeWrong)

/- THE SECOND FORM. 'bulk': how many values and letters a reading holds, each counted each time it is reached (what is shared counts as often as it is met; a slice's spare places count too). A statement '..UptoSaid' is the law's where the arguments, and the package variables that the reading takes, are together of bulk at most 1048576: NARROWER than '..Said'. Prove '..Said' where nothing that the law and all that it calls make is longer than what came in: it says more and counts as full. Else prove '..UptoSaid'. A law counts once. -/
mutual
def uptoBulk {H : Type} : DataW H → Nat
  | .lit (.string bytes) => bytes.length + 1
  | .lit _ => 1
  | .nil => 1
  | .ptr d => uptoBulk d + 1
  | .slice elems spare => uptoBulkAll elems + uptoBulkAll spare + 1
  | .agg parts => uptoBulkAll parts + 1
  | .iface _ d => uptoBulk d + 1
  | .map entries => uptoBulkEntries entries + 1
  | .held _ => 1
def uptoBulkAll {H : Type} : List (DataW H) → Nat
  | [] => 0
  | d :: r => uptoBulk d + uptoBulkAll r
def uptoBulkEntries {H : Type} : List (Lit × DataW H) → Nat
  | [] => 0
  | x :: r => uptoBulkEntry x + uptoBulkEntries r
def uptoBulkEntry {H : Type} : Lit × DataW H → Nat
  | (.string bytes, d) => bytes.length + uptoBulk d + 1
  | (_, d) => uptoBulk d + 1
 end
def uptoSmall : (H : Type) → List (DataW H) → Bool := fun _ ds => decide (uptoBulkAll ds ≤ 1048576)
def OpenSpec.upto (s : _root_.Go.ChangeSpec) : _root_.Go.OpenSpec := { _root_.Go.OpenSpec.ofChange s with cond := some uptoSmall }

/-- 'laws.FnDists', WHERE WHAT IT READS IS OF BULK AT MOST 1048576: true; the input reads as it did. -/
def fnDistsUptoRow : OpenClaim := { program := "ytgafpepmmjjaaaa", sum := "4c4460f611dca0a0a6a49509e9207d1ff3924b4f59b83983e95b0d4769160d7f", func := "loop.example/g00384/laws.FnDists", spec := "fnDists", unfollowed := true, recurses := true, apart := false, narrowed := true }
def FnDistsUptoSaid : Prop := fnDistsUptoRow.holds Try.pinned (OpenSpec.upto fnDistsSpec)

/-- 'laws.FnPathBy', WHERE WHAT IT READS IS OF BULK AT MOST 1048576: true; the input reads as it did. -/
def fnPathByUptoRow : OpenClaim := { program := "ytgafpepmmjjaaaa", sum := "4c4460f611dca0a0a6a49509e9207d1ff3924b4f59b83983e95b0d4769160d7f", func := "loop.example/g00384/laws.FnPathBy", spec := "fnPathBy", unfollowed := true, recurses := true, apart := false, narrowed := true }
def FnPathByUptoSaid : Prop := fnPathByUptoRow.holds Try.pinned (OpenSpec.upto fnPathBySpec)

/-- 'laws.FnNextHop', WHERE WHAT IT READS IS OF BULK AT MOST 1048576: true; the input reads as it did. -/
def fnNextHopUptoRow : OpenClaim := { program := "ytgafpepmmjjaaaa", sum := "4c4460f611dca0a0a6a49509e9207d1ff3924b4f59b83983e95b0d4769160d7f", func := "loop.example/g00384/laws.FnNextHop", spec := "fnNextHop", unfollowed := true, recurses := true, apart := false, narrowed := true }
def FnNextHopUptoSaid : Prop := fnNextHopUptoRow.holds Try.pinned (OpenSpec.upto fnNextHopSpec)

/-- 'laws.FnFewer', WHERE WHAT IT READS IS OF BULK AT MOST 1048576: true; the input reads as it did. -/
def fnFewerUptoRow : OpenClaim := { program := "ytgafpepmmjjaaaa", sum := "4c4460f611dca0a0a6a49509e9207d1ff3924b4f59b83983e95b0d4769160d7f", func := "loop.example/g00384/laws.FnFewer", spec := "fnFewer", unfollowed := true, recurses := true, apart := false, narrowed := true }
def FnFewerUptoSaid : Prop := fnFewerUptoRow.holds Try.pinned (OpenSpec.upto fnFewerSpec)

/-- 'laws.FnWhole', WHERE WHAT IT READS IS OF BULK AT MOST 1048576: true; the input reads as it did. -/
def fnWholeUptoRow : OpenClaim := { program := "ytgafpepmmjjaaaa", sum := "4c4460f611dca0a0a6a49509e9207d1ff3924b4f59b83983e95b0d4769160d7f", func := "loop.example/g00384/laws.FnWhole", spec := "fnWhole", unfollowed := true, recurses := true, apart := false, narrowed := true }
def FnWholeUptoSaid : Prop := fnWholeUptoRow.holds Try.pinned (OpenSpec.upto fnWholeSpec)

end Rows
end Go.Proofs.Ytgafpepmmjjaaaa
