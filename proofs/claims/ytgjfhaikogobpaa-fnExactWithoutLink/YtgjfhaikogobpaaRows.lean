/-
  No cell of these rows narrows 'for every input' (looked for: loops, veiled, ifaces, maps, wideKeys, modest, calm, conditions, laid).
  DERIVED. THE GIVEN ROWS OF THIS SEAT. 6 by the template 'for every input the law returns true; each argument reads behind the call as it read before'; 0 by the template 'total and deterministic' (their statements: YtgjfhaikogobpaaTotals.lean).
  GIVEN WITH THE SEED: the statements are not yours to turn. If you find one false, say at which input.
  Laid BY PROGRAM, IN A SANDBOX (cutbox-rows.mjs): the forced cells as the released guide's own fill.sh prints them over the translation 74107fc4aa8d9c28… (all of the seat's roots in one cut). By AI agents, Wed Nov 11 2026. No macro, syntax, notation, axiom, sorry.
-/
import Derived.Test.YtgjfhaikogobpaaChecked
import GoSem.Claim
import GoSem.ClaimJoined
import GoSem.ClaimMapViews
import Derived.JoinedTies
import Derived.KernelRfl
namespace Go.Proofs.Ytgjfhaikogobpaa
/- THE CELL 'sum', in the pinned program and in every row, IS THE sha256 OF THE DUMP (.gsa) THAT YtgjfhaikogobpaaProg.lean LOADS. Nothing in Lean hashes anything: it is a label: what it is worth is what the hold of that sum in a sandbox is worth. -/
noncomputable def Try.pinned : Pinned := { name := "ytgjfhaikogobpaa", sum := "74107fc4aa8d9c282dec6bdadcad6a710f76de1ab128fbb228fc0622da4c1e70", checked := Try.checked }
namespace Rows
def none {H : Type} : Left H := { results := [], args := [] }

/-- 'laws.FnExactNetOk': WHATEVER THE INPUT: true; the input reads as it did. -/
def fnExactNetOkSpec : ChangeSpec := { name := "fnExactNetOk", fn := fun _ => fun
  | [d] => { results := [.lit (.bool true)], args := [d] }
  | _ => none }
def fnExactNetOkRow : OpenClaim := { program := "ytgjfhaikogobpaa", sum := "74107fc4aa8d9c282dec6bdadcad6a710f76de1ab128fbb228fc0622da4c1e70", func := "loop.example/g00384/laws.FnExactNetOk", spec := "fnExactNetOk", apart := false }
def FnExactNetOkSaid : Prop := fnExactNetOkRow.holds Try.pinned (OpenSpec.ofChange fnExactNetOkSpec)

/-- ITS FALSE NEIGHBOUR: 'it returns false'. Refute it at one input. -/
def fnExactNetOkWrong : ChangeSpec := { name := "fnExactNetOk", fn := fun _ => fun
  | [d] => { results := [.lit (.bool false)], args := [d] }
  | _ => none }
def FnExactNetOkWrongFalsely : Prop := fnExactNetOkRow.holds Try.pinned (OpenSpec.ofChange fnExactNetOkWrong)

/-- 'laws.FnExactDist': WHATEVER THE INPUT: true; the input reads as it did. -/
def fnExactDistSpec : ChangeSpec := { name := "fnExactDist", fn := fun _ => fun
  | [d1, d2, d3] => { results := [.lit (.bool true)], args := [d1, d2, d3] }
  | _ => none }
def fnExactDistRow : OpenClaim := { program := "ytgjfhaikogobpaa", sum := "74107fc4aa8d9c282dec6bdadcad6a710f76de1ab128fbb228fc0622da4c1e70", func := "loop.example/g00384/laws.FnExactDist", spec := "fnExactDist", unfollowed := true, recurses := true, apart := false }
def FnExactDistSaid : Prop := fnExactDistRow.holds Try.pinned (OpenSpec.ofChange fnExactDistSpec)

/-- ITS FALSE NEIGHBOUR: 'it returns false'. Refute it at one input. -/
def fnExactDistWrong : ChangeSpec := { name := "fnExactDist", fn := fun _ => fun
  | [d1, d2, d3] => { results := [.lit (.bool false)], args := [d1, d2, d3] }
  | _ => none }
def FnExactDistWrongFalsely : Prop := fnExactDistRow.holds Try.pinned (OpenSpec.ofChange fnExactDistWrong)

/-- 'laws.FnExactNextHop': WHATEVER THE INPUT: true; the input reads as it did. -/
def fnExactNextHopSpec : ChangeSpec := { name := "fnExactNextHop", fn := fun _ => fun
  | [d1, d2, d3] => { results := [.lit (.bool true)], args := [d1, d2, d3] }
  | _ => none }
def fnExactNextHopRow : OpenClaim := { program := "ytgjfhaikogobpaa", sum := "74107fc4aa8d9c282dec6bdadcad6a710f76de1ab128fbb228fc0622da4c1e70", func := "loop.example/g00384/laws.FnExactNextHop", spec := "fnExactNextHop", unfollowed := true, recurses := true, apart := false }
def FnExactNextHopSaid : Prop := fnExactNextHopRow.holds Try.pinned (OpenSpec.ofChange fnExactNextHopSpec)

/-- ITS FALSE NEIGHBOUR: 'it returns false'. Refute it at one input. -/
def fnExactNextHopWrong : ChangeSpec := { name := "fnExactNextHop", fn := fun _ => fun
  | [d1, d2, d3] => { results := [.lit (.bool false)], args := [d1, d2, d3] }
  | _ => none }
def FnExactNextHopWrongFalsely : Prop := fnExactNextHopRow.holds Try.pinned (OpenSpec.ofChange fnExactNextHopWrong)

/-- 'laws.FnExactPathBy': WHATEVER THE INPUT: true; the input reads as it did. -/
def fnExactPathBySpec : ChangeSpec := { name := "fnExactPathBy", fn := fun _ => fun
  | [d1, d2, d3] => { results := [.lit (.bool true)], args := [d1, d2, d3] }
  | _ => none }
def fnExactPathByRow : OpenClaim := { program := "ytgjfhaikogobpaa", sum := "74107fc4aa8d9c282dec6bdadcad6a710f76de1ab128fbb228fc0622da4c1e70", func := "loop.example/g00384/laws.FnExactPathBy", spec := "fnExactPathBy", unfollowed := true, recurses := true, apart := false }
def FnExactPathBySaid : Prop := fnExactPathByRow.holds Try.pinned (OpenSpec.ofChange fnExactPathBySpec)

/-- ITS FALSE NEIGHBOUR: 'it returns false'. Refute it at one input. -/
def fnExactPathByWrong : ChangeSpec := { name := "fnExactPathBy", fn := fun _ => fun
  | [d1, d2, d3] => { results := [.lit (.bool false)], args := [d1, d2, d3] }
  | _ => none }
def FnExactPathByWrongFalsely : Prop := fnExactPathByRow.holds Try.pinned (OpenSpec.ofChange fnExactPathByWrong)

/-- 'laws.FnExactWithoutLink': WHATEVER THE INPUT: true; the input reads as it did. -/
def fnExactWithoutLinkSpec : ChangeSpec := { name := "fnExactWithoutLink", fn := fun _ => fun
  | [d1, d2, d3] => { results := [.lit (.bool true)], args := [d1, d2, d3] }
  | _ => none }
def fnExactWithoutLinkRow : OpenClaim := { program := "ytgjfhaikogobpaa", sum := "74107fc4aa8d9c282dec6bdadcad6a710f76de1ab128fbb228fc0622da4c1e70", func := "loop.example/g00384/laws.FnExactWithoutLink", spec := "fnExactWithoutLink", apart := false }
def FnExactWithoutLinkSaid : Prop := fnExactWithoutLinkRow.holds Try.pinned (OpenSpec.ofChange fnExactWithoutLinkSpec)

/-- ITS FALSE NEIGHBOUR: 'it returns false'. Refute it at one input. -/
def fnExactWithoutLinkWrong : ChangeSpec := { name := "fnExactWithoutLink", fn := fun _ => fun
  | [d1, d2, d3] => { results := [.lit (.bool false)], args := [d1, d2, d3] }
  | _ => none }
def FnExactWithoutLinkWrongFalsely : Prop := fnExactWithoutLinkRow.holds Try.pinned (OpenSpec.ofChange fnExactWithoutLinkWrong)

/-- 'laws.FnExactWhole': WHATEVER THE INPUT: true; the input reads as it did. -/
def fnExactWholeSpec : ChangeSpec := { name := "fnExactWhole", fn := fun _ => fun
  | [d] => { results := [.lit (.bool true)], args := [d] }
  | _ => none }
def fnExactWholeRow : OpenClaim := { program := "ytgjfhaikogobpaa", sum := "74107fc4aa8d9c282dec6bdadcad6a710f76de1ab128fbb228fc0622da4c1e70", func := "loop.example/g00384/laws.FnExactWhole", spec := "fnExactWhole", unfollowed := true, recurses := true, apart := false }
def FnExactWholeSaid : Prop := fnExactWholeRow.holds Try.pinned (OpenSpec.ofChange fnExactWholeSpec)

/-- ITS FALSE NEIGHBOUR: 'it returns false'. Refute it at one input. -/
def fnExactWholeWrong : ChangeSpec := { name := "fnExactWhole", fn := fun _ => fun
  | [d] => { results := [.lit (.bool false)], args := [d] }
  | _ => none }
def FnExactWholeWrongFalsely : Prop := fnExactWholeRow.holds Try.pinned (OpenSpec.ofChange fnExactWholeWrong)

/- THE SECOND FORM. 'bulk': how many values and letters a reading holds, each counted each time it is reached (what is shared counts as often as it is met; a slice's spare places count too). A statement '..UptoSaid' is the law's where the arguments, and the package variables that the reading takes, are together of bulk at most 1048576: NARROWER than '..Said'. Prove '..Said' where nothing that the law and all that it calls make is longer than what came in: it says more and counts as full. Else prove '..UptoSaid'. A law counts once. -/
mutual
def uptoBulk {H : Type} : DataW H → Nat
  | .lit (.string bytes) => bytes.length + 1
  | .lit _ => 1
  | .nil => 1
  | .ptr d => uptoBulk d + 1
  | .slice elems spare => uptoBulkAll elems + uptoBulkAll spare + 1
  | .agg parts => uptoBulkAll parts + 1
  | .iface _ d => uptoBulk d + 1
  | .map entries => uptoBulkEntries entries + 1
  | .held _ => 1
def uptoBulkAll {H : Type} : List (DataW H) → Nat
  | [] => 0
  | d :: r => uptoBulk d + uptoBulkAll r
def uptoBulkEntries {H : Type} : List (Lit × DataW H) → Nat
  | [] => 0
  | x :: r => uptoBulkEntry x + uptoBulkEntries r
def uptoBulkEntry {H : Type} : Lit × DataW H → Nat
  | (.string bytes, d) => bytes.length + uptoBulk d + 1
  | (_, d) => uptoBulk d + 1
 end
def uptoSmall : (H : Type) → List (DataW H) → Bool := fun _ ds => decide (uptoBulkAll ds ≤ 1048576)
def OpenSpec.upto (s : _root_.Go.ChangeSpec) : _root_.Go.OpenSpec := { _root_.Go.OpenSpec.ofChange s with cond := some uptoSmall }

/-- 'laws.FnExactNetOk', WHERE WHAT IT READS IS OF BULK AT MOST 1048576: true; the input reads as it did. -/
def fnExactNetOkUptoRow : OpenClaim := { program := "ytgjfhaikogobpaa", sum := "74107fc4aa8d9c282dec6bdadcad6a710f76de1ab128fbb228fc0622da4c1e70", func := "loop.example/g00384/laws.FnExactNetOk", spec := "fnExactNetOk", apart := false, narrowed := true }
def FnExactNetOkUptoSaid : Prop := fnExactNetOkUptoRow.holds Try.pinned (OpenSpec.upto fnExactNetOkSpec)

/-- 'laws.FnExactDist', WHERE WHAT IT READS IS OF BULK AT MOST 1048576: true; the input reads as it did. -/
def fnExactDistUptoRow : OpenClaim := { program := "ytgjfhaikogobpaa", sum := "74107fc4aa8d9c282dec6bdadcad6a710f76de1ab128fbb228fc0622da4c1e70", func := "loop.example/g00384/laws.FnExactDist", spec := "fnExactDist", unfollowed := true, recurses := true, apart := false, narrowed := true }
def FnExactDistUptoSaid : Prop := fnExactDistUptoRow.holds Try.pinned (OpenSpec.upto fnExactDistSpec)

/-- 'laws.FnExactNextHop', WHERE WHAT IT READS IS OF BULK AT MOST 1048576: true; the input reads as it did. -/
def fnExactNextHopUptoRow : OpenClaim := { program := "ytgjfhaikogobpaa", sum := "74107fc4aa8d9c282dec6bdadcad6a710f76de1ab128fbb228fc0622da4c1e70", func := "loop.example/g00384/laws.FnExactNextHop", spec := "fnExactNextHop", unfollowed := true, recurses := true, apart := false, narrowed := true }
def FnExactNextHopUptoSaid : Prop := fnExactNextHopUptoRow.holds Try.pinned (OpenSpec.upto fnExactNextHopSpec)

/-- 'laws.FnExactPathBy', WHERE WHAT IT READS IS OF BULK AT MOST 1048576: true; the input reads as it did. -/
def fnExactPathByUptoRow : OpenClaim := { program := "ytgjfhaikogobpaa", sum := "74107fc4aa8d9c282dec6bdadcad6a710f76de1ab128fbb228fc0622da4c1e70", func := "loop.example/g00384/laws.FnExactPathBy", spec := "fnExactPathBy", unfollowed := true, recurses := true, apart := false, narrowed := true }
def FnExactPathByUptoSaid : Prop := fnExactPathByUptoRow.holds Try.pinned (OpenSpec.upto fnExactPathBySpec)

/-- 'laws.FnExactWithoutLink', WHERE WHAT IT READS IS OF BULK AT MOST 1048576: true; the input reads as it did. -/
def fnExactWithoutLinkUptoRow : OpenClaim := { program := "ytgjfhaikogobpaa", sum := "74107fc4aa8d9c282dec6bdadcad6a710f76de1ab128fbb228fc0622da4c1e70", func := "loop.example/g00384/laws.FnExactWithoutLink", spec := "fnExactWithoutLink", apart := false, narrowed := true }
def FnExactWithoutLinkUptoSaid : Prop := fnExactWithoutLinkUptoRow.holds Try.pinned (OpenSpec.upto fnExactWithoutLinkSpec)

/-- 'laws.FnExactWhole', WHERE WHAT IT READS IS OF BULK AT MOST 1048576: true; the input reads as it did. -/
def fnExactWholeUptoRow : OpenClaim := { program := "ytgjfhaikogobpaa", sum := "74107fc4aa8d9c282dec6bdadcad6a710f76de1ab128fbb228fc0622da4c1e70", func := "loop.example/g00384/laws.FnExactWhole", spec := "fnExactWhole", unfollowed := true, recurses := true, apart := false, narrowed := true }
def FnExactWholeUptoSaid : Prop := fnExactWholeUptoRow.holds Try.pinned (OpenSpec.upto fnExactWholeSpec)

end Rows
end Go.Proofs.Ytgjfhaikogobpaa
