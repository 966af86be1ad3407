/-
  No cell of these rows narrows 'for every input' (looked for: loops, veiled, ifaces, maps, wideKeys, modest, calm, conditions, laid).
  DERIVED. THE GIVEN ROWS OF THIS SEAT. 4 by the template 'for every input the law returns true; each argument reads behind the call as it read before'; 0 by the template 'total and deterministic' (their statements: YtplnfddleaoimaaTotals.lean).
  GIVEN WITH THE SEED: the statements are not yours to turn. If you find one false, say at which input.
  Laid BY PROGRAM, IN A SANDBOX (cutbox-rows.mjs): the forced cells as the released guide's own fill.sh prints them over the translation 8e2ac4b289fc8fcc… (all of the seat's roots in one cut). By AI agents, Wed Nov 11 2026. No macro, syntax, notation, axiom, sorry.
-/
import Derived.Test.YtplnfddleaoimaaChecked
import GoSem.Claim
import GoSem.ClaimJoined
import GoSem.ClaimMapViews
import Derived.JoinedTies
import Derived.KernelRfl
namespace Go.Proofs.Ytplnfddleaoimaa
/- THE CELL 'sum', in the pinned program and in every row, IS THE sha256 OF THE DUMP (.gsa) THAT YtplnfddleaoimaaProg.lean LOADS. Nothing in Lean hashes anything: it is a label: what it is worth is what the hold of that sum in a sandbox is worth. -/
noncomputable def Try.pinned : Pinned := { name := "ytplnfddleaoimaa", sum := "8e2ac4b289fc8fcc84fa8c5d6b774f9afef0e71ccdcbc086f2e6e01632cc2146", checked := Try.checked }
namespace Rows
def none {H : Type} : Left H := { results := [], args := [] }

/-- 'laws.FnPairWrites': WHATEVER THE INPUT: true; the input reads as it did. -/
def fnPairWritesSpec : ChangeSpec := { name := "fnPairWrites", fn := fun _ => fun
  | [d] => { results := [.lit (.bool true)], args := [d] }
  | _ => none }
def fnPairWritesRow : OpenClaim := { program := "ytplnfddleaoimaa", sum := "8e2ac4b289fc8fcc84fa8c5d6b774f9afef0e71ccdcbc086f2e6e01632cc2146", func := "loop.example/g00384/laws.FnPairWrites", spec := "fnPairWrites", apart := false }
def FnPairWritesSaid : Prop := fnPairWritesRow.holds Try.pinned (OpenSpec.ofChange fnPairWritesSpec)

/-- ITS FALSE NEIGHBOUR: 'it returns false'. Refute it at one input. -/
def fnPairWritesWrong : ChangeSpec := { name := "fnPairWrites", fn := fun _ => fun
  | [d] => { results := [.lit (.bool false)], args := [d] }
  | _ => none }
def FnPairWritesWrongFalsely : Prop := fnPairWritesRow.holds Try.pinned (OpenSpec.ofChange fnPairWritesWrong)

/-- 'laws.FnPairFails': WHATEVER THE INPUT: true; the input reads as it did. -/
def fnPairFailsSpec : ChangeSpec := { name := "fnPairFails", fn := fun _ => fun
  | [d] => { results := [.lit (.bool true)], args := [d] }
  | _ => none }
def fnPairFailsRow : OpenClaim := { program := "ytplnfddleaoimaa", sum := "8e2ac4b289fc8fcc84fa8c5d6b774f9afef0e71ccdcbc086f2e6e01632cc2146", func := "loop.example/g00384/laws.FnPairFails", spec := "fnPairFails", apart := false }
def FnPairFailsSaid : Prop := fnPairFailsRow.holds Try.pinned (OpenSpec.ofChange fnPairFailsSpec)

/-- ITS FALSE NEIGHBOUR: 'it returns false'. Refute it at one input. -/
def fnPairFailsWrong : ChangeSpec := { name := "fnPairFails", fn := fun _ => fun
  | [d] => { results := [.lit (.bool false)], args := [d] }
  | _ => none }
def FnPairFailsWrongFalsely : Prop := fnPairFailsRow.holds Try.pinned (OpenSpec.ofChange fnPairFailsWrong)

/-- 'laws.FnPairMended': WHATEVER THE INPUT: true; the input reads as it did. -/
def fnPairMendedSpec : ChangeSpec := { name := "fnPairMended", fn := fun _ => fun
  | [d] => { results := [.lit (.bool true)], args := [d] }
  | _ => none }
def fnPairMendedRow : OpenClaim := { program := "ytplnfddleaoimaa", sum := "8e2ac4b289fc8fcc84fa8c5d6b774f9afef0e71ccdcbc086f2e6e01632cc2146", func := "loop.example/g00384/laws.FnPairMended", spec := "fnPairMended", apart := false }
def FnPairMendedSaid : Prop := fnPairMendedRow.holds Try.pinned (OpenSpec.ofChange fnPairMendedSpec)

/-- ITS FALSE NEIGHBOUR: 'it returns false'. Refute it at one input. -/
def fnPairMendedWrong : ChangeSpec := { name := "fnPairMended", fn := fun _ => fun
  | [d] => { results := [.lit (.bool false)], args := [d] }
  | _ => none }
def FnPairMendedWrongFalsely : Prop := fnPairMendedRow.holds Try.pinned (OpenSpec.ofChange fnPairMendedWrong)

/-- 'laws.FnPairNew': WHATEVER THE INPUT: true; the input reads as it did. -/
def fnPairNewSpec : ChangeSpec := { name := "fnPairNew", fn := fun _ => fun
  | [d] => { results := [.lit (.bool true)], args := [d] }
  | _ => none }
def fnPairNewRow : OpenClaim := { program := "ytplnfddleaoimaa", sum := "8e2ac4b289fc8fcc84fa8c5d6b774f9afef0e71ccdcbc086f2e6e01632cc2146", func := "loop.example/g00384/laws.FnPairNew", spec := "fnPairNew", apart := false }
def FnPairNewSaid : Prop := fnPairNewRow.holds Try.pinned (OpenSpec.ofChange fnPairNewSpec)

/-- ITS FALSE NEIGHBOUR: 'it returns false'. Refute it at one input. -/
def fnPairNewWrong : ChangeSpec := { name := "fnPairNew", fn := fun _ => fun
  | [d] => { results := [.lit (.bool false)], args := [d] }
  | _ => none }
def FnPairNewWrongFalsely : Prop := fnPairNewRow.holds Try.pinned (OpenSpec.ofChange fnPairNewWrong)

/- THE SECOND FORM. 'bulk': how many values and letters a reading holds, each counted each time it is reached (what is shared counts as often as it is met; a slice's spare places count too). A statement '..UptoSaid' is the law's where the arguments, and the package variables that the reading takes, are together of bulk at most 1048576: NARROWER than '..Said'. Prove '..Said' where nothing that the law and all that it calls make is longer than what came in: it says more and counts as full. Else prove '..UptoSaid'. A law counts once. -/
mutual
def uptoBulk {H : Type} : DataW H → Nat
  | .lit (.string bytes) => bytes.length + 1
  | .lit _ => 1
  | .nil => 1
  | .ptr d => uptoBulk d + 1
  | .slice elems spare => uptoBulkAll elems + uptoBulkAll spare + 1
  | .agg parts => uptoBulkAll parts + 1
  | .iface _ d => uptoBulk d + 1
  | .map entries => uptoBulkEntries entries + 1
  | .held _ => 1
def uptoBulkAll {H : Type} : List (DataW H) → Nat
  | [] => 0
  | d :: r => uptoBulk d + uptoBulkAll r
def uptoBulkEntries {H : Type} : List (Lit × DataW H) → Nat
  | [] => 0
  | x :: r => uptoBulkEntry x + uptoBulkEntries r
def uptoBulkEntry {H : Type} : Lit × DataW H → Nat
  | (.string bytes, d) => bytes.length + uptoBulk d + 1
  | (_, d) => uptoBulk d + 1
 end
def uptoSmall : (H : Type) → List (DataW H) → Bool := fun _ ds => decide (uptoBulkAll ds ≤ 1048576)
def OpenSpec.upto (s : _root_.Go.ChangeSpec) : _root_.Go.OpenSpec := { _root_.Go.OpenSpec.ofChange s with cond := some uptoSmall }

/-- 'laws.FnPairWrites', WHERE WHAT IT READS IS OF BULK AT MOST 1048576: true; the input reads as it did. -/
def fnPairWritesUptoRow : OpenClaim := { program := "ytplnfddleaoimaa", sum := "8e2ac4b289fc8fcc84fa8c5d6b774f9afef0e71ccdcbc086f2e6e01632cc2146", func := "loop.example/g00384/laws.FnPairWrites", spec := "fnPairWrites", apart := false, narrowed := true }
def FnPairWritesUptoSaid : Prop := fnPairWritesUptoRow.holds Try.pinned (OpenSpec.upto fnPairWritesSpec)

/-- 'laws.FnPairFails', WHERE WHAT IT READS IS OF BULK AT MOST 1048576: true; the input reads as it did. -/
def fnPairFailsUptoRow : OpenClaim := { program := "ytplnfddleaoimaa", sum := "8e2ac4b289fc8fcc84fa8c5d6b774f9afef0e71ccdcbc086f2e6e01632cc2146", func := "loop.example/g00384/laws.FnPairFails", spec := "fnPairFails", apart := false, narrowed := true }
def FnPairFailsUptoSaid : Prop := fnPairFailsUptoRow.holds Try.pinned (OpenSpec.upto fnPairFailsSpec)

/-- 'laws.FnPairMended', WHERE WHAT IT READS IS OF BULK AT MOST 1048576: true; the input reads as it did. -/
def fnPairMendedUptoRow : OpenClaim := { program := "ytplnfddleaoimaa", sum := "8e2ac4b289fc8fcc84fa8c5d6b774f9afef0e71ccdcbc086f2e6e01632cc2146", func := "loop.example/g00384/laws.FnPairMended", spec := "fnPairMended", apart := false, narrowed := true }
def FnPairMendedUptoSaid : Prop := fnPairMendedUptoRow.holds Try.pinned (OpenSpec.upto fnPairMendedSpec)

/-- 'laws.FnPairNew', WHERE WHAT IT READS IS OF BULK AT MOST 1048576: true; the input reads as it did. -/
def fnPairNewUptoRow : OpenClaim := { program := "ytplnfddleaoimaa", sum := "8e2ac4b289fc8fcc84fa8c5d6b774f9afef0e71ccdcbc086f2e6e01632cc2146", func := "loop.example/g00384/laws.FnPairNew", spec := "fnPairNew", apart := false, narrowed := true }
def FnPairNewUptoSaid : Prop := fnPairNewUptoRow.holds Try.pinned (OpenSpec.upto fnPairNewSpec)

end Rows
end Go.Proofs.Ytplnfddleaoimaa
