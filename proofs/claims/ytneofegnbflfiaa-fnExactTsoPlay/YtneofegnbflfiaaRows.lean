/-
  No cell of these rows narrows 'for every input' (looked for: loops, veiled, ifaces, maps, wideKeys, modest, calm, conditions, laid).
  DERIVED. THE GIVEN ROWS OF THIS SEAT. 10 by the template 'for every input the law returns true; each argument reads behind the call as it read before'; 0 by the template 'total and deterministic' (their statements: YtneofegnbflfiaaTotals.lean).
  GIVEN WITH THE SEED: the statements are not yours to turn. If you find one false, say at which input.
  Laid BY PROGRAM, IN A SANDBOX (cutbox-rows.mjs): the forced cells as the released guide's own fill.sh prints them over the translation ae146e71af4048bd… (all of the seat's roots in one cut). By AI agents, Wed Nov 11 2026. No macro, syntax, notation, axiom, sorry.
-/
import Derived.Test.YtneofegnbflfiaaChecked
import GoSem.Claim
import GoSem.ClaimJoined
import GoSem.ClaimMapViews
import Derived.JoinedTies
import Derived.KernelRfl
namespace Go.Proofs.Ytneofegnbflfiaa
/- THE CELL 'sum', in the pinned program and in every row, IS THE sha256 OF THE DUMP (.gsa) THAT YtneofegnbflfiaaProg.lean LOADS. Nothing in Lean hashes anything: it is a label: what it is worth is what the hold of that sum in a sandbox is worth. -/
noncomputable def Try.pinned : Pinned := { name := "ytneofegnbflfiaa", sum := "ae146e71af4048bd93ff689e156a580954cd2c73aafdec5e21deadb1b89f3ff0", checked := Try.checked }
namespace Rows
def none {H : Type} : Left H := { results := [], args := [] }

/-- 'laws.FnSeen': WHATEVER THE INPUT: true; the input reads as it did. -/
def fnSeenSpec : ChangeSpec := { name := "fnSeen", fn := fun _ => fun
  | [d] => { results := [.lit (.bool true)], args := [d] }
  | _ => none }
def fnSeenRow : OpenClaim := { program := "ytneofegnbflfiaa", sum := "ae146e71af4048bd93ff689e156a580954cd2c73aafdec5e21deadb1b89f3ff0", func := "loop.example/g00384/laws.FnSeen", spec := "fnSeen", apart := false }
def FnSeenSaid : Prop := fnSeenRow.holds Try.pinned (OpenSpec.ofChange fnSeenSpec)

/-- ITS FALSE NEIGHBOUR: 'it returns false'. Refute it at one input. -/
def fnSeenWrong : ChangeSpec := { name := "fnSeen", fn := fun _ => fun
  | [d] => { results := [.lit (.bool false)], args := [d] }
  | _ => none }
def FnSeenWrongFalsely : Prop := fnSeenRow.holds Try.pinned (OpenSpec.ofChange fnSeenWrong)

/-- 'laws.FnTsoDone': WHATEVER THE INPUT: true; the input reads as it did. -/
def fnTsoDoneSpec : ChangeSpec := { name := "fnTsoDone", fn := fun _ => fun
  | [d] => { results := [.lit (.bool true)], args := [d] }
  | _ => none }
def fnTsoDoneRow : OpenClaim := { program := "ytneofegnbflfiaa", sum := "ae146e71af4048bd93ff689e156a580954cd2c73aafdec5e21deadb1b89f3ff0", func := "loop.example/g00384/laws.FnTsoDone", spec := "fnTsoDone", unfollowed := true, recurses := true, apart := false }
def FnTsoDoneSaid : Prop := fnTsoDoneRow.holds Try.pinned (OpenSpec.ofChange fnTsoDoneSpec)

/-- ITS FALSE NEIGHBOUR: 'it returns false'. Refute it at one input. -/
def fnTsoDoneWrong : ChangeSpec := { name := "fnTsoDone", fn := fun _ => fun
  | [d] => { results := [.lit (.bool false)], args := [d] }
  | _ => none }
def FnTsoDoneWrongFalsely : Prop := fnTsoDoneRow.holds Try.pinned (OpenSpec.ofChange fnTsoDoneWrong)

/-- 'laws.FnOwnStores': WHATEVER THE INPUT: true; the input reads as it did. -/
def fnOwnStoresSpec : ChangeSpec := { name := "fnOwnStores", fn := fun _ => fun
  | [d] => { results := [.lit (.bool true)], args := [d] }
  | _ => none }
def fnOwnStoresRow : OpenClaim := { program := "ytneofegnbflfiaa", sum := "ae146e71af4048bd93ff689e156a580954cd2c73aafdec5e21deadb1b89f3ff0", func := "loop.example/g00384/laws.FnOwnStores", spec := "fnOwnStores", unfollowed := true, recurses := true, apart := false }
def FnOwnStoresSaid : Prop := fnOwnStoresRow.holds Try.pinned (OpenSpec.ofChange fnOwnStoresSpec)

/-- ITS FALSE NEIGHBOUR: 'it returns false'. Refute it at one input. -/
def fnOwnStoresWrong : ChangeSpec := { name := "fnOwnStores", fn := fun _ => fun
  | [d] => { results := [.lit (.bool false)], args := [d] }
  | _ => none }
def FnOwnStoresWrongFalsely : Prop := fnOwnStoresRow.holds Try.pinned (OpenSpec.ofChange fnOwnStoresWrong)

/-- 'laws.FnFifo': WHATEVER THE INPUT: true; the input reads as it did. -/
def fnFifoSpec : ChangeSpec := { name := "fnFifo", fn := fun _ => fun
  | [d] => { results := [.lit (.bool true)], args := [d] }
  | _ => none }
def fnFifoRow : OpenClaim := { program := "ytneofegnbflfiaa", sum := "ae146e71af4048bd93ff689e156a580954cd2c73aafdec5e21deadb1b89f3ff0", func := "loop.example/g00384/laws.FnFifo", spec := "fnFifo", unfollowed := true, recurses := true, apart := false }
def FnFifoSaid : Prop := fnFifoRow.holds Try.pinned (OpenSpec.ofChange fnFifoSpec)

/-- ITS FALSE NEIGHBOUR: 'it returns false'. Refute it at one input. -/
def fnFifoWrong : ChangeSpec := { name := "fnFifo", fn := fun _ => fun
  | [d] => { results := [.lit (.bool false)], args := [d] }
  | _ => none }
def FnFifoWrongFalsely : Prop := fnFifoRow.holds Try.pinned (OpenSpec.ofChange fnFifoWrong)

/-- 'laws.FnFence': WHATEVER THE INPUT: true; the input reads as it did. -/
def fnFenceSpec : ChangeSpec := { name := "fnFence", fn := fun _ => fun
  | [d] => { results := [.lit (.bool true)], args := [d] }
  | _ => none }
def fnFenceRow : OpenClaim := { program := "ytneofegnbflfiaa", sum := "ae146e71af4048bd93ff689e156a580954cd2c73aafdec5e21deadb1b89f3ff0", func := "loop.example/g00384/laws.FnFence", spec := "fnFence", unfollowed := true, recurses := true, apart := false }
def FnFenceSaid : Prop := fnFenceRow.holds Try.pinned (OpenSpec.ofChange fnFenceSpec)

/-- ITS FALSE NEIGHBOUR: 'it returns false'. Refute it at one input. -/
def fnFenceWrong : ChangeSpec := { name := "fnFence", fn := fun _ => fun
  | [d] => { results := [.lit (.bool false)], args := [d] }
  | _ => none }
def FnFenceWrongFalsely : Prop := fnFenceRow.holds Try.pinned (OpenSpec.ofChange fnFenceWrong)

/-- 'laws.FnLoads': WHATEVER THE INPUT: true; the input reads as it did. -/
def fnLoadsSpec : ChangeSpec := { name := "fnLoads", fn := fun _ => fun
  | [d] => { results := [.lit (.bool true)], args := [d] }
  | _ => none }
def fnLoadsRow : OpenClaim := { program := "ytneofegnbflfiaa", sum := "ae146e71af4048bd93ff689e156a580954cd2c73aafdec5e21deadb1b89f3ff0", func := "loop.example/g00384/laws.FnLoads", spec := "fnLoads", unfollowed := true, recurses := true, apart := false }
def FnLoadsSaid : Prop := fnLoadsRow.holds Try.pinned (OpenSpec.ofChange fnLoadsSpec)

/-- ITS FALSE NEIGHBOUR: 'it returns false'. Refute it at one input. -/
def fnLoadsWrong : ChangeSpec := { name := "fnLoads", fn := fun _ => fun
  | [d] => { results := [.lit (.bool false)], args := [d] }
  | _ => none }
def FnLoadsWrongFalsely : Prop := fnLoadsRow.holds Try.pinned (OpenSpec.ofChange fnLoadsWrong)

/-- 'laws.FnDrained': WHATEVER THE INPUT: true; the input reads as it did. -/
def fnDrainedSpec : ChangeSpec := { name := "fnDrained", fn := fun _ => fun
  | [d] => { results := [.lit (.bool true)], args := [d] }
  | _ => none }
def fnDrainedRow : OpenClaim := { program := "ytneofegnbflfiaa", sum := "ae146e71af4048bd93ff689e156a580954cd2c73aafdec5e21deadb1b89f3ff0", func := "loop.example/g00384/laws.FnDrained", spec := "fnDrained", apart := false }
def FnDrainedSaid : Prop := fnDrainedRow.holds Try.pinned (OpenSpec.ofChange fnDrainedSpec)

/-- ITS FALSE NEIGHBOUR: 'it returns false'. Refute it at one input. -/
def fnDrainedWrong : ChangeSpec := { name := "fnDrained", fn := fun _ => fun
  | [d] => { results := [.lit (.bool false)], args := [d] }
  | _ => none }
def FnDrainedWrongFalsely : Prop := fnDrainedRow.holds Try.pinned (OpenSpec.ofChange fnDrainedWrong)

/-- 'laws.FnTsoPieces': WHATEVER THE INPUT: true; the input reads as it did. -/
def fnTsoPiecesSpec : ChangeSpec := { name := "fnTsoPieces", fn := fun _ => fun
  | [d] => { results := [.lit (.bool true)], args := [d] }
  | _ => none }
def fnTsoPiecesRow : OpenClaim := { program := "ytneofegnbflfiaa", sum := "ae146e71af4048bd93ff689e156a580954cd2c73aafdec5e21deadb1b89f3ff0", func := "loop.example/g00384/laws.FnTsoPieces", spec := "fnTsoPieces", unfollowed := true, recurses := true, apart := false }
def FnTsoPiecesSaid : Prop := fnTsoPiecesRow.holds Try.pinned (OpenSpec.ofChange fnTsoPiecesSpec)

/-- ITS FALSE NEIGHBOUR: 'it returns false'. Refute it at one input. -/
def fnTsoPiecesWrong : ChangeSpec := { name := "fnTsoPieces", fn := fun _ => fun
  | [d] => { results := [.lit (.bool false)], args := [d] }
  | _ => none }
def FnTsoPiecesWrongFalsely : Prop := fnTsoPiecesRow.holds Try.pinned (OpenSpec.ofChange fnTsoPiecesWrong)

/-- 'laws.FnExactTsoPlay': WHATEVER THE INPUT: true; the input reads as it did. -/
def fnExactTsoPlaySpec : ChangeSpec := { name := "fnExactTsoPlay", fn := fun _ => fun
  | [d1, d2] => { results := [.lit (.bool true)], args := [d1, d2] }
  | _ => none }
def fnExactTsoPlayRow : OpenClaim := { program := "ytneofegnbflfiaa", sum := "ae146e71af4048bd93ff689e156a580954cd2c73aafdec5e21deadb1b89f3ff0", func := "loop.example/g00384/laws.FnExactTsoPlay", spec := "fnExactTsoPlay", unfollowed := true, recurses := true, apart := false }
def FnExactTsoPlaySaid : Prop := fnExactTsoPlayRow.holds Try.pinned (OpenSpec.ofChange fnExactTsoPlaySpec)

/-- ITS FALSE NEIGHBOUR: 'it returns false'. Refute it at one input. -/
def fnExactTsoPlayWrong : ChangeSpec := { name := "fnExactTsoPlay", fn := fun _ => fun
  | [d1, d2] => { results := [.lit (.bool false)], args := [d1, d2] }
  | _ => none }
def FnExactTsoPlayWrongFalsely : Prop := fnExactTsoPlayRow.holds Try.pinned (OpenSpec.ofChange fnExactTsoPlayWrong)

/-- 'laws.FnTsoNew': WHATEVER THE INPUT: true; the input reads as it did. -/
def fnTsoNewSpec : ChangeSpec := { name := "fnTsoNew", fn := fun _ => fun
  | [d] => { results := [.lit (.bool true)], args := [d] }
  | _ => none }
def fnTsoNewRow : OpenClaim := { program := "ytneofegnbflfiaa", sum := "ae146e71af4048bd93ff689e156a580954cd2c73aafdec5e21deadb1b89f3ff0", func := "loop.example/g00384/laws.FnTsoNew", spec := "fnTsoNew", apart := false }
def FnTsoNewSaid : Prop := fnTsoNewRow.holds Try.pinned (OpenSpec.ofChange fnTsoNewSpec)

/-- ITS FALSE NEIGHBOUR: 'it returns false'. Refute it at one input. -/
def fnTsoNewWrong : ChangeSpec := { name := "fnTsoNew", fn := fun _ => fun
  | [d] => { results := [.lit (.bool false)], args := [d] }
  | _ => none }
def FnTsoNewWrongFalsely : Prop := fnTsoNewRow.holds Try.pinned (OpenSpec.ofChange fnTsoNewWrong)

/- THE SECOND FORM. 'bulk': how many values and letters a reading holds, each counted each time it is reached (what is shared counts as often as it is met; a slice's spare places count too). A statement '..UptoSaid' is the law's where the arguments, and the package variables that the reading takes, are together of bulk at most 1048576: NARROWER than '..Said'. Prove '..Said' where nothing that the law and all that it calls make is longer than what came in: it says more and counts as full. Else prove '..UptoSaid'. A law counts once. -/
mutual
def uptoBulk {H : Type} : DataW H → Nat
  | .lit (.string bytes) => bytes.length + 1
  | .lit _ => 1
  | .nil => 1
  | .ptr d => uptoBulk d + 1
  | .slice elems spare => uptoBulkAll elems + uptoBulkAll spare + 1
  | .agg parts => uptoBulkAll parts + 1
  | .iface _ d => uptoBulk d + 1
  | .map entries => uptoBulkEntries entries + 1
  | .held _ => 1
def uptoBulkAll {H : Type} : List (DataW H) → Nat
  | [] => 0
  | d :: r => uptoBulk d + uptoBulkAll r
def uptoBulkEntries {H : Type} : List (Lit × DataW H) → Nat
  | [] => 0
  | x :: r => uptoBulkEntry x + uptoBulkEntries r
def uptoBulkEntry {H : Type} : Lit × DataW H → Nat
  | (.string bytes, d) => bytes.length + uptoBulk d + 1
  | (_, d) => uptoBulk d + 1
 end
def uptoSmall : (H : Type) → List (DataW H) → Bool := fun _ ds => decide (uptoBulkAll ds ≤ 1048576)
def OpenSpec.upto (s : _root_.Go.ChangeSpec) : _root_.Go.OpenSpec := { _root_.Go.OpenSpec.ofChange s with cond := some uptoSmall }

/-- 'laws.FnSeen', WHERE WHAT IT READS IS OF BULK AT MOST 1048576: true; the input reads as it did. -/
def fnSeenUptoRow : OpenClaim := { program := "ytneofegnbflfiaa", sum := "ae146e71af4048bd93ff689e156a580954cd2c73aafdec5e21deadb1b89f3ff0", func := "loop.example/g00384/laws.FnSeen", spec := "fnSeen", apart := false, narrowed := true }
def FnSeenUptoSaid : Prop := fnSeenUptoRow.holds Try.pinned (OpenSpec.upto fnSeenSpec)

/-- 'laws.FnTsoDone', WHERE WHAT IT READS IS OF BULK AT MOST 1048576: true; the input reads as it did. -/
def fnTsoDoneUptoRow : OpenClaim := { program := "ytneofegnbflfiaa", sum := "ae146e71af4048bd93ff689e156a580954cd2c73aafdec5e21deadb1b89f3ff0", func := "loop.example/g00384/laws.FnTsoDone", spec := "fnTsoDone", unfollowed := true, recurses := true, apart := false, narrowed := true }
def FnTsoDoneUptoSaid : Prop := fnTsoDoneUptoRow.holds Try.pinned (OpenSpec.upto fnTsoDoneSpec)

/-- 'laws.FnOwnStores', WHERE WHAT IT READS IS OF BULK AT MOST 1048576: true; the input reads as it did. -/
def fnOwnStoresUptoRow : OpenClaim := { program := "ytneofegnbflfiaa", sum := "ae146e71af4048bd93ff689e156a580954cd2c73aafdec5e21deadb1b89f3ff0", func := "loop.example/g00384/laws.FnOwnStores", spec := "fnOwnStores", unfollowed := true, recurses := true, apart := false, narrowed := true }
def FnOwnStoresUptoSaid : Prop := fnOwnStoresUptoRow.holds Try.pinned (OpenSpec.upto fnOwnStoresSpec)

/-- 'laws.FnFifo', WHERE WHAT IT READS IS OF BULK AT MOST 1048576: true; the input reads as it did. -/
def fnFifoUptoRow : OpenClaim := { program := "ytneofegnbflfiaa", sum := "ae146e71af4048bd93ff689e156a580954cd2c73aafdec5e21deadb1b89f3ff0", func := "loop.example/g00384/laws.FnFifo", spec := "fnFifo", unfollowed := true, recurses := true, apart := false, narrowed := true }
def FnFifoUptoSaid : Prop := fnFifoUptoRow.holds Try.pinned (OpenSpec.upto fnFifoSpec)

/-- 'laws.FnFence', WHERE WHAT IT READS IS OF BULK AT MOST 1048576: true; the input reads as it did. -/
def fnFenceUptoRow : OpenClaim := { program := "ytneofegnbflfiaa", sum := "ae146e71af4048bd93ff689e156a580954cd2c73aafdec5e21deadb1b89f3ff0", func := "loop.example/g00384/laws.FnFence", spec := "fnFence", unfollowed := true, recurses := true, apart := false, narrowed := true }
def FnFenceUptoSaid : Prop := fnFenceUptoRow.holds Try.pinned (OpenSpec.upto fnFenceSpec)

/-- 'laws.FnLoads', WHERE WHAT IT READS IS OF BULK AT MOST 1048576: true; the input reads as it did. -/
def fnLoadsUptoRow : OpenClaim := { program := "ytneofegnbflfiaa", sum := "ae146e71af4048bd93ff689e156a580954cd2c73aafdec5e21deadb1b89f3ff0", func := "loop.example/g00384/laws.FnLoads", spec := "fnLoads", unfollowed := true, recurses := true, apart := false, narrowed := true }
def FnLoadsUptoSaid : Prop := fnLoadsUptoRow.holds Try.pinned (OpenSpec.upto fnLoadsSpec)

/-- 'laws.FnDrained', WHERE WHAT IT READS IS OF BULK AT MOST 1048576: true; the input reads as it did. -/
def fnDrainedUptoRow : OpenClaim := { program := "ytneofegnbflfiaa", sum := "ae146e71af4048bd93ff689e156a580954cd2c73aafdec5e21deadb1b89f3ff0", func := "loop.example/g00384/laws.FnDrained", spec := "fnDrained", apart := false, narrowed := true }
def FnDrainedUptoSaid : Prop := fnDrainedUptoRow.holds Try.pinned (OpenSpec.upto fnDrainedSpec)

/-- 'laws.FnTsoPieces', WHERE WHAT IT READS IS OF BULK AT MOST 1048576: true; the input reads as it did. -/
def fnTsoPiecesUptoRow : OpenClaim := { program := "ytneofegnbflfiaa", sum := "ae146e71af4048bd93ff689e156a580954cd2c73aafdec5e21deadb1b89f3ff0", func := "loop.example/g00384/laws.FnTsoPieces", spec := "fnTsoPieces", unfollowed := true, recurses := true, apart := false, narrowed := true }
def FnTsoPiecesUptoSaid : Prop := fnTsoPiecesUptoRow.holds Try.pinned (OpenSpec.upto fnTsoPiecesSpec)

/-- 'laws.FnExactTsoPlay', WHERE WHAT IT READS IS OF BULK AT MOST 1048576: true; the input reads as it did. -/
def fnExactTsoPlayUptoRow : OpenClaim := { program := "ytneofegnbflfiaa", sum := "ae146e71af4048bd93ff689e156a580954cd2c73aafdec5e21deadb1b89f3ff0", func := "loop.example/g00384/laws.FnExactTsoPlay", spec := "fnExactTsoPlay", unfollowed := true, recurses := true, apart := false, narrowed := true }
def FnExactTsoPlayUptoSaid : Prop := fnExactTsoPlayUptoRow.holds Try.pinned (OpenSpec.upto fnExactTsoPlaySpec)

/-- 'laws.FnTsoNew', WHERE WHAT IT READS IS OF BULK AT MOST 1048576: true; the input reads as it did. -/
def fnTsoNewUptoRow : OpenClaim := { program := "ytneofegnbflfiaa", sum := "ae146e71af4048bd93ff689e156a580954cd2c73aafdec5e21deadb1b89f3ff0", func := "loop.example/g00384/laws.FnTsoNew", spec := "fnTsoNew", apart := false, narrowed := true }
def FnTsoNewUptoSaid : Prop := fnTsoNewUptoRow.holds Try.pinned (OpenSpec.upto fnTsoNewSpec)

end Rows
end Go.Proofs.Ytneofegnbflfiaa
