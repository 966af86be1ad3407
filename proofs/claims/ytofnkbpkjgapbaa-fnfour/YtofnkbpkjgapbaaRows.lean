/-
  No cell of these rows narrows 'for every input' (looked for: loops, veiled, ifaces, maps, wideKeys, modest, calm, conditions, laid).
  DERIVED. THE GIVEN ROWS OF THIS SEAT. 5 by the template 'for every input the law returns true; each argument reads behind the call as it read before'; 0 by the template 'total and deterministic' (their statements: YtofnkbpkjgapbaaTotals.lean).
  GIVEN WITH THE SEED: the statements are not yours to turn. If you find one false, say at which input.
  Laid BY PROGRAM, IN A SANDBOX (cutbox-rows.mjs): the forced cells as the released guide's own fill.sh prints them over the translation 1385cae96d2bafa1… (all of the seat's roots in one cut). By AI agents, Wed Nov 11 2026. No macro, syntax, notation, axiom, sorry.
-/
import Derived.Test.YtofnkbpkjgapbaaChecked
import GoSem.Claim
import GoSem.ClaimJoined
import GoSem.ClaimMapViews
import Derived.JoinedTies
import Derived.KernelRfl
namespace Go.Proofs.Ytofnkbpkjgapbaa
/- THE CELL 'sum', in the pinned program and in every row, IS THE sha256 OF THE DUMP (.gsa) THAT YtofnkbpkjgapbaaProg.lean LOADS. Nothing in Lean hashes anything: it is a label: what it is worth is what the hold of that sum in a sandbox is worth. -/
noncomputable def Try.pinned : Pinned := { name := "ytofnkbpkjgapbaa", sum := "1385cae96d2bafa1914fed1e52283ec26668c686de8cf024fb89e306b157d3b6", checked := Try.checked }
namespace Rows
def none {H : Type} : Left H := { results := [], args := [] }

/-- 'laws.FnLooked': WHATEVER THE INPUT: true; the input reads as it did. -/
def fnLookedSpec : ChangeSpec := { name := "fnLooked", fn := fun _ => fun
  | [d] => { results := [.lit (.bool true)], args := [d] }
  | _ => none }
def fnLookedRow : OpenClaim := { program := "ytofnkbpkjgapbaa", sum := "1385cae96d2bafa1914fed1e52283ec26668c686de8cf024fb89e306b157d3b6", func := "loop.example/g00384/laws.FnLooked", spec := "fnLooked", apart := false }
def FnLookedSaid : Prop := fnLookedRow.holds Try.pinned (OpenSpec.ofChange fnLookedSpec)

/-- ITS FALSE NEIGHBOUR: 'it returns false'. Refute it at one input. -/
def fnLookedWrong : ChangeSpec := { name := "fnLooked", fn := fun _ => fun
  | [d] => { results := [.lit (.bool false)], args := [d] }
  | _ => none }
def FnLookedWrongFalsely : Prop := fnLookedRow.holds Try.pinned (OpenSpec.ofChange fnLookedWrong)

/-- 'laws.FnHits': WHATEVER THE INPUT: true; the input reads as it did. -/
def fnHitsSpec : ChangeSpec := { name := "fnHits", fn := fun _ => fun
  | [d] => { results := [.lit (.bool true)], args := [d] }
  | _ => none }
def fnHitsRow : OpenClaim := { program := "ytofnkbpkjgapbaa", sum := "1385cae96d2bafa1914fed1e52283ec26668c686de8cf024fb89e306b157d3b6", func := "loop.example/g00384/laws.FnHits", spec := "fnHits", apart := false }
def FnHitsSaid : Prop := fnHitsRow.holds Try.pinned (OpenSpec.ofChange fnHitsSpec)

/-- ITS FALSE NEIGHBOUR: 'it returns false'. Refute it at one input. -/
def fnHitsWrong : ChangeSpec := { name := "fnHits", fn := fun _ => fun
  | [d] => { results := [.lit (.bool false)], args := [d] }
  | _ => none }
def FnHitsWrongFalsely : Prop := fnHitsRow.holds Try.pinned (OpenSpec.ofChange fnHitsWrong)

/-- 'laws.FnFour': WHATEVER THE INPUT: true; the input reads as it did. -/
def fnFourSpec : ChangeSpec := { name := "fnFour", fn := fun _ => fun
  | [d] => { results := [.lit (.bool true)], args := [d] }
  | _ => none }
def fnFourRow : OpenClaim := { program := "ytofnkbpkjgapbaa", sum := "1385cae96d2bafa1914fed1e52283ec26668c686de8cf024fb89e306b157d3b6", func := "loop.example/g00384/laws.FnFour", spec := "fnFour", apart := false }
def FnFourSaid : Prop := fnFourRow.holds Try.pinned (OpenSpec.ofChange fnFourSpec)

/-- ITS FALSE NEIGHBOUR: 'it returns false'. Refute it at one input. -/
def fnFourWrong : ChangeSpec := { name := "fnFour", fn := fun _ => fun
  | [d] => { results := [.lit (.bool false)], args := [d] }
  | _ => none }
def FnFourWrongFalsely : Prop := fnFourRow.holds Try.pinned (OpenSpec.ofChange fnFourWrong)

/-- 'laws.FnApart': WHATEVER THE INPUT: true; the input reads as it did. -/
def fnApartSpec : ChangeSpec := { name := "fnApart", fn := fun _ => fun
  | [d] => { results := [.lit (.bool true)], args := [d] }
  | _ => none }
def fnApartRow : OpenClaim := { program := "ytofnkbpkjgapbaa", sum := "1385cae96d2bafa1914fed1e52283ec26668c686de8cf024fb89e306b157d3b6", func := "loop.example/g00384/laws.FnApart", spec := "fnApart", apart := false }
def FnApartSaid : Prop := fnApartRow.holds Try.pinned (OpenSpec.ofChange fnApartSpec)

/-- ITS FALSE NEIGHBOUR: 'it returns false'. Refute it at one input. -/
def fnApartWrong : ChangeSpec := { name := "fnApart", fn := fun _ => fun
  | [d] => { results := [.lit (.bool false)], args := [d] }
  | _ => none }
def FnApartWrongFalsely : Prop := fnApartRow.holds Try.pinned (OpenSpec.ofChange fnApartWrong)

/-- 'laws.FnLookPieces': WHATEVER THE INPUT: true; the input reads as it did. -/
def fnLookPiecesSpec : ChangeSpec := { name := "fnLookPieces", fn := fun _ => fun
  | [d] => { results := [.lit (.bool true)], args := [d] }
  | _ => none }
def fnLookPiecesRow : OpenClaim := { program := "ytofnkbpkjgapbaa", sum := "1385cae96d2bafa1914fed1e52283ec26668c686de8cf024fb89e306b157d3b6", func := "loop.example/g00384/laws.FnLookPieces", spec := "fnLookPieces", apart := false }
def FnLookPiecesSaid : Prop := fnLookPiecesRow.holds Try.pinned (OpenSpec.ofChange fnLookPiecesSpec)

/-- ITS FALSE NEIGHBOUR: 'it returns false'. Refute it at one input. -/
def fnLookPiecesWrong : ChangeSpec := { name := "fnLookPieces", fn := fun _ => fun
  | [d] => { results := [.lit (.bool false)], args := [d] }
  | _ => none }
def FnLookPiecesWrongFalsely : Prop := fnLookPiecesRow.holds Try.pinned (OpenSpec.ofChange fnLookPiecesWrong)

/- THE SECOND FORM. 'bulk': how many values and letters a reading holds, each counted each time it is reached (what is shared counts as often as it is met; a slice's spare places count too). A statement '..UptoSaid' is the law's where the arguments, and the package variables that the reading takes, are together of bulk at most 1048576: NARROWER than '..Said'. Prove '..Said' where nothing that the law and all that it calls make is longer than what came in: it says more and counts as full. Else prove '..UptoSaid'. A law counts once. -/
mutual
def uptoBulk {H : Type} : DataW H → Nat
  | .lit (.string bytes) => bytes.length + 1
  | .lit _ => 1
  | .nil => 1
  | .ptr d => uptoBulk d + 1
  | .slice elems spare => uptoBulkAll elems + uptoBulkAll spare + 1
  | .agg parts => uptoBulkAll parts + 1
  | .iface _ d => uptoBulk d + 1
  | .map entries => uptoBulkEntries entries + 1
  | .held _ => 1
def uptoBulkAll {H : Type} : List (DataW H) → Nat
  | [] => 0
  | d :: r => uptoBulk d + uptoBulkAll r
def uptoBulkEntries {H : Type} : List (Lit × DataW H) → Nat
  | [] => 0
  | x :: r => uptoBulkEntry x + uptoBulkEntries r
def uptoBulkEntry {H : Type} : Lit × DataW H → Nat
  | (.string bytes, d) => bytes.length + uptoBulk d + 1
  | (_, d) => uptoBulk d + 1
 end
def uptoSmall : (H : Type) → List (DataW H) → Bool := fun _ ds => decide (uptoBulkAll ds ≤ 1048576)
def OpenSpec.upto (s : _root_.Go.ChangeSpec) : _root_.Go.OpenSpec := { _root_.Go.OpenSpec.ofChange s with cond := some uptoSmall }

/-- 'laws.FnLooked', WHERE WHAT IT READS IS OF BULK AT MOST 1048576: true; the input reads as it did. -/
def fnLookedUptoRow : OpenClaim := { program := "ytofnkbpkjgapbaa", sum := "1385cae96d2bafa1914fed1e52283ec26668c686de8cf024fb89e306b157d3b6", func := "loop.example/g00384/laws.FnLooked", spec := "fnLooked", apart := false, narrowed := true }
def FnLookedUptoSaid : Prop := fnLookedUptoRow.holds Try.pinned (OpenSpec.upto fnLookedSpec)

/-- 'laws.FnHits', WHERE WHAT IT READS IS OF BULK AT MOST 1048576: true; the input reads as it did. -/
def fnHitsUptoRow : OpenClaim := { program := "ytofnkbpkjgapbaa", sum := "1385cae96d2bafa1914fed1e52283ec26668c686de8cf024fb89e306b157d3b6", func := "loop.example/g00384/laws.FnHits", spec := "fnHits", apart := false, narrowed := true }
def FnHitsUptoSaid : Prop := fnHitsUptoRow.holds Try.pinned (OpenSpec.upto fnHitsSpec)

/-- 'laws.FnFour', WHERE WHAT IT READS IS OF BULK AT MOST 1048576: true; the input reads as it did. -/
def fnFourUptoRow : OpenClaim := { program := "ytofnkbpkjgapbaa", sum := "1385cae96d2bafa1914fed1e52283ec26668c686de8cf024fb89e306b157d3b6", func := "loop.example/g00384/laws.FnFour", spec := "fnFour", apart := false, narrowed := true }
def FnFourUptoSaid : Prop := fnFourUptoRow.holds Try.pinned (OpenSpec.upto fnFourSpec)

/-- 'laws.FnApart', WHERE WHAT IT READS IS OF BULK AT MOST 1048576: true; the input reads as it did. -/
def fnApartUptoRow : OpenClaim := { program := "ytofnkbpkjgapbaa", sum := "1385cae96d2bafa1914fed1e52283ec26668c686de8cf024fb89e306b157d3b6", func := "loop.example/g00384/laws.FnApart", spec := "fnApart", apart := false, narrowed := true }
def FnApartUptoSaid : Prop := fnApartUptoRow.holds Try.pinned (OpenSpec.upto fnApartSpec)

/-- 'laws.FnLookPieces', WHERE WHAT IT READS IS OF BULK AT MOST 1048576: true; the input reads as it did. -/
def fnLookPiecesUptoRow : OpenClaim := { program := "ytofnkbpkjgapbaa", sum := "1385cae96d2bafa1914fed1e52283ec26668c686de8cf024fb89e306b157d3b6", func := "loop.example/g00384/laws.FnLookPieces", spec := "fnLookPieces", apart := false, narrowed := true }
def FnLookPiecesUptoSaid : Prop := fnLookPiecesUptoRow.holds Try.pinned (OpenSpec.upto fnLookPiecesSpec)

end Rows
end Go.Proofs.Ytofnkbpkjgapbaa
