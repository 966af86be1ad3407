/-
  No cell of these rows narrows 'for every input' (looked for: loops, veiled, ifaces, maps, wideKeys, modest, calm, conditions, laid).
  DERIVED. THE GIVEN ROWS OF THIS SEAT. 4 by the template 'for every input the law returns true; each argument reads behind the call as it read before'; 0 by the template 'total and deterministic' (their statements: YtgflipkhhpkidaaTotals.lean).
  GIVEN WITH THE SEED: the statements are not yours to turn. If you find one false, say at which input.
  Laid BY PROGRAM, IN A SANDBOX (cutbox-rows.mjs): the forced cells as the released guide's own fill.sh prints them over the translation c93e7f85207889f6… (all of the seat's roots in one cut). By AI agents, Wed Nov 11 2026. No macro, syntax, notation, axiom, sorry.
-/
import Derived.Test.YtgflipkhhpkidaaChecked
import GoSem.Claim
import GoSem.ClaimJoined
import GoSem.ClaimMapViews
import Derived.JoinedTies
import Derived.KernelRfl
namespace Go.Proofs.Ytgflipkhhpkidaa
/- THE CELL 'sum', in the pinned program and in every row, IS THE sha256 OF THE DUMP (.gsa) THAT YtgflipkhhpkidaaProg.lean LOADS. Nothing in Lean hashes anything: it is a label: what it is worth is what the hold of that sum in a sandbox is worth. -/
noncomputable def Try.pinned : Pinned := { name := "ytgflipkhhpkidaa", sum := "c93e7f85207889f6794cc68b499397045f9d03dabf4fde5502133a0166079487", checked := Try.checked }
namespace Rows
def none {H : Type} : Left H := { results := [], args := [] }

/-- 'laws.FnLinkDone': WHATEVER THE INPUT: true; the input reads as it did. -/
def fnLinkDoneSpec : ChangeSpec := { name := "fnLinkDone", fn := fun _ => fun
  | [d] => { results := [.lit (.bool true)], args := [d] }
  | _ => none }
def fnLinkDoneRow : OpenClaim := { program := "ytgflipkhhpkidaa", sum := "c93e7f85207889f6794cc68b499397045f9d03dabf4fde5502133a0166079487", func := "loop.example/g00384/laws.FnLinkDone", spec := "fnLinkDone", unfollowed := true, recurses := true, apart := false }
def FnLinkDoneSaid : Prop := fnLinkDoneRow.holds Try.pinned (OpenSpec.ofChange fnLinkDoneSpec)

/-- ITS FALSE NEIGHBOUR: 'it returns false'. Refute it at one input. -/
def fnLinkDoneWrong : ChangeSpec := { name := "fnLinkDone", fn := fun _ => fun
  | [d] => { results := [.lit (.bool false)], args := [d] }
  | _ => none }
def FnLinkDoneWrongFalsely : Prop := fnLinkDoneRow.holds Try.pinned (OpenSpec.ofChange fnLinkDoneWrong)

/-- 'laws.FnLinkOrder': WHATEVER THE INPUT: true; the input reads as it did. -/
def fnLinkOrderSpec : ChangeSpec := { name := "fnLinkOrder", fn := fun _ => fun
  | [d] => { results := [.lit (.bool true)], args := [d] }
  | _ => none }
def fnLinkOrderRow : OpenClaim := { program := "ytgflipkhhpkidaa", sum := "c93e7f85207889f6794cc68b499397045f9d03dabf4fde5502133a0166079487", func := "loop.example/g00384/laws.FnLinkOrder", spec := "fnLinkOrder", unfollowed := true, recurses := true, apart := false }
def FnLinkOrderSaid : Prop := fnLinkOrderRow.holds Try.pinned (OpenSpec.ofChange fnLinkOrderSpec)

/-- ITS FALSE NEIGHBOUR: 'it returns false'. Refute it at one input. -/
def fnLinkOrderWrong : ChangeSpec := { name := "fnLinkOrder", fn := fun _ => fun
  | [d] => { results := [.lit (.bool false)], args := [d] }
  | _ => none }
def FnLinkOrderWrongFalsely : Prop := fnLinkOrderRow.holds Try.pinned (OpenSpec.ofChange fnLinkOrderWrong)

/-- 'laws.FnLinkCalm': WHATEVER THE INPUT: true; the input reads as it did. -/
def fnLinkCalmSpec : ChangeSpec := { name := "fnLinkCalm", fn := fun _ => fun
  | [d] => { results := [.lit (.bool true)], args := [d] }
  | _ => none }
def fnLinkCalmRow : OpenClaim := { program := "ytgflipkhhpkidaa", sum := "c93e7f85207889f6794cc68b499397045f9d03dabf4fde5502133a0166079487", func := "loop.example/g00384/laws.FnLinkCalm", spec := "fnLinkCalm", unfollowed := true, recurses := true, apart := false }
def FnLinkCalmSaid : Prop := fnLinkCalmRow.holds Try.pinned (OpenSpec.ofChange fnLinkCalmSpec)

/-- ITS FALSE NEIGHBOUR: 'it returns false'. Refute it at one input. -/
def fnLinkCalmWrong : ChangeSpec := { name := "fnLinkCalm", fn := fun _ => fun
  | [d] => { results := [.lit (.bool false)], args := [d] }
  | _ => none }
def FnLinkCalmWrongFalsely : Prop := fnLinkCalmRow.holds Try.pinned (OpenSpec.ofChange fnLinkCalmWrong)

/-- 'laws.FnLinkPieces': WHATEVER THE INPUT: true; the input reads as it did. -/
def fnLinkPiecesSpec : ChangeSpec := { name := "fnLinkPieces", fn := fun _ => fun
  | [d] => { results := [.lit (.bool true)], args := [d] }
  | _ => none }
def fnLinkPiecesRow : OpenClaim := { program := "ytgflipkhhpkidaa", sum := "c93e7f85207889f6794cc68b499397045f9d03dabf4fde5502133a0166079487", func := "loop.example/g00384/laws.FnLinkPieces", spec := "fnLinkPieces", unfollowed := true, recurses := true, apart := false }
def FnLinkPiecesSaid : Prop := fnLinkPiecesRow.holds Try.pinned (OpenSpec.ofChange fnLinkPiecesSpec)

/-- ITS FALSE NEIGHBOUR: 'it returns false'. Refute it at one input. -/
def fnLinkPiecesWrong : ChangeSpec := { name := "fnLinkPieces", fn := fun _ => fun
  | [d] => { results := [.lit (.bool false)], args := [d] }
  | _ => none }
def FnLinkPiecesWrongFalsely : Prop := fnLinkPiecesRow.holds Try.pinned (OpenSpec.ofChange fnLinkPiecesWrong)

/- THE SECOND FORM. 'bulk': how many values and letters a reading holds, each counted each time it is reached (what is shared counts as often as it is met; a slice's spare places count too). A statement '..UptoSaid' is the law's where the arguments, and the package variables that the reading takes, are together of bulk at most 1048576: NARROWER than '..Said'. Prove '..Said' where nothing that the law and all that it calls make is longer than what came in: it says more and counts as full. Else prove '..UptoSaid'. A law counts once. -/
mutual
def uptoBulk {H : Type} : DataW H → Nat
  | .lit (.string bytes) => bytes.length + 1
  | .lit _ => 1
  | .nil => 1
  | .ptr d => uptoBulk d + 1
  | .slice elems spare => uptoBulkAll elems + uptoBulkAll spare + 1
  | .agg parts => uptoBulkAll parts + 1
  | .iface _ d => uptoBulk d + 1
  | .map entries => uptoBulkEntries entries + 1
  | .held _ => 1
def uptoBulkAll {H : Type} : List (DataW H) → Nat
  | [] => 0
  | d :: r => uptoBulk d + uptoBulkAll r
def uptoBulkEntries {H : Type} : List (Lit × DataW H) → Nat
  | [] => 0
  | x :: r => uptoBulkEntry x + uptoBulkEntries r
def uptoBulkEntry {H : Type} : Lit × DataW H → Nat
  | (.string bytes, d) => bytes.length + uptoBulk d + 1
  | (_, d) => uptoBulk d + 1
 end
def uptoSmall : (H : Type) → List (DataW H) → Bool := fun _ ds => decide (uptoBulkAll ds ≤ 1048576)
def OpenSpec.upto (s : _root_.Go.ChangeSpec) : _root_.Go.OpenSpec := { _root_.Go.OpenSpec.ofChange s with cond := some uptoSmall }

/-- 'laws.FnLinkDone', WHERE WHAT IT READS IS OF BULK AT MOST 1048576: true; the input reads as it did. -/
def fnLinkDoneUptoRow : OpenClaim := { program := "ytgflipkhhpkidaa", sum := "c93e7f85207889f6794cc68b499397045f9d03dabf4fde5502133a0166079487", func := "loop.example/g00384/laws.FnLinkDone", spec := "fnLinkDone", unfollowed := true, recurses := true, apart := false, narrowed := true }
def FnLinkDoneUptoSaid : Prop := fnLinkDoneUptoRow.holds Try.pinned (OpenSpec.upto fnLinkDoneSpec)

/-- 'laws.FnLinkOrder', WHERE WHAT IT READS IS OF BULK AT MOST 1048576: true; the input reads as it did. -/
def fnLinkOrderUptoRow : OpenClaim := { program := "ytgflipkhhpkidaa", sum := "c93e7f85207889f6794cc68b499397045f9d03dabf4fde5502133a0166079487", func := "loop.example/g00384/laws.FnLinkOrder", spec := "fnLinkOrder", unfollowed := true, recurses := true, apart := false, narrowed := true }
def FnLinkOrderUptoSaid : Prop := fnLinkOrderUptoRow.holds Try.pinned (OpenSpec.upto fnLinkOrderSpec)

/-- 'laws.FnLinkCalm', WHERE WHAT IT READS IS OF BULK AT MOST 1048576: true; the input reads as it did. -/
def fnLinkCalmUptoRow : OpenClaim := { program := "ytgflipkhhpkidaa", sum := "c93e7f85207889f6794cc68b499397045f9d03dabf4fde5502133a0166079487", func := "loop.example/g00384/laws.FnLinkCalm", spec := "fnLinkCalm", unfollowed := true, recurses := true, apart := false, narrowed := true }
def FnLinkCalmUptoSaid : Prop := fnLinkCalmUptoRow.holds Try.pinned (OpenSpec.upto fnLinkCalmSpec)

/-- 'laws.FnLinkPieces', WHERE WHAT IT READS IS OF BULK AT MOST 1048576: true; the input reads as it did. -/
def fnLinkPiecesUptoRow : OpenClaim := { program := "ytgflipkhhpkidaa", sum := "c93e7f85207889f6794cc68b499397045f9d03dabf4fde5502133a0166079487", func := "loop.example/g00384/laws.FnLinkPieces", spec := "fnLinkPieces", unfollowed := true, recurses := true, apart := false, narrowed := true }
def FnLinkPiecesUptoSaid : Prop := fnLinkPiecesUptoRow.holds Try.pinned (OpenSpec.upto fnLinkPiecesSpec)

end Rows
end Go.Proofs.Ytgflipkhhpkidaa
