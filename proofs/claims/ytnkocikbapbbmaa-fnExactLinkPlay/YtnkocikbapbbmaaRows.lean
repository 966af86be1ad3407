/-
  No cell of these rows narrows 'for every input' (looked for: loops, veiled, ifaces, maps, wideKeys, modest, calm, conditions, laid).
  DERIVED. THE GIVEN ROWS OF THIS SEAT. 4 by the template 'for every input the law returns true; each argument reads behind the call as it read before'; 0 by the template 'total and deterministic' (their statements: YtnkocikbapbbmaaTotals.lean).
  GIVEN WITH THE SEED: the statements are not yours to turn. If you find one false, say at which input.
  Laid BY PROGRAM, IN A SANDBOX (cutbox-rows.mjs): the forced cells as the released guide's own fill.sh prints them over the translation a4956e1170a6f4ef… (all of the seat's roots in one cut). By AI agents, Wed Nov 11 2026. No macro, syntax, notation, axiom, sorry.
-/
import Derived.Test.YtnkocikbapbbmaaChecked
import GoSem.Claim
import GoSem.ClaimJoined
import GoSem.ClaimMapViews
import Derived.JoinedTies
import Derived.KernelRfl
namespace Go.Proofs.Ytnkocikbapbbmaa
/- THE CELL 'sum', in the pinned program and in every row, IS THE sha256 OF THE DUMP (.gsa) THAT YtnkocikbapbbmaaProg.lean LOADS. Nothing in Lean hashes anything: it is a label: what it is worth is what the hold of that sum in a sandbox is worth. -/
noncomputable def Try.pinned : Pinned := { name := "ytnkocikbapbbmaa", sum := "a4956e1170a6f4efb91fff3edcfeebe9738e003b261fb3d7f0275fd522bc6890", checked := Try.checked }
namespace Rows
def none {H : Type} : Left H := { results := [], args := [] }

/-- 'laws.FnExactLinkOk': WHATEVER THE INPUT: true; the input reads as it did. -/
def fnExactLinkOkSpec : ChangeSpec := { name := "fnExactLinkOk", fn := fun _ => fun
  | [d] => { results := [.lit (.bool true)], args := [d] }
  | _ => none }
def fnExactLinkOkRow : OpenClaim := { program := "ytnkocikbapbbmaa", sum := "a4956e1170a6f4efb91fff3edcfeebe9738e003b261fb3d7f0275fd522bc6890", func := "loop.example/g00384/laws.FnExactLinkOk", spec := "fnExactLinkOk", apart := false }
def FnExactLinkOkSaid : Prop := fnExactLinkOkRow.holds Try.pinned (OpenSpec.ofChange fnExactLinkOkSpec)

/-- ITS FALSE NEIGHBOUR: 'it returns false'. Refute it at one input. -/
def fnExactLinkOkWrong : ChangeSpec := { name := "fnExactLinkOk", fn := fun _ => fun
  | [d] => { results := [.lit (.bool false)], args := [d] }
  | _ => none }
def FnExactLinkOkWrongFalsely : Prop := fnExactLinkOkRow.holds Try.pinned (OpenSpec.ofChange fnExactLinkOkWrong)

/-- 'laws.FnExactLinkDo': WHATEVER THE INPUT: true; the input reads as it did. -/
def fnExactLinkDoSpec : ChangeSpec := { name := "fnExactLinkDo", fn := fun _ => fun
  | [d1, d2] => { results := [.lit (.bool true)], args := [d1, d2] }
  | _ => none }
def fnExactLinkDoRow : OpenClaim := { program := "ytnkocikbapbbmaa", sum := "a4956e1170a6f4efb91fff3edcfeebe9738e003b261fb3d7f0275fd522bc6890", func := "loop.example/g00384/laws.FnExactLinkDo", spec := "fnExactLinkDo", unfollowed := true, recurses := true, apart := false }
def FnExactLinkDoSaid : Prop := fnExactLinkDoRow.holds Try.pinned (OpenSpec.ofChange fnExactLinkDoSpec)

/-- ITS FALSE NEIGHBOUR: 'it returns false'. Refute it at one input. -/
def fnExactLinkDoWrong : ChangeSpec := { name := "fnExactLinkDo", fn := fun _ => fun
  | [d1, d2] => { results := [.lit (.bool false)], args := [d1, d2] }
  | _ => none }
def FnExactLinkDoWrongFalsely : Prop := fnExactLinkDoRow.holds Try.pinned (OpenSpec.ofChange fnExactLinkDoWrong)

/-- 'laws.FnExactLinkPlay': WHATEVER THE INPUT: true; the input reads as it did. -/
def fnExactLinkPlaySpec : ChangeSpec := { name := "fnExactLinkPlay", fn := fun _ => fun
  | [d1, d2] => { results := [.lit (.bool true)], args := [d1, d2] }
  | _ => none }
def fnExactLinkPlayRow : OpenClaim := { program := "ytnkocikbapbbmaa", sum := "a4956e1170a6f4efb91fff3edcfeebe9738e003b261fb3d7f0275fd522bc6890", func := "loop.example/g00384/laws.FnExactLinkPlay", spec := "fnExactLinkPlay", unfollowed := true, recurses := true, apart := false }
def FnExactLinkPlaySaid : Prop := fnExactLinkPlayRow.holds Try.pinned (OpenSpec.ofChange fnExactLinkPlaySpec)

/-- ITS FALSE NEIGHBOUR: 'it returns false'. Refute it at one input. -/
def fnExactLinkPlayWrong : ChangeSpec := { name := "fnExactLinkPlay", fn := fun _ => fun
  | [d1, d2] => { results := [.lit (.bool false)], args := [d1, d2] }
  | _ => none }
def FnExactLinkPlayWrongFalsely : Prop := fnExactLinkPlayRow.holds Try.pinned (OpenSpec.ofChange fnExactLinkPlayWrong)

/-- 'laws.FnExactLinkCalmed': WHATEVER THE INPUT: true; the input reads as it did. -/
def fnExactLinkCalmedSpec : ChangeSpec := { name := "fnExactLinkCalmed", fn := fun _ => fun
  | [d] => { results := [.lit (.bool true)], args := [d] }
  | _ => none }
def fnExactLinkCalmedRow : OpenClaim := { program := "ytnkocikbapbbmaa", sum := "a4956e1170a6f4efb91fff3edcfeebe9738e003b261fb3d7f0275fd522bc6890", func := "loop.example/g00384/laws.FnExactLinkCalmed", spec := "fnExactLinkCalmed", unfollowed := true, recurses := true, apart := false }
def FnExactLinkCalmedSaid : Prop := fnExactLinkCalmedRow.holds Try.pinned (OpenSpec.ofChange fnExactLinkCalmedSpec)

/-- ITS FALSE NEIGHBOUR: 'it returns false'. Refute it at one input. -/
def fnExactLinkCalmedWrong : ChangeSpec := { name := "fnExactLinkCalmed", fn := fun _ => fun
  | [d] => { results := [.lit (.bool false)], args := [d] }
  | _ => none }
def FnExactLinkCalmedWrongFalsely : Prop := fnExactLinkCalmedRow.holds Try.pinned (OpenSpec.ofChange fnExactLinkCalmedWrong)

/- THE SECOND FORM. 'bulk': how many values and letters a reading holds, each counted each time it is reached (what is shared counts as often as it is met; a slice's spare places count too). A statement '..UptoSaid' is the law's where the arguments, and the package variables that the reading takes, are together of bulk at most 1048576: NARROWER than '..Said'. Prove '..Said' where nothing that the law and all that it calls make is longer than what came in: it says more and counts as full. Else prove '..UptoSaid'. A law counts once. -/
mutual
def uptoBulk {H : Type} : DataW H → Nat
  | .lit (.string bytes) => bytes.length + 1
  | .lit _ => 1
  | .nil => 1
  | .ptr d => uptoBulk d + 1
  | .slice elems spare => uptoBulkAll elems + uptoBulkAll spare + 1
  | .agg parts => uptoBulkAll parts + 1
  | .iface _ d => uptoBulk d + 1
  | .map entries => uptoBulkEntries entries + 1
  | .held _ => 1
def uptoBulkAll {H : Type} : List (DataW H) → Nat
  | [] => 0
  | d :: r => uptoBulk d + uptoBulkAll r
def uptoBulkEntries {H : Type} : List (Lit × DataW H) → Nat
  | [] => 0
  | x :: r => uptoBulkEntry x + uptoBulkEntries r
def uptoBulkEntry {H : Type} : Lit × DataW H → Nat
  | (.string bytes, d) => bytes.length + uptoBulk d + 1
  | (_, d) => uptoBulk d + 1
 end
def uptoSmall : (H : Type) → List (DataW H) → Bool := fun _ ds => decide (uptoBulkAll ds ≤ 1048576)
def OpenSpec.upto (s : _root_.Go.ChangeSpec) : _root_.Go.OpenSpec := { _root_.Go.OpenSpec.ofChange s with cond := some uptoSmall }

/-- 'laws.FnExactLinkOk', WHERE WHAT IT READS IS OF BULK AT MOST 1048576: true; the input reads as it did. -/
def fnExactLinkOkUptoRow : OpenClaim := { program := "ytnkocikbapbbmaa", sum := "a4956e1170a6f4efb91fff3edcfeebe9738e003b261fb3d7f0275fd522bc6890", func := "loop.example/g00384/laws.FnExactLinkOk", spec := "fnExactLinkOk", apart := false, narrowed := true }
def FnExactLinkOkUptoSaid : Prop := fnExactLinkOkUptoRow.holds Try.pinned (OpenSpec.upto fnExactLinkOkSpec)

/-- 'laws.FnExactLinkDo', WHERE WHAT IT READS IS OF BULK AT MOST 1048576: true; the input reads as it did. -/
def fnExactLinkDoUptoRow : OpenClaim := { program := "ytnkocikbapbbmaa", sum := "a4956e1170a6f4efb91fff3edcfeebe9738e003b261fb3d7f0275fd522bc6890", func := "loop.example/g00384/laws.FnExactLinkDo", spec := "fnExactLinkDo", unfollowed := true, recurses := true, apart := false, narrowed := true }
def FnExactLinkDoUptoSaid : Prop := fnExactLinkDoUptoRow.holds Try.pinned (OpenSpec.upto fnExactLinkDoSpec)

/-- 'laws.FnExactLinkPlay', WHERE WHAT IT READS IS OF BULK AT MOST 1048576: true; the input reads as it did. -/
def fnExactLinkPlayUptoRow : OpenClaim := { program := "ytnkocikbapbbmaa", sum := "a4956e1170a6f4efb91fff3edcfeebe9738e003b261fb3d7f0275fd522bc6890", func := "loop.example/g00384/laws.FnExactLinkPlay", spec := "fnExactLinkPlay", unfollowed := true, recurses := true, apart := false, narrowed := true }
def FnExactLinkPlayUptoSaid : Prop := fnExactLinkPlayUptoRow.holds Try.pinned (OpenSpec.upto fnExactLinkPlaySpec)

/-- 'laws.FnExactLinkCalmed', WHERE WHAT IT READS IS OF BULK AT MOST 1048576: true; the input reads as it did. -/
def fnExactLinkCalmedUptoRow : OpenClaim := { program := "ytnkocikbapbbmaa", sum := "a4956e1170a6f4efb91fff3edcfeebe9738e003b261fb3d7f0275fd522bc6890", func := "loop.example/g00384/laws.FnExactLinkCalmed", spec := "fnExactLinkCalmed", unfollowed := true, recurses := true, apart := false, narrowed := true }
def FnExactLinkCalmedUptoSaid : Prop := fnExactLinkCalmedUptoRow.holds Try.pinned (OpenSpec.upto fnExactLinkCalmedSpec)

end Rows
end Go.Proofs.Ytnkocikbapbbmaa
