/-
  No cell of these rows narrows 'for every input' (looked for: loops, veiled, ifaces, maps, wideKeys, modest, calm, conditions, laid).
  DERIVED. THE GIVEN ROWS OF THIS SEAT. 9 by the template 'for every input the law returns true; each argument reads behind the call as it read before'; 0 by the template 'total and deterministic' (their statements: YtcbadkljmcpghaaTotals.lean).
  GIVEN WITH THE SEED: the statements are not yours to turn. If you find one false, say at which input.
  Laid BY PROGRAM, IN A SANDBOX (cutbox-rows.mjs): the forced cells as the released guide's own fill.sh prints them over the translation f5d617c19980ceef… (all of the seat's roots in one cut). By AI agents, Wed Nov 11 2026. No macro, syntax, notation, axiom, sorry.
-/
import Derived.Test.YtcbadkljmcpghaaChecked
import GoSem.Claim
import GoSem.ClaimJoined
import GoSem.ClaimMapViews
import Derived.JoinedTies
import Derived.KernelRfl
namespace Go.Proofs.Ytcbadkljmcpghaa
/- THE CELL 'sum', in the pinned program and in every row, IS THE sha256 OF THE DUMP (.gsa) THAT YtcbadkljmcpghaaProg.lean LOADS. Nothing in Lean hashes anything: it is a label: what it is worth is what the hold of that sum in a sandbox is worth. -/
noncomputable def Try.pinned : Pinned := { name := "ytcbadkljmcpghaa", sum := "f5d617c19980ceeff971f038a760465c269c33156446432412fb4af58a3ecc8a", checked := Try.checked }
namespace Rows
def none {H : Type} : Left H := { results := [], args := [] }

/-- 'laws.FnExactPlruTouched': WHATEVER THE INPUT: true; the input reads as it did. -/
def fnExactPlruTouchedSpec : ChangeSpec := { name := "fnExactPlruTouched", fn := fun _ => fun
  | [d1, d2] => { results := [.lit (.bool true)], args := [d1, d2] }
  | _ => none }
def fnExactPlruTouchedRow : OpenClaim := { program := "ytcbadkljmcpghaa", sum := "f5d617c19980ceeff971f038a760465c269c33156446432412fb4af58a3ecc8a", func := "loop.example/g00384/laws.FnExactPlruTouched", spec := "fnExactPlruTouched", apart := false }
def FnExactPlruTouchedSaid : Prop := fnExactPlruTouchedRow.holds Try.pinned (OpenSpec.ofChange fnExactPlruTouchedSpec)

/-- ITS FALSE NEIGHBOUR: 'it returns false'. Refute it at one input. -/
def fnExactPlruTouchedWrong : ChangeSpec := { name := "fnExactPlruTouched", fn := fun _ => fun
  | [d1, d2] => { results := [.lit (.bool false)], args := [d1, d2] }
  | _ => none }
def FnExactPlruTouchedWrongFalsely : Prop := fnExactPlruTouchedRow.holds Try.pinned (OpenSpec.ofChange fnExactPlruTouchedWrong)

/-- 'laws.FnExactPlruVictim': WHATEVER THE INPUT: true; the input reads as it did. -/
def fnExactPlruVictimSpec : ChangeSpec := { name := "fnExactPlruVictim", fn := fun _ => fun
  | [d] => { results := [.lit (.bool true)], args := [d] }
  | _ => none }
def fnExactPlruVictimRow : OpenClaim := { program := "ytcbadkljmcpghaa", sum := "f5d617c19980ceeff971f038a760465c269c33156446432412fb4af58a3ecc8a", func := "loop.example/g00384/laws.FnExactPlruVictim", spec := "fnExactPlruVictim", apart := false }
def FnExactPlruVictimSaid : Prop := fnExactPlruVictimRow.holds Try.pinned (OpenSpec.ofChange fnExactPlruVictimSpec)

/-- ITS FALSE NEIGHBOUR: 'it returns false'. Refute it at one input. -/
def fnExactPlruVictimWrong : ChangeSpec := { name := "fnExactPlruVictim", fn := fun _ => fun
  | [d] => { results := [.lit (.bool false)], args := [d] }
  | _ => none }
def FnExactPlruVictimWrongFalsely : Prop := fnExactPlruVictimRow.holds Try.pinned (OpenSpec.ofChange fnExactPlruVictimWrong)

/-- 'laws.FnPlru': WHATEVER THE INPUT: true; the input reads as it did. -/
def fnPlruSpec : ChangeSpec := { name := "fnPlru", fn := fun _ => fun
  | [d] => { results := [.lit (.bool true)], args := [d] }
  | _ => none }
def fnPlruRow : OpenClaim := { program := "ytcbadkljmcpghaa", sum := "f5d617c19980ceeff971f038a760465c269c33156446432412fb4af58a3ecc8a", func := "loop.example/g00384/laws.FnPlru", spec := "fnPlru", apart := false }
def FnPlruSaid : Prop := fnPlruRow.holds Try.pinned (OpenSpec.ofChange fnPlruSpec)

/-- ITS FALSE NEIGHBOUR: 'it returns false'. Refute it at one input. -/
def fnPlruWrong : ChangeSpec := { name := "fnPlru", fn := fun _ => fun
  | [d] => { results := [.lit (.bool false)], args := [d] }
  | _ => none }
def FnPlruWrongFalsely : Prop := fnPlruRow.holds Try.pinned (OpenSpec.ofChange fnPlruWrong)

/-- 'laws.FnExactCacheNew': WHATEVER THE INPUT: true; the input reads as it did. -/
def fnExactCacheNewSpec : ChangeSpec := { name := "fnExactCacheNew", fn := fun _ => fun
  | [] => { results := [.lit (.bool true)], args := [] }
  | _ => none }
def fnExactCacheNewRow : OpenClaim := { program := "ytcbadkljmcpghaa", sum := "f5d617c19980ceeff971f038a760465c269c33156446432412fb4af58a3ecc8a", func := "loop.example/g00384/laws.FnExactCacheNew", spec := "fnExactCacheNew", apart := false }
def FnExactCacheNewSaid : Prop := fnExactCacheNewRow.holds Try.pinned (OpenSpec.ofChange fnExactCacheNewSpec)

/-- ITS FALSE NEIGHBOUR: 'it returns false'. Refute it at one input. -/
def fnExactCacheNewWrong : ChangeSpec := { name := "fnExactCacheNew", fn := fun _ => fun
  | [] => { results := [.lit (.bool false)], args := [] }
  | _ => none }
def FnExactCacheNewWrongFalsely : Prop := fnExactCacheNewRow.holds Try.pinned (OpenSpec.ofChange fnExactCacheNewWrong)

/-- 'laws.FnCacheNew': WHATEVER THE INPUT: true; the input reads as it did. -/
def fnCacheNewSpec : ChangeSpec := { name := "fnCacheNew", fn := fun _ => fun
  | [d] => { results := [.lit (.bool true)], args := [d] }
  | _ => none }
def fnCacheNewRow : OpenClaim := { program := "ytcbadkljmcpghaa", sum := "f5d617c19980ceeff971f038a760465c269c33156446432412fb4af58a3ecc8a", func := "loop.example/g00384/laws.FnCacheNew", spec := "fnCacheNew", apart := false }
def FnCacheNewSaid : Prop := fnCacheNewRow.holds Try.pinned (OpenSpec.ofChange fnCacheNewSpec)

/-- ITS FALSE NEIGHBOUR: 'it returns false'. Refute it at one input. -/
def fnCacheNewWrong : ChangeSpec := { name := "fnCacheNew", fn := fun _ => fun
  | [d] => { results := [.lit (.bool false)], args := [d] }
  | _ => none }
def FnCacheNewWrongFalsely : Prop := fnCacheNewRow.holds Try.pinned (OpenSpec.ofChange fnCacheNewWrong)

/-- 'laws.FnExactCacheOk': WHATEVER THE INPUT: true; the input reads as it did. -/
def fnExactCacheOkSpec : ChangeSpec := { name := "fnExactCacheOk", fn := fun _ => fun
  | [d] => { results := [.lit (.bool true)], args := [d] }
  | _ => none }
def fnExactCacheOkRow : OpenClaim := { program := "ytcbadkljmcpghaa", sum := "f5d617c19980ceeff971f038a760465c269c33156446432412fb4af58a3ecc8a", func := "loop.example/g00384/laws.FnExactCacheOk", spec := "fnExactCacheOk", apart := false }
def FnExactCacheOkSaid : Prop := fnExactCacheOkRow.holds Try.pinned (OpenSpec.ofChange fnExactCacheOkSpec)

/-- ITS FALSE NEIGHBOUR: 'it returns false'. Refute it at one input. -/
def fnExactCacheOkWrong : ChangeSpec := { name := "fnExactCacheOk", fn := fun _ => fun
  | [d] => { results := [.lit (.bool false)], args := [d] }
  | _ => none }
def FnExactCacheOkWrongFalsely : Prop := fnExactCacheOkRow.holds Try.pinned (OpenSpec.ofChange fnExactCacheOkWrong)

/-- 'laws.FnExactHolds': WHATEVER THE INPUT: true; the input reads as it did. -/
def fnExactHoldsSpec : ChangeSpec := { name := "fnExactHolds", fn := fun _ => fun
  | [d1, d2] => { results := [.lit (.bool true)], args := [d1, d2] }
  | _ => none }
def fnExactHoldsRow : OpenClaim := { program := "ytcbadkljmcpghaa", sum := "f5d617c19980ceeff971f038a760465c269c33156446432412fb4af58a3ecc8a", func := "loop.example/g00384/laws.FnExactHolds", spec := "fnExactHolds", apart := false }
def FnExactHoldsSaid : Prop := fnExactHoldsRow.holds Try.pinned (OpenSpec.ofChange fnExactHoldsSpec)

/-- ITS FALSE NEIGHBOUR: 'it returns false'. Refute it at one input. -/
def fnExactHoldsWrong : ChangeSpec := { name := "fnExactHolds", fn := fun _ => fun
  | [d1, d2] => { results := [.lit (.bool false)], args := [d1, d2] }
  | _ => none }
def FnExactHoldsWrongFalsely : Prop := fnExactHoldsRow.holds Try.pinned (OpenSpec.ofChange fnExactHoldsWrong)

/-- 'laws.FnExactLooked': WHATEVER THE INPUT: true; the input reads as it did. -/
def fnExactLookedSpec : ChangeSpec := { name := "fnExactLooked", fn := fun _ => fun
  | [d1, d2] => { results := [.lit (.bool true)], args := [d1, d2] }
  | _ => none }
def fnExactLookedRow : OpenClaim := { program := "ytcbadkljmcpghaa", sum := "f5d617c19980ceeff971f038a760465c269c33156446432412fb4af58a3ecc8a", func := "loop.example/g00384/laws.FnExactLooked", spec := "fnExactLooked", apart := false }
def FnExactLookedSaid : Prop := fnExactLookedRow.holds Try.pinned (OpenSpec.ofChange fnExactLookedSpec)

/-- ITS FALSE NEIGHBOUR: 'it returns false'. Refute it at one input. -/
def fnExactLookedWrong : ChangeSpec := { name := "fnExactLooked", fn := fun _ => fun
  | [d1, d2] => { results := [.lit (.bool false)], args := [d1, d2] }
  | _ => none }
def FnExactLookedWrongFalsely : Prop := fnExactLookedRow.holds Try.pinned (OpenSpec.ofChange fnExactLookedWrong)

/-- 'laws.FnExactLookedAll': WHATEVER THE INPUT: true; the input reads as it did. -/
def fnExactLookedAllSpec : ChangeSpec := { name := "fnExactLookedAll", fn := fun _ => fun
  | [d1, d2] => { results := [.lit (.bool true)], args := [d1, d2] }
  | _ => none }
def fnExactLookedAllRow : OpenClaim := { program := "ytcbadkljmcpghaa", sum := "f5d617c19980ceeff971f038a760465c269c33156446432412fb4af58a3ecc8a", func := "loop.example/g00384/laws.FnExactLookedAll", spec := "fnExactLookedAll", apart := false }
def FnExactLookedAllSaid : Prop := fnExactLookedAllRow.holds Try.pinned (OpenSpec.ofChange fnExactLookedAllSpec)

/-- ITS FALSE NEIGHBOUR: 'it returns false'. Refute it at one input. -/
def fnExactLookedAllWrong : ChangeSpec := { name := "fnExactLookedAll", fn := fun _ => fun
  | [d1, d2] => { results := [.lit (.bool false)], args := [d1, d2] }
  | _ => none }
def FnExactLookedAllWrongFalsely : Prop := fnExactLookedAllRow.holds Try.pinned (OpenSpec.ofChange fnExactLookedAllWrong)

/- THE SECOND FORM. 'bulk': how many values and letters a reading holds, each counted each time it is reached (what is shared counts as often as it is met; a slice's spare places count too). A statement '..UptoSaid' is the law's where the arguments, and the package variables that the reading takes, are together of bulk at most 1048576: NARROWER than '..Said'. Prove '..Said' where nothing that the law and all that it calls make is longer than what came in: it says more and counts as full. Else prove '..UptoSaid'. A law counts once. -/
mutual
def uptoBulk {H : Type} : DataW H → Nat
  | .lit (.string bytes) => bytes.length + 1
  | .lit _ => 1
  | .nil => 1
  | .ptr d => uptoBulk d + 1
  | .slice elems spare => uptoBulkAll elems + uptoBulkAll spare + 1
  | .agg parts => uptoBulkAll parts + 1
  | .iface _ d => uptoBulk d + 1
  | .map entries => uptoBulkEntries entries + 1
  | .held _ => 1
def uptoBulkAll {H : Type} : List (DataW H) → Nat
  | [] => 0
  | d :: r => uptoBulk d + uptoBulkAll r
def uptoBulkEntries {H : Type} : List (Lit × DataW H) → Nat
  | [] => 0
  | x :: r => uptoBulkEntry x + uptoBulkEntries r
def uptoBulkEntry {H : Type} : Lit × DataW H → Nat
  | (.string bytes, d) => bytes.length + uptoBulk d + 1
  | (_, d) => uptoBulk d + 1
 end
def uptoSmall : (H : Type) → List (DataW H) → Bool := fun _ ds => decide (uptoBulkAll ds ≤ 1048576)
def OpenSpec.upto (s : _root_.Go.ChangeSpec) : _root_.Go.OpenSpec := { _root_.Go.OpenSpec.ofChange s with cond := some uptoSmall }

/-- 'laws.FnExactPlruTouched', WHERE WHAT IT READS IS OF BULK AT MOST 1048576: true; the input reads as it did. -/
def fnExactPlruTouchedUptoRow : OpenClaim := { program := "ytcbadkljmcpghaa", sum := "f5d617c19980ceeff971f038a760465c269c33156446432412fb4af58a3ecc8a", func := "loop.example/g00384/laws.FnExactPlruTouched", spec := "fnExactPlruTouched", apart := false, narrowed := true }
def FnExactPlruTouchedUptoSaid : Prop := fnExactPlruTouchedUptoRow.holds Try.pinned (OpenSpec.upto fnExactPlruTouchedSpec)

/-- 'laws.FnExactPlruVictim', WHERE WHAT IT READS IS OF BULK AT MOST 1048576: true; the input reads as it did. -/
def fnExactPlruVictimUptoRow : OpenClaim := { program := "ytcbadkljmcpghaa", sum := "f5d617c19980ceeff971f038a760465c269c33156446432412fb4af58a3ecc8a", func := "loop.example/g00384/laws.FnExactPlruVictim", spec := "fnExactPlruVictim", apart := false, narrowed := true }
def FnExactPlruVictimUptoSaid : Prop := fnExactPlruVictimUptoRow.holds Try.pinned (OpenSpec.upto fnExactPlruVictimSpec)

/-- 'laws.FnPlru', WHERE WHAT IT READS IS OF BULK AT MOST 1048576: true; the input reads as it did. -/
def fnPlruUptoRow : OpenClaim := { program := "ytcbadkljmcpghaa", sum := "f5d617c19980ceeff971f038a760465c269c33156446432412fb4af58a3ecc8a", func := "loop.example/g00384/laws.FnPlru", spec := "fnPlru", apart := false, narrowed := true }
def FnPlruUptoSaid : Prop := fnPlruUptoRow.holds Try.pinned (OpenSpec.upto fnPlruSpec)

/-- 'laws.FnExactCacheNew', WHERE WHAT IT READS IS OF BULK AT MOST 1048576: true; the input reads as it did. -/
def fnExactCacheNewUptoRow : OpenClaim := { program := "ytcbadkljmcpghaa", sum := "f5d617c19980ceeff971f038a760465c269c33156446432412fb4af58a3ecc8a", func := "loop.example/g00384/laws.FnExactCacheNew", spec := "fnExactCacheNew", apart := false, narrowed := true }
def FnExactCacheNewUptoSaid : Prop := fnExactCacheNewUptoRow.holds Try.pinned (OpenSpec.upto fnExactCacheNewSpec)

/-- 'laws.FnCacheNew', WHERE WHAT IT READS IS OF BULK AT MOST 1048576: true; the input reads as it did. -/
def fnCacheNewUptoRow : OpenClaim := { program := "ytcbadkljmcpghaa", sum := "f5d617c19980ceeff971f038a760465c269c33156446432412fb4af58a3ecc8a", func := "loop.example/g00384/laws.FnCacheNew", spec := "fnCacheNew", apart := false, narrowed := true }
def FnCacheNewUptoSaid : Prop := fnCacheNewUptoRow.holds Try.pinned (OpenSpec.upto fnCacheNewSpec)

/-- 'laws.FnExactCacheOk', WHERE WHAT IT READS IS OF BULK AT MOST 1048576: true; the input reads as it did. -/
def fnExactCacheOkUptoRow : OpenClaim := { program := "ytcbadkljmcpghaa", sum := "f5d617c19980ceeff971f038a760465c269c33156446432412fb4af58a3ecc8a", func := "loop.example/g00384/laws.FnExactCacheOk", spec := "fnExactCacheOk", apart := false, narrowed := true }
def FnExactCacheOkUptoSaid : Prop := fnExactCacheOkUptoRow.holds Try.pinned (OpenSpec.upto fnExactCacheOkSpec)

/-- 'laws.FnExactHolds', WHERE WHAT IT READS IS OF BULK AT MOST 1048576: true; the input reads as it did. -/
def fnExactHoldsUptoRow : OpenClaim := { program := "ytcbadkljmcpghaa", sum := "f5d617c19980ceeff971f038a760465c269c33156446432412fb4af58a3ecc8a", func := "loop.example/g00384/laws.FnExactHolds", spec := "fnExactHolds", apart := false, narrowed := true }
def FnExactHoldsUptoSaid : Prop := fnExactHoldsUptoRow.holds Try.pinned (OpenSpec.upto fnExactHoldsSpec)

/-- 'laws.FnExactLooked', WHERE WHAT IT READS IS OF BULK AT MOST 1048576: true; the input reads as it did. -/
def fnExactLookedUptoRow : OpenClaim := { program := "ytcbadkljmcpghaa", sum := "f5d617c19980ceeff971f038a760465c269c33156446432412fb4af58a3ecc8a", func := "loop.example/g00384/laws.FnExactLooked", spec := "fnExactLooked", apart := false, narrowed := true }
def FnExactLookedUptoSaid : Prop := fnExactLookedUptoRow.holds Try.pinned (OpenSpec.upto fnExactLookedSpec)

/-- 'laws.FnExactLookedAll', WHERE WHAT IT READS IS OF BULK AT MOST 1048576: true; the input reads as it did. -/
def fnExactLookedAllUptoRow : OpenClaim := { program := "ytcbadkljmcpghaa", sum := "f5d617c19980ceeff971f038a760465c269c33156446432412fb4af58a3ecc8a", func := "loop.example/g00384/laws.FnExactLookedAll", spec := "fnExactLookedAll", apart := false, narrowed := true }
def FnExactLookedAllUptoSaid : Prop := fnExactLookedAllUptoRow.holds Try.pinned (OpenSpec.upto fnExactLookedAllSpec)

end Rows
end Go.Proofs.Ytcbadkljmcpghaa
