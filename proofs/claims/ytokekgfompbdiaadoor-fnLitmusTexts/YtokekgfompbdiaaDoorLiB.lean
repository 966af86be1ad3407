/- litmus tests: not too large, copied, compared, opened (written by mkLiB.py) -/
import Derived.Test.YtokekgfompbdiaaDoorLiL
import Derived.WalkKit
import Derived.ProofKit
import Derived.OpenShut
import Derived.ShutString
import Derived.ChangeOld
import Derived.Below
import Derived.OpenVars
import Derived.Deep.SlicePairs
namespace Go.Proofs.YtokekgfompbdiaaDoor
open Go.RowKit
open Go.ChangeShapes Go.WideShapes Go.ChangeAt Go.WideMaps Go.WideElems
set_option linter.unusedVariables false
set_option linter.unusedSimpArgs false

theorem Oas.set {w : World} {g C k B i : Nat} {L : Nat → Nat} {F : Nat → Nat → Nat → Int} {v : Value} (h : Oas w g C k L F) (hB : B < g) : Oas (w.setCell ⟨B, i, none⟩ v) g C k L F := by
  obtain ⟨cur, h1, h2, h3⟩ := h
  refine ⟨cur, (heap_setCell_other _ _ _ _ (show g ≠ B by omega)).trans h1, h2, fun c hc => ?_⟩
  obtain ⟨ib, a, b, d⟩ := h3 c hc
  exact ⟨ib, a, b, d.set (show B ≠ ib by omega)⟩

theorem addr_none (b o n : Nat) : (⟨b, o, none⟩ : Addr).add n = ⟨b, o + n, none⟩ := by
  by_cases h : n = 0 <;> simp [Addr.add, h]

end Go.Proofs.YtokekgfompbdiaaDoor
