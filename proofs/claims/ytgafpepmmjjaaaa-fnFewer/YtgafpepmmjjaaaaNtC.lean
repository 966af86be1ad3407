/- nets: copied, compared, opened -/
import Derived.Test.YtgafpepmmjjaaaaNtB
import Derived.WalkKit
import Derived.ProofKit
import Derived.OpenShut
import Derived.ShutString
import Derived.ChangeOld
import Derived.Below
import Derived.OpenVars
import Derived.Deep.SlicePairs
namespace Go.Proofs.Ytgafpepmmjjaaaa
open Go.ChangeShapes Go.WideShapes Go.ChangeAt Go.WideMaps Go.WideElems Go.RowKit
set_option linter.unusedVariables false
set_option linter.unusedSimpArgs false

theorem Orow.other {w : World} {base : Nat} {T : TypeId} {m g l cap n k B i : Nat} {f : Nat → Nat → Int} {v : Value} (h : Orow w base T m (.slice (some ⟨g, 0, none⟩) l cap) n k f) (hne : g ≠ B) : Orow (w.setCell ⟨B, i, none⟩ v) base T m (.slice (some ⟨g, 0, none⟩) l cap) n k f := by
  obtain ⟨h1, h2⟩ := h
  refine ⟨h1, ?_⟩
  rcases h2 with h2 | ⟨g', cap', cur, e, hb, hg, r⟩
  · exact .inl h2
  · refine .inr ⟨g', cap', cur, e, hb, ?_, r⟩
    simp only [Value.slice.injEq, Option.some.injEq, Addr.mk.injEq] at e
    obtain ⟨⟨rfl, _, _⟩, _, _⟩ := e
    rw [heap_setCell_other _ _ _ _ (by simpa using hne)]
    exact hg
theorem Orow.blk {w : World} {base : Nat} {T : TypeId} {m g n cap k l : Nat} {f : Nat → Nat → Int} (h : Orow w base T m (.slice (some ⟨g, 0, none⟩) l cap) n k f) : base ≤ g ∧ g < w.heap.size := World.ownsRow.lt h g rfl
theorem Orow.lower {w : World} {base base' : Nat} {T : TypeId} {m n k : Nat} {v : Value} {f : Nat → Nat → Int} (h : Orow w base T m v n k f) (hb : base' ≤ base) : Orow w base' T m v n k f := by
  obtain ⟨h1, h2⟩ := h
  refine ⟨h1, ?_⟩
  rcases h2 with h2 | ⟨g', cap', cur, e, hb', r⟩
  · exact .inl h2
  · exact .inr ⟨g', cap', cur, e, Nat.le_trans hb hb', r⟩

abbrev nt (N : Int) (v : Value) : Array Value := #[.int .i64 N, v]
abbrev fl (g n : Nat) : Value := .slice (some ⟨g, 0, none⟩) n n
abbrev nilS : Value := .slice none 0 0

theorem addr_none (b o n : Nat) : (⟨b, o, none⟩ : Addr).add n = ⟨b, o + n, none⟩ := by
  by_cases h : n = 0 <;> simp [Addr.add, h]

end Go.Proofs.Ytgafpepmmjjaaaa
