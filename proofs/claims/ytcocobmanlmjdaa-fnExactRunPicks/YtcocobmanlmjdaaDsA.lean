/- two Tsos held against one another (written by mkDsA.py) -/
import Derived.Test.YtcocobmanlmjdaaDrC
import Derived.Deep.QuietTactic
import Derived.BigQuiet
namespace Go.Proofs.Ytcocobmanlmjdaa
open Go.RowKit
set_option linter.unusedVariables false
set_option linter.unusedSimpArgs false


/-- both boxes -/
structure Sb (w : World) (a b : Array Value) (wr : World) : Prop where
  qa : wr.heap[w.heap.size]? = some (.cells a 37 (0, 0))
  qb : wr.heap[w.heap.size + 1]? = some (.cells b 37 (0, 0))
  be : Below w.heap.size w wr
theorem Sb.made (w : World) (a b : Array Value) : Sb w a b ((w.alloc (.cells a 37)).alloc (.cells b 37)) := by
  refine ⟨?_, ?_, ((Below.refl _ _).alloc (Nat.le_refl _) _).alloc (by simp) _⟩
  · rw [Below.heap_alloc _ _ _ (by simp)]; exact heap_alloc_new _ _
  · have := heap_alloc_new (w.alloc (.cells a 37)) (.cells b 37)
    simpa only [World.size_alloc] using this
theorem Sb.below {w : World} {a b : Array Value} {wr w' : World} (h : Sb w a b wr) (hb : Below wr.heap.size wr w') : Sb w a b w' := ⟨heap_b h.qa hb, heap_b h.qb hb, h.be.trans (hb.mono h.be.size)⟩
theorem Sb.drewN {w : World} {a b : Array Value} {wr : World} (h : Sb w a b wr) (w' : World) (e : ∃ n, w' = wr.drewN n) : Sb w a b w' := by
  obtain ⟨n, rfl⟩ := e
  exact h.below (below_drewN (Below.refl _ _) n)

end Go.Proofs.Ytcocobmanlmjdaa
