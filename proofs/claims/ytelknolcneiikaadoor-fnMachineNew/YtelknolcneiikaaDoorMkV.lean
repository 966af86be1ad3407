/- what a marking writes, and what the second look reads: rows of slots, lines with no lists, a machine with no mail -/
import Derived.Test.YtelknolcneiikaaDoorMkC
namespace Go.Proofs.YtelknolcneiikaaDoor
open Go.RowKit
set_option linter.unusedVariables false
set_option linter.unusedSimpArgs false

/-- the first len cells of g hold k0, k0 + 1, .. -/
def Vr (w : World) (g len : Nat) (k0 : Int) : Prop := ∀ x, x < len → w.cell? ⟨g, x, none⟩ = some (.int .i64 (k0 + (x : Int)))
theorem Vr.at {w : World} {g len x : Nat} {k0 z : Int} (h : Vr w g len k0) (hx : x < len) (hz : z = k0 + (x : Int)) : w.cell? ⟨g, x, none⟩ = some (.int .i64 z) := by rw [hz]; exact h x hx
theorem Vr.put {w : World} {g x len : Nat} {k0 z : Int} (h : Vr w g x k0) (hw : Wc w g len) (hx : x < len) (hz : z = k0 + (x : Int)) : Vr (w.setCell ⟨g, x, none⟩ (.int .i64 z)) g (x + 1) k0 := by
  intro y hy
  by_cases e : x = y
  · subst e
    obtain ⟨u, hu⟩ := hw.facts.2 x hx
    rw [World.cell?_setCell_same (h := hu), hz]
  · rw [far_set e]; exact h y (by omega)
theorem Vr.chg {S : Nat → Prop} {w w' : World} {g len : Nat} {k0 : Int} (h : Vr w g len k0) (hc : Chg S w w') (hS : ¬ S g) : Vr w' g len k0 := fun x hx => hc.cell hS (h x hx)
theorem Vr.below {w w' : World} {g len : Nat} {k0 : Int} (h : Vr w g len k0) (hb : Below w.heap.size w w') : Vr w' g len k0 := fun x hx => keepc hb (h x hx)

end Go.Proofs.YtelknolcneiikaaDoor
