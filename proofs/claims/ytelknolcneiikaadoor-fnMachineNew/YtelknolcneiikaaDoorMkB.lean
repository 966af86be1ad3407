/- the marks of rows of rows, of lines, of a machine -/
import Derived.Test.YtelknolcneiikaaDoorMkA
namespace Go.Proofs.YtelknolcneiikaaDoor
open Go.RowKit
set_option linter.unusedVariables false
set_option linter.unusedSimpArgs false

/-- rows of slots that may be written -/
def MSs (w : World) (g E C : Nat) (L : Nat → Nat) : Prop := ∀ c, c < C → ∃ ib, w.cell? ⟨g, c, none⟩ = some (.slice (some ⟨ib, 0, none⟩) (L c) (L c)) ∧ (g < ib ∧ ib < E) ∧ Wc w ib (L c * 4)

/-- lines that may be written: Z c sharers, Q c requests -/
def MLs (w : World) (g E N : Nat) (Z Q : Nat → Nat) : Prop := Wc w g (N * 7) ∧ ∀ c, c < N → (∃ sb, w.cell? ⟨g, c * 7 + 2, none⟩ = some (.slice (some ⟨sb, 0, none⟩) (Z c) (Z c)) ∧ (g < sb ∧ sb < E) ∧ Wc w sb (Z c)) ∧ ∃ qb, w.cell? ⟨g, c * 7 + 6, none⟩ = some (.slice (some ⟨qb, 0, none⟩) (Q c) (Q c)) ∧ (g < qb ∧ qb < E) ∧ Wc w qb (Q c * 2)
theorem far_set {w : World} {g i k : Nat} {v : Value} (h : i ≠ k) : (w.setCell ⟨g, i, none⟩ v).cell? ⟨g, k, none⟩ = w.cell? ⟨g, k, none⟩ := World.cell?_setCell_other _ _ _ _ (fun e => h (congrArg Addr.off e))
/-- a line's lists stand where they stood -/
def Same (w wr : World) (g N : Nat) : Prop := ∀ c, c < N → wr.cell? ⟨g, c * 7 + 2, none⟩ = w.cell? ⟨g, c * 7 + 2, none⟩ ∧ wr.cell? ⟨g, c * 7 + 6, none⟩ = w.cell? ⟨g, c * 7 + 6, none⟩
theorem Same.set {w wr : World} {g N i : Nat} (h : Same w wr g N) (h2 : ∀ c, i ≠ c * 7 + 2 ∧ i ≠ c * 7 + 6) (v : Value) : Same w (wr.setCell ⟨g, i, none⟩ v) g N := by
  intro c hc
  obtain ⟨a, b⟩ := h c hc
  refine ⟨?_, ?_⟩
  · rw [far_set (h2 c).1]; exact a
  · rw [far_set (h2 c).2]; exact b
theorem Same.chg {w wr w2 : World} {g N b : Nat} (h : Same w wr g N) (hc : Chg (· = b) wr w2) (hb : g < b) (hg : g < wr.heap.size) : Same w w2 g N := by
  intro c hcc
  obtain ⟨x, y⟩ := h c hcc
  have e := hc.block g hg (fun h => by have h : g = b := h; omega)
  refine ⟨?_, ?_⟩
  · rw [← x]; simp only [World.cell?]; rw [e]
  · rw [← y]; simp only [World.cell?]; rw [e]

theorem MLs.chg {S : Nat → Prop} {w w' : World} {g E N : Nat} {Z Q : Nat → Nat} (h : MLs w g E N Z Q) (hc : Chg S w w') (hS : ¬ S g) : MLs w' g E N Z Q := by
  obtain ⟨h1, h2⟩ := h
  refine ⟨hc.keep _ _ h1, fun c hcN => ?_⟩
  obtain ⟨⟨sb, a, b, d⟩, qb, a', b', d'⟩ := h2 c hcN
  exact ⟨⟨sb, hc.cell hS a, b, hc.keep _ _ d⟩, qb, hc.cell hS a', b', hc.keep _ _ d'⟩
theorem MSs.chg {S : Nat → Prop} {w w' : World} {g E C : Nat} {L : Nat → Nat} (h : MSs w g E C L) (hc : Chg S w w') (hS : ¬ S g) : MSs w' g E C L := by
  intro c hcC
  obtain ⟨ib, a, b, d⟩ := h c hcC
  exact ⟨ib, hc.cell hS a, b, hc.keep _ _ d⟩

end Go.Proofs.YtelknolcneiikaaDoor
