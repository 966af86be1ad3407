/- the marks of lines with no lists, of a machine with no mail; what is read of them (written by mkMkY.py) -/
import Derived.Test.YtelknolcneiikaaDoorMkX
namespace Go.Proofs.YtelknolcneiikaaDoor
open Go.RowKit
set_option linter.unusedVariables false
set_option linter.unusedSimpArgs false

/-- no lists -/
def NoL (w : World) (g N : Nat) : Prop := ∀ c, c < N → w.cell? ⟨g, c * 7 + 2, none⟩ = some (.slice none 0 0) ∧ w.cell? ⟨g, c * 7 + 6, none⟩ = some (.slice none 0 0)
/-- the first n lines hold k, k + 1, .. -/
def VL (w : World) (g n : Nat) (k : Int) : Prop := ∀ c : Nat, c < n → w.cell? ⟨g, c * 7, none⟩ = some (.int .i64 (k + 5 * c)) ∧ w.cell? ⟨g, c * 7 + 1, none⟩ = some (.int .i64 (k + 5 * c + 1)) ∧ w.cell? ⟨g, c * 7 + 3, none⟩ = some (.int .i64 (k + 5 * c + 1 + 1)) ∧ w.cell? ⟨g, c * 7 + 4, none⟩ = some (.int .i64 (k + 5 * c + 1 + 1 + 1)) ∧ w.cell? ⟨g, c * 7 + 5, none⟩ = some (.int .i64 (k + 5 * c + 1 + 1 + 1 + 1))
theorem same_set {w : World} {g x len : Nat} {v : Value} (hw : Wc w g len) (hx : x < len) : (w.setCell ⟨g, x, none⟩ v).cell? ⟨g, x, none⟩ = some v := by
  obtain ⟨u, hu⟩ := hw.facts.2 x hx
  rw [World.cell?_setCell_same (h := hu)]
theorem five {w : World} {g b len : Nat} {z0 z1 z2 z3 z4 : Value} (hw : Wc w g len) (hb : b + 6 < len) (W : World) (hW : W = ((((w.setCell ⟨g, b, none⟩ z0).setCell ⟨g, b + 1, none⟩ z1).setCell ⟨g, b + 3, none⟩ z2).setCell ⟨g, b + 4, none⟩ z3).setCell ⟨g, b + 5, none⟩ z4) :
    (∀ y, y ≠ b → y ≠ b + 1 → y ≠ b + 3 → y ≠ b + 4 → y ≠ b + 5 → W.cell? ⟨g, y, none⟩ = w.cell? ⟨g, y, none⟩) ∧ W.cell? ⟨g, b, none⟩ = some z0 ∧ W.cell? ⟨g, b + 1, none⟩ = some z1 ∧ W.cell? ⟨g, b + 3, none⟩ = some z2 ∧ W.cell? ⟨g, b + 4, none⟩ = some z3 ∧ W.cell? ⟨g, b + 5, none⟩ = some z4 := by
  subst hW
  refine ⟨fun y h0 h1 h2 h3 h4 => ?_, ?_, ?_, ?_, ?_, ?_⟩
  · rw [far_set (by omega), far_set (by omega), far_set (by omega), far_set (by omega), far_set (by omega)]
  · rw [far_set (by omega), far_set (by omega), far_set (by omega), far_set (by omega)]; exact same_set hw (by omega)
  · rw [far_set (by omega), far_set (by omega), far_set (by omega)]; exact same_set (hw.set _) (by omega)
  · rw [far_set (by omega), far_set (by omega)]; exact same_set ((hw.set _).set _) (by omega)
  · rw [far_set (by omega)]; exact same_set (((hw.set _).set _).set _) (by omega)
  · exact same_set ((((hw.set _).set _).set _).set _) (by omega)
theorem VL.step {w : World} {g N j : Nat} {k : Int} (hw : Wc w g (N * 7)) (hj : j < N) (h : VL w g j k) (hn : NoL w g N) (W : World) (hW : W = ((((w.setCell ⟨g, j * 7, none⟩ (.int .i64 (k + 5 * j))).setCell ⟨g, j * 7 + 1, none⟩ (.int .i64 (k + 5 * j + 1))).setCell ⟨g, j * 7 + 3, none⟩ (.int .i64 (k + 5 * j + 1 + 1))).setCell ⟨g, j * 7 + 4, none⟩ (.int .i64 (k + 5 * j + 1 + 1 + 1))).setCell ⟨g, j * 7 + 5, none⟩ (.int .i64 (k + 5 * j + 1 + 1 + 1 + 1))) : VL W g (j + 1) k ∧ NoL W g N := by
  obtain ⟨hf, a0, a1, a2, a3, a4⟩ := five hw (by omega) W hW
  refine ⟨fun c hc => ?_, fun c hc => ?_⟩
  · by_cases e : c = j
    · subst e; exact ⟨a0, a1, a2, a3, a4⟩
    · obtain ⟨b0, b1, b2, b3, b4⟩ := h c (by omega)
      refine ⟨?_, ?_, ?_, ?_, ?_⟩
      · rw [hf _ (by omega) (by omega) (by omega) (by omega) (by omega)]; exact b0
      · rw [hf _ (by omega) (by omega) (by omega) (by omega) (by omega)]; exact b1
      · rw [hf _ (by omega) (by omega) (by omega) (by omega) (by omega)]; exact b2
      · rw [hf _ (by omega) (by omega) (by omega) (by omega) (by omega)]; exact b3
      · rw [hf _ (by omega) (by omega) (by omega) (by omega) (by omega)]; exact b4
  · obtain ⟨b2, b6⟩ := hn c hc
    refine ⟨?_, ?_⟩
    · rw [hf _ (by omega) (by omega) (by omega) (by omega) (by omega)]; exact b2
    · rw [hf _ (by omega) (by omega) (by omega) (by omega) (by omega)]; exact b6

/-- a machine's marks -/
structure MV (w : World) (g1 g2 C N : Nat) (ib : Nat → Nat) : Prop where
  row : ∀ c, c < C → w.cell? ⟨g1, c, none⟩ = some (.slice (some ⟨ib c, 0, none⟩) N N)
  slots : ∀ c, c < C → Vr w (ib c) (N * 4) (ks 1 N c)
  lines : VL w g2 N (ks 1 N C)
  nol : NoL w g2 N
theorem VL.below {w w' : World} {g n : Nat} {k : Int} (h : VL w g n k) (hb : Below w.heap.size w w') : VL w' g n k := fun c hc => by
  obtain ⟨a, b, d, e, f⟩ := h c hc
  exact ⟨keepc hb a, keepc hb b, keepc hb d, keepc hb e, keepc hb f⟩
theorem NoL.below {w w' : World} {g n : Nat} (h : NoL w g n) (hb : Below w.heap.size w w') : NoL w' g n := fun c hc => ⟨keepc hb (h c hc).1, keepc hb (h c hc).2⟩
theorem MV.below {w w' : World} {g1 g2 C N : Nat} {ib : Nat → Nat} (h : MV w g1 g2 C N ib) (hb : Below w.heap.size w w') : MV w' g1 g2 C N ib :=
  ⟨fun c hc => keepc hb (h.row c hc), fun c hc => (h.slots c hc).below hb, h.lines.below hb, h.nol.below hb⟩

end Go.Proofs.YtelknolcneiikaaDoor
