/- what stays of a new machine -/
import Derived.Test.YtelknolcneiikaaDoorMnC
namespace Go.Proofs.YtelknolcneiikaaDoor
open Go.RowKit
set_option linter.unusedVariables false
set_option linter.unusedSimpArgs false

def B3 (w : World) (B : Nat) (a b c : Value) : Prop := w.cell? ⟨B, 0, none⟩ = some a ∧ w.cell? ⟨B, 1, none⟩ = some b ∧ w.cell? ⟨B, 2, none⟩ = some c
theorem B3.below {w w' : World} {B : Nat} {a b c : Value} (h : B3 w B a b c) (hb : Below w.heap.size w w') : B3 w' B a b c := ⟨keepc hb h.1, keepc hb h.2.1, keepc hb h.2.2⟩
theorem B3.chg {S : Nat → Prop} {w w' : World} {B : Nat} {a b c : Value} (h : B3 w B a b c) (hc : Chg S w w') (hS : ¬ S B) : B3 w' B a b c := ⟨hc.cell hS h.1, hc.cell hS h.2.1, hc.cell hS h.2.2⟩
theorem bx3 (w : World) (a b c : Value) (T : TypeId) : B3 (w.alloc (.cells (mc3 a b c) T)) w.heap.size a b c := (row3_facts (heap_alloc_new w (.cells (mc3 a b c) T))).2
theorem RV.below {w w' : World} {g C N : Nat} {ib : Nat → Nat} (h : RV w g C N ib) (hb : Below w.heap.size w w') : RV w' g C N ib := ⟨fun c hc => keepc hb (h.at_ c hc), fun c hc => (h.wc c hc).below hb, h.ne, h.inj⟩
theorem nil_Ss (w : World) (L : Nat → Nat) (F : Nat → Nat → Nat → Int) : Ss w (.slice none 0 0) 0 L F := ⟨none, 0, rfl, fun h => absurd h (by omega)⟩
theorem nil_Ls (w : World) (G : Nat → LnD) : Ls w (.slice none 0 0) 0 G := ⟨none, 0, rfl, fun h => absurd h (by omega)⟩
theorem nil_Sr (w : World) (m : Nat) (f : Nat → Nat → Int) : Sr w (.slice none 0 0) m 0 f := ⟨none, 0, rfl, fun h => absurd h (by omega)⟩

theorem below_chg {S : Nat → Prop} {B : Nat} {w w1 w2 : World} (h : Below B w w1) (hc : Chg S w1 w2) (hS : ∀ j, S j → B ≤ j) (hB : B ≤ w1.heap.size) : Below B w w2 :=
  ⟨hc.os.trans h.os, hc.tape.trans h.tape, hc.output.trans h.output, Nat.le_trans h.size hc.size, fun j hj => (hc.block j (Nat.lt_of_lt_of_le hj hB) (fun s => by have := hS j s; omega)).trans (h.block j hj)⟩

end Go.Proofs.YtelknolcneiikaaDoor
