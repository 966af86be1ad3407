/- what stays: cells behind calls; rows that may be written; a change in known blocks (plain facts on worlds: nothing of the program) -/
import Derived.Test.YtgflipkhhpkidaaView
import Derived.Laws.Rows
import Derived.Laws.OwnMore
import Derived.OneCell
import Derived.BigQuiet
import Derived.WalkSmall
import Derived.OwnWalk
namespace Go.Proofs.Ytgflipkhhpkidaa
open Go.RowKit
set_option linter.unusedVariables false
set_option linter.unusedSimpArgs false

theorem keepc {w w' : World} (hb : Below w.heap.size w w') {a : Addr} {u : Value} (h : w.cell? a = some u) : w'.cell? a = some u := by
  rw [hb.cell (World.block_lt_of_cell? w a h)]; exact h
theorem far_set {w : World} {g i k : Nat} {v : Value} (h : i ≠ k) : (w.setCell ⟨g, i, none⟩ v).cell? ⟨g, k, none⟩ = w.cell? ⟨g, k, none⟩ := World.cell?_setCell_other _ _ _ _ (fun e => h (congrArg Addr.off e))
theorem other_set {w : World} {B g i k : Nat} {v : Value} (h : B ≠ g) : (w.setCell ⟨B, i, none⟩ v).cell? ⟨g, k, none⟩ = w.cell? ⟨g, k, none⟩ := World.cell?_setCell_other _ _ _ _ (fun e => h (congrArg Addr.block e))

/-- a block of cells, not frozen, of len cells at least -/
def Wc (w : World) (g len : Nat) : Prop := ∃ cur T, w.heap[g]? = some (.cells cur T (0, 0)) ∧ len ≤ cur.size
theorem Wc.facts {w : World} {g len : Nat} (h : Wc w g len) : (∀ i, w.frozen? ⟨g, i, none⟩ = false) ∧ ∀ i, i < len → ∃ o, w.cell? ⟨g, i, none⟩ = some o := by
  obtain ⟨cur, T, h1, h2⟩ := h
  refine ⟨fun i => frozen_of_row _ _ i _ _ h1, fun i hi => ⟨cur[i]'(by omega), ?_⟩⟩
  rw [cell_of_row _ _ _ _ _ _ h1]
  exact Array.getElem?_eq_getElem (by omega)
theorem Wc.set {w : World} {g len B i : Nat} (h : Wc w g len) (v : Value) : Wc (w.setCell ⟨B, i, none⟩ v) g len := by
  obtain ⟨cur, T, h1, h2⟩ := h
  by_cases e : B = g
  · subst e
    exact ⟨_, T, heap_setCell_same w B i _ _ v h1, by simpa using h2⟩
  · exact ⟨cur, T, by rw [heap_setCell_other _ _ _ _ (fun h => e h.symm)]; exact h1, h2⟩
theorem Wc.below {w w' : World} {g len : Nat} (h : Wc w g len) (hb : Below w.heap.size w w') : Wc w' g len := by
  obtain ⟨cur, T, h1, h2⟩ := h
  exact ⟨cur, T, (hb.block g (lt_of_block h1)).trans h1, h2⟩
theorem Wc.lt {w : World} {g len : Nat} (h : Wc w g len) : g < w.heap.size := by obtain ⟨cur, T, h1, _⟩ := h; exact lt_of_block h1

/-- a change in no block but those of S -/
structure Chg (S : Nat → Prop) (w w' : World) : Prop where
  os : w'.os = w.os
  tape : w'.tape = w.tape
  output : w'.output = w.output
  size : w.heap.size ≤ w'.heap.size
  block : ∀ j, j < w.heap.size → ¬ S j → w'.heap[j]? = w.heap[j]?
  keep : ∀ j len, Wc w j len → Wc w' j len
theorem Chg.refl (S : Nat → Prop) (w : World) : Chg S w w := ⟨rfl, rfl, rfl, Nat.le_refl _, fun _ _ _ => rfl, fun _ _ h => h⟩
theorem Chg.trans {S : Nat → Prop} {w w1 w2 : World} (h : Chg S w w1) (h' : Chg S w1 w2) : Chg S w w2 :=
  ⟨h'.os.trans h.os, h'.tape.trans h.tape, h'.output.trans h.output, Nat.le_trans h.size h'.size, fun j hj hs => (h'.block j (Nat.lt_of_lt_of_le hj h.size) hs).trans (h.block j hj hs), fun j len hw => h'.keep j len (h.keep j len hw)⟩
theorem Chg.mono {S R : Nat → Prop} {w w1 : World} (h : Chg S w w1) (hs : ∀ j, S j → R j) : Chg R w w1 :=
  ⟨h.os, h.tape, h.output, h.size, fun j hj hr => h.block j hj (fun s => hr (hs j s)), h.keep⟩
theorem Chg.set {S : Nat → Prop} {w w1 : World} (h : Chg S w w1) {B i : Nat} (hS : S B) (v : Value) : Chg S w (w1.setCell ⟨B, i, none⟩ v) := by
  have hb : Below 0 w1 (w1.setCell ⟨B, i, none⟩ v) := (Below.refl 0 w1).setCell (Nat.zero_le _) v
  exact h.trans ⟨hb.os, hb.tape, hb.output, hb.size, fun j hj hs => heap_setCell_other _ _ _ _ (fun e => hs (by subst e; exact hS)), fun j len hw => hw.set v⟩
theorem Chg.alloc {S : Nat → Prop} {w w1 : World} (h : Chg S w w1) (o : Obj) : Chg S w (w1.alloc o) := by
  have hb : Below w1.heap.size w1 (w1.alloc o) := (Below.refl _ w1).alloc (Nat.le_refl _) o
  exact h.trans ⟨hb.os, hb.tape, hb.output, hb.size, fun j hj _ => hb.block j hj, fun j len hw => hw.below hb⟩
theorem Chg.cell {S : Nat → Prop} {w w1 : World} (h : Chg S w w1) {g i : Nat} {v : Value} (hS : ¬ S g) (hc : w.cell? ⟨g, i, none⟩ = some v) : w1.cell? ⟨g, i, none⟩ = some v := by
  have hlt : g < w.heap.size := by
    by_cases hg : g < w.heap.size
    · exact hg
    · exfalso
      have hn : w.heap[g]? = none := Array.getElem?_eq_none (by omega)
      simp [World.cell?, hn] at hc
  have hb := h.block g hlt hS
  simp only [World.cell?] at hc ⊢
  rw [hb]; exact hc

theorem Chg.below {S : Nat → Prop} {w w1 w2 : World} (h : Chg S w w1) (hb : Below w1.heap.size w1 w2) : Chg S w w2 :=
  h.trans ⟨hb.os, hb.tape, hb.output, hb.size, fun j hj _ => hb.block j hj, fun j len hw => hw.below hb⟩
theorem below_chg {S : Nat → Prop} {B : Nat} {w w1 w2 : World} (h : Below B w w1) (hc : Chg S w1 w2) (hS : ∀ j, S j → B ≤ j) (hB : B ≤ w1.heap.size) : Below B w w2 :=
  ⟨hc.os.trans h.os, hc.tape.trans h.tape, hc.output.trans h.output, Nat.le_trans h.size hc.size, fun j hj => (hc.block j (Nat.lt_of_lt_of_le hj hB) (fun s => by have := hS j s; omega)).trans (h.block j hj)⟩

end Go.Proofs.Ytgflipkhhpkidaa
