/- View, ChA -/
import Derived.WalkKit
import Derived.WalkSpells
import Derived.Deep.QuietTactic
import Derived.Laws.Rows
import Derived.Laws.OwnMore
import Derived.OneCell
import Derived.BigQuiet
import Derived.WalkSmall
import Derived.OwnWalk
/-
  Views of a slice of int64: 'Sl': it can be read as zs; 'Ow': it is the call's own and holds zs. Plain facts on worlds: nothing of the program.
-/
namespace Go.Proofs.Ytnkocikbapbbmaa
open Go.RowKit

theorem hide {p : Prop} (h : p) : Hid p := h
def Sl (w : World) (v : Value) (zs : List Int) : Prop :=
  ∃ ad cap, v = .slice ad zs.length cap ∧ (0 < zs.length → ∃ b off, ad = some ⟨b, off, none⟩ ∧ ∀ j, j < zs.length → w.cell? ⟨b, off + j, none⟩ = some (.int .i64 (zs.getD j 0)))

def Ow (w : World) (base : Nat) (v : Value) (zs : List Int) : Prop := w.ownsRow base 2 1 v zs.length (zs.map (Value.int .i64))

theorem Sl.carry {w w' : World} {v : Value} {zs : List Int} (h : Sl w v zs) (hb : ∀ a : Addr, ∀ u, w.cell? a = some u → w'.cell? a = some u) : Sl w' v zs := by
  obtain ⟨ad, cap, rfl, h⟩ := h
  refine ⟨ad, cap, rfl, fun hp => ?_⟩
  obtain ⟨b, off, rfl, hc⟩ := h hp
  exact ⟨b, off, rfl, fun j hj => hb _ _ (hc j hj)⟩

theorem Below.keep {w w' : World} (hb : Below w.heap.size w w') : ∀ a : Addr, ∀ u, w.cell? a = some u → w'.cell? a = some u := by
  intro a u h
  rw [hb.cell (World.block_lt_of_cell? w a h)]; exact h

theorem Sl.below {w w' : World} {v : Value} {zs : List Int} (h : Sl w v zs) (hb : Below w.heap.size w w') : Sl w' v zs := h.carry (Below.keep hb)

theorem grown_of_below {w w' : World} (hb : Below w.heap.size w w') : w.grownBy w' none := ⟨hb.os, hb.tape, hb.output, hb.size, fun k hk _ => hb.block k hk⟩

theorem Ow.below {w w' : World} {base : Nat} {v : Value} {zs : List Int} (h : Ow w base v zs) (hb : Below w.heap.size w w') : Ow w' base v zs := by
  refine World.ownsRow.kept h (grown_of_below hb) ?_
  cases hv : v.ownBlock with
  | none => exact .inl rfl
  | some k => exact .inr (by simp)

theorem Ow.sl {w : World} {base : Nat} {v : Value} {zs : List Int} (h : Ow w base v zs) : Sl w v zs := by
  rcases h.2 with ⟨h', hn⟩ | ⟨g, cap, cur, h', hb, hg, hnc, hcm, hcs, htake⟩
  · refine ⟨none, 0, by rw [hn]; exact h', fun hp => by omega⟩
  · refine ⟨some ⟨g, 0, none⟩, cap, h', fun _ => ⟨g, 0, rfl, fun j hj => ?_⟩⟩
    have hh : w.ownsRow base 2 1 (.slice (some ⟨g, 0, none⟩) zs.length cap) zs.length (zs.map (Value.int .i64)) := h' ▸ h
    have := hh.cellAt j (by omega)
    rw [Nat.zero_add, this]
    simp [hj]

/-- writes to another own row leave this one -/
theorem Ow.other {w w' : World} {base base' : Nat} {v u : Value} {zs ys : List Int} (h : Ow w base v zs) (hu : Ow w base' u ys) (hlt : ∀ k, v.ownBlock = some k → k < base') (hg : w.grownBy w' u.ownBlock) : Ow w' base v zs := by
  refine World.ownsRow.kept h hg ?_
  cases hv : v.ownBlock with
  | none => exact .inl rfl
  | some k =>
    refine .inr fun e => ?_
    have h1 := World.ownsRow.lt hu k e.symm
    have h2 := hlt k hv
    omega

theorem Ow.mono {w : World} {base base' : Nat} {v : Value} {zs : List Int} (h : Ow w base v zs) (hb : base' ≤ base) : Ow w base' v zs := by
  refine ⟨h.1, ?_⟩
  rcases h.2 with h' | ⟨g, cap, cur, h', hbb, hg⟩
  · exact .inl h'
  · exact .inr ⟨g, cap, cur, h', by omega, hg⟩

theorem addr_add (b off j : Nat) : (⟨b, off, none⟩ : Addr).add j = ⟨b, off + j, none⟩ := by
  unfold Addr.add
  by_cases h : j = 0
  · subst h; rfl
  · simp [h]

theorem grown_trans {w w1 w2 : World} {row : Option Nat} (h : w.grownBy w1 row) (k : w1.grownBy w2 row) : w.grownBy w2 row :=
  ⟨k.os.trans h.os, k.tape.trans h.tape, k.output.trans h.output, Nat.le_trans h.size k.size, fun j hj hne => (k.block j (Nat.lt_of_lt_of_le hj h.size) hne).trans (h.block j hj hne)⟩

theorem Ow.form {w : World} {base : Nat} {v : Value} {zs : List Int} (h : Ow w base v zs) : ∃ ad cap, v = .slice ad zs.length cap ∧ (0 < zs.length → ∃ g, ad = some ⟨g, 0, none⟩) := by
  rcases h.2 with ⟨h', hn⟩ | ⟨g, cap, cur, h', _⟩
  · exact ⟨none, 0, by rw [hn]; exact h', fun hp => by omega⟩
  · exact ⟨_, cap, h', fun _ => ⟨g, rfl⟩⟩

end Go.Proofs.Ytnkocikbapbbmaa

/- what stays: cells behind calls; rows that may be written; a change in known blocks (plain facts on worlds: nothing of the program) -/
namespace Go.Proofs.Ytnkocikbapbbmaa
open Go.RowKit
set_option linter.unusedVariables false
set_option linter.unusedSimpArgs false

theorem keepc {w w' : World} (hb : Below w.heap.size w w') {a : Addr} {u : Value} (h : w.cell? a = some u) : w'.cell? a = some u := by
  rw [hb.cell (World.block_lt_of_cell? w a h)]; exact h
theorem far_set {w : World} {g i k : Nat} {v : Value} (h : i ≠ k) : (w.setCell ⟨g, i, none⟩ v).cell? ⟨g, k, none⟩ = w.cell? ⟨g, k, none⟩ := World.cell?_setCell_other _ _ _ _ (fun e => h (congrArg Addr.off e))
/-- a block of cells, not frozen, of len cells at least -/
def Wc (w : World) (g len : Nat) : Prop := ∃ cur T, w.heap[g]? = some (.cells cur T (0, 0)) ∧ len ≤ cur.size
theorem Wc.facts {w : World} {g len : Nat} (h : Wc w g len) : (∀ i, w.frozen? ⟨g, i, none⟩ = false) ∧ ∀ i, i < len → ∃ o, w.cell? ⟨g, i, none⟩ = some o := by
  obtain ⟨cur, T, h1, h2⟩ := h
  refine ⟨fun i => frozen_of_row _ _ i _ _ h1, fun i hi => ⟨cur[i]'(by omega), ?_⟩⟩
  rw [cell_of_row _ _ _ _ _ _ h1]
  exact Array.getElem?_eq_getElem (by omega)
theorem Wc.set {w : World} {g len B i : Nat} (h : Wc w g len) (v : Value) : Wc (w.setCell ⟨B, i, none⟩ v) g len := by
  obtain ⟨cur, T, h1, h2⟩ := h
  by_cases e : B = g
  · subst e
    exact ⟨_, T, heap_setCell_same w B i _ _ v h1, by simpa using h2⟩
  · exact ⟨cur, T, by rw [heap_setCell_other _ _ _ _ (fun h => e h.symm)]; exact h1, h2⟩
theorem Wc.below {w w' : World} {g len : Nat} (h : Wc w g len) (hb : Below w.heap.size w w') : Wc w' g len := by
  obtain ⟨cur, T, h1, h2⟩ := h
  exact ⟨cur, T, (hb.block g (lt_of_block h1)).trans h1, h2⟩
theorem Wc.lt {w : World} {g len : Nat} (h : Wc w g len) : g < w.heap.size := by obtain ⟨cur, T, h1, _⟩ := h; exact lt_of_block h1

/-- a change in no block but those of S -/
structure Chg (S : Nat → Prop) (w w' : World) : Prop where
  os : w'.os = w.os
  tape : w'.tape = w.tape
  output : w'.output = w.output
  size : w.heap.size ≤ w'.heap.size
  block : ∀ j, j < w.heap.size → ¬ S j → w'.heap[j]? = w.heap[j]?
  keep : ∀ j len, Wc w j len → Wc w' j len
theorem Chg.refl (S : Nat → Prop) (w : World) : Chg S w w := ⟨rfl, rfl, rfl, Nat.le_refl _, fun _ _ _ => rfl, fun _ _ h => h⟩
theorem Chg.trans {S : Nat → Prop} {w w1 w2 : World} (h : Chg S w w1) (h' : Chg S w1 w2) : Chg S w w2 :=
  ⟨h'.os.trans h.os, h'.tape.trans h.tape, h'.output.trans h.output, Nat.le_trans h.size h'.size, fun j hj hs => (h'.block j (Nat.lt_of_lt_of_le hj h.size) hs).trans (h.block j hj hs), fun j len hw => h'.keep j len (h.keep j len hw)⟩
theorem Chg.mono {S R : Nat → Prop} {w w1 : World} (h : Chg S w w1) (hs : ∀ j, S j → R j) : Chg R w w1 :=
  ⟨h.os, h.tape, h.output, h.size, fun j hj hr => h.block j hj (fun s => hr (hs j s)), h.keep⟩
theorem Chg.set {S : Nat → Prop} {w w1 : World} (h : Chg S w w1) {B i : Nat} (hS : S B) (v : Value) : Chg S w (w1.setCell ⟨B, i, none⟩ v) := by
  have hb : Below 0 w1 (w1.setCell ⟨B, i, none⟩ v) := (Below.refl 0 w1).setCell (Nat.zero_le _) v
  exact h.trans ⟨hb.os, hb.tape, hb.output, hb.size, fun j hj hs => heap_setCell_other _ _ _ _ (fun e => hs (by subst e; exact hS)), fun j len hw => hw.set v⟩
theorem Chg.alloc {S : Nat → Prop} {w w1 : World} (h : Chg S w w1) (o : Obj) : Chg S w (w1.alloc o) := by
  have hb : Below w1.heap.size w1 (w1.alloc o) := (Below.refl _ w1).alloc (Nat.le_refl _) o
  exact h.trans ⟨hb.os, hb.tape, hb.output, hb.size, fun j hj _ => hb.block j hj, fun j len hw => hw.below hb⟩
theorem Chg.cell {S : Nat → Prop} {w w1 : World} (h : Chg S w w1) {g i : Nat} {v : Value} (hS : ¬ S g) (hc : w.cell? ⟨g, i, none⟩ = some v) : w1.cell? ⟨g, i, none⟩ = some v := by
  have hlt : g < w.heap.size := by
    by_cases hg : g < w.heap.size
    · exact hg
    · exfalso
      have hn : w.heap[g]? = none := Array.getElem?_eq_none (by omega)
      simp [World.cell?, hn] at hc
  have hb := h.block g hlt hS
  simp only [World.cell?] at hc ⊢
  rw [hb]; exact hc

theorem Chg.below {S : Nat → Prop} {w w1 w2 : World} (h : Chg S w w1) (hb : Below w1.heap.size w1 w2) : Chg S w w2 :=
  h.trans ⟨hb.os, hb.tape, hb.output, hb.size, fun j hj _ => hb.block j hj, fun j len hw => hw.below hb⟩
end Go.Proofs.Ytnkocikbapbbmaa
