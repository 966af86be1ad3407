/- DrawLooked, DrawCacheOk, DrawLookedAll -/
import Derived.Test.YtlijgkodcbnhbaaCdB
namespace Go.Proofs.Ytlijgkodcbnhbaa
open Go.RowKit
set_option linter.unusedVariables false
set_option linter.unusedSimpArgs false

theorem Bt.below {w w' : World} {ad : Option Addr} {n : Nat} (h : Bt w ad n) (hb : Below w.heap.size w w') : Bt w' ad n := by
  intro h0
  obtain ⟨b, off, rfl, hc⟩ := h h0
  refine ⟨b, off, rfl, fun j hj => ?_⟩
  obtain ⟨c, h1, h2, h3⟩ := hc j hj
  exact ⟨c, h1, h2, Below.keep hb _ _ h3⟩

/-- a cache in a variable b of its own, the answer's variable ahead, a reader between them -/
structure De (w V : World) (g b G c : Nat) (ib : Nat → Nat) (s t : Sm) : Prop where
  res : V.heap[w.heap.size]? = some (.cells #[.slice none 0 0] 26 (0, 0))
  box : V.heap[b]? = some (.cells #[sl G 2 c] 26 (0, 0))
  cg : Cg V (g + 1) (sl G 2 c) 2 (fun _ => 4) (two s t) G ib
  rd : Rdr V g
  bel : Below w.heap.size w V
  lo : w.heap.size < g ∧ g < b ∧ b ≠ G ∧ ∀ k, k < 2 → b ≠ ib k
theorem De.drew {w V : World} {g b G c : Nat} {ib : Nat → Nat} {s t : Sm} (h : De w V g b G c ib s t) : De w V.drew g b G c ib s t :=
  ⟨h.res, h.box, h.cg.below ((Below.refl _ _).drew), h.rd.below ((Below.refl _ _).drew), h.bel.drew, h.lo⟩
theorem De.read {w V V' : World} {g b G c : Nat} {ib : Nat → Nat} {s t : Sm} (h : De w V g b G c ib s t) (hr : Rdr V' g) (hg : V.grownBy V' (some g)) : De w V' g b G c ib s t := by
  obtain ⟨l1, l2, l3, l4⟩ := h.lo
  have hlo := h.cg.lo
  exact ⟨(hg.block _ (lt_of_block h.res) (by simp; omega)).trans h.res, (hg.block _ (lt_of_block h.box) (by simp; omega)).trans h.box, h.cg.grown hg (by simp; omega) (fun k hk => by have := hlo.2 k hk; simp; omega), hr, below_read h.bel hg (by omega) h.bel.size, h.lo⟩
theorem De.start {w w1 w2 : World} {g G c : Nat} {ib : Nat → Nat} {s t : Sm} (h0 : (w.alloc (.cells #[.slice none 0 0] 26)).heap.size ≤ g) (hb : Below (w.alloc (.cells #[.slice none 0 0] 26)).heap.size (w.alloc (.cells #[.slice none 0 0] 26)) w1) (hr1 : Rdr w1 g)
    (hc : Cg w2 w1.heap.size (sl G 2 c) 2 (fun _ => 4) (two s t) G ib) (hr : Rdr w2 g) (hg : w1.grownBy w2 (some g)) : De w (w2.alloc (.cells #[sl G 2 c] 26)) g w2.heap.size G c ib s t := by
  have hA : Below w.heap.size w (w.alloc (.cells #[.slice none 0 0] 26)) := (Below.refl _ _).alloc (Nat.le_refl _) _
  have hres : (w.alloc (.cells #[.slice none 0 0] 26)).heap[w.heap.size]? = some (.cells #[.slice none 0 0] 26 (0, 0)) := heap_alloc_new _ _
  simp only [World.size_alloc] at h0
  have hA2 : Below w2.heap.size w2 (w2.alloc (.cells #[sl G 2 c] 26)) := (Below.refl _ _).alloc (Nat.le_refl _) _
  have hg1 := hr1.lt
  have hg2 := hr.lt
  have hB1 := hA.trans (hb.mono hA.size)
  have r1 := heap_b hres hb
  have r2 := (hg.block _ (lt_of_block r1) (by simp; omega)).trans r1
  have hB2 := below_read hB1 hg (by omega) hB1.size
  have hlo := hc.lo
  have hGl := hc.wcG.lt
  exact ⟨heap_a r2 _, heap_alloc_new _ _, (hc.below hA2).mono (by omega), hr.below hA2, hB2.trans (hA2.mono hB2.size), by omega, by omega, by omega, fun k hk => by have := (hc.wcI k hk).lt; omega⟩
theorem De.fin {w V : World} {g b G c : Nat} {ib : Nat → Nat} {s t : Sm} (h : De w V g b G c ib s t) : Cg (V.setCell ⟨w.heap.size, 0, none⟩ (sl G 2 c)) w.heap.size (sl G 2 c) 2 (fun _ => 4) (two s t) G ib ∧ Below w.heap.size w (V.setCell ⟨w.heap.size, 0, none⟩ (sl G 2 c)) := by
  obtain ⟨l1, l2, l3, l4⟩ := h.lo
  have hlo := h.cg.lo
  have hgs := grown_set V w.heap.size 0 (sl G 2 c)
  exact ⟨(h.cg.grown hgs (by simp; omega) (fun k hk => by have := hlo.2 k hk; simp; omega)).mono (by omega), h.bel.setCell (Nat.le_refl _) _⟩
theorem De.facts {w V : World} {g b G c : Nat} {ib : Nat → Nat} {s t : Sm} (h : De w V g b G c ib s t) : V.cell? ⟨b, 0, none⟩ = some (sl G 2 c) ∧ V.frozen? ⟨w.heap.size, 0, none⟩ = false ∧ V.cell? ⟨w.heap.size, 0, none⟩ = some (.slice none 0 0) :=
  ⟨cell_of_row _ _ 0 _ _ _ h.box, frozen_of_row _ _ 0 _ _ h.res, cell_of_row _ _ 0 _ _ _ h.res⟩
theorem De.put {w V : World} {g b G c : Nat} {ib : Nat → Nat} {s t : Sm} (h : De w V g b G c ib s t) (u : Value) : (V.setCell ⟨w.heap.size, 0, none⟩ u).cell? ⟨b, 0, none⟩ = some (sl G 2 c) := by
  have := h.lo
  rw [other_set (by omega)]; exact h.facts.1

end Go.Proofs.Ytlijgkodcbnhbaa
