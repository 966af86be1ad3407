/- pairs: measured, copied, compared, opened -/
import Derived.Test.YtplnfddleaoimaaPrA
import Derived.WalkKit
import Derived.ProofKit
import Derived.OpenShut
import Derived.ShutString
import Derived.ChangeOld
import Derived.Below
import Derived.OpenVars
import Derived.Deep.SlicePairs
namespace Go.Proofs.Ytplnfddleaoimaa
open Go.ChangeShapes Go.WideShapes Go.ChangeAt Go.WideMaps Go.WideElems Go.RowKit
set_option linter.unusedVariables false
set_option linter.unusedSimpArgs false

abbrev pq (L R : Value) (a b : Bool) : Array Value := #[L, R, .bool a, .bool b]
abbrev nilS : Value := .slice none 0 0
theorem row4_facts {w : World} {B : Nat} {T : TypeId} {v0 v1 v2 v3 : Value} (h : w.heap[B]? = some (.cells #[v0, v1, v2, v3] T (0, 0))) : (∀ i, w.frozen? ⟨B, i, none⟩ = false) ∧ w.cell? ⟨B, 0, none⟩ = some v0 ∧ w.cell? ⟨B, 1, none⟩ = some v1 ∧ w.cell? ⟨B, 2, none⟩ = some v2 ∧ w.cell? ⟨B, 3, none⟩ = some v3 :=
  ⟨fun i => frozen_of_row _ _ i _ _ h, (cell_of_row _ _ _ _ _ _ h).trans rfl, (cell_of_row _ _ _ _ _ _ h).trans rfl, (cell_of_row _ _ _ _ _ _ h).trans rfl, (cell_of_row _ _ _ _ _ _ h).trans rfl⟩
/-- the four cells of a box -/
def B4 (w : World) (B : Nat) (v0 v1 v2 v3 : Value) : Prop := w.cell? ⟨B, 0, none⟩ = some v0 ∧ w.cell? ⟨B, 1, none⟩ = some v1 ∧ w.cell? ⟨B, 2, none⟩ = some v2 ∧ w.cell? ⟨B, 3, none⟩ = some v3
theorem bx4 (w : World) (v0 v1 v2 v3 : Value) (T : TypeId) : B4 (w.alloc (.cells #[v0, v1, v2, v3] T)) w.heap.size v0 v1 v2 v3 := (row4_facts (heap_alloc_new w (.cells #[v0, v1, v2, v3] T))).2
theorem B4.below {w w' : World} {B : Nat} {v0 v1 v2 v3 : Value} (h : B4 w B v0 v1 v2 v3) (hb : Below w.heap.size w w') : B4 w' B v0 v1 v2 v3 := ⟨keepc hb h.1, keepc hb h.2.1, keepc hb h.2.2.1, keepc hb h.2.2.2⟩

/-- a pair whose lists lie in blocks of their own, from lo on, below hi -/
structure Pw (w : World) (lo hi : Nat) (L R : Value) (zl zr : List Int) : Prop where
  l : Ow w lo L zl
  r : Ow w lo R zr
  ne : ∀ k, L.ownBlock = some k → R.ownBlock = some k → False
  lh : ∀ k, L.ownBlock = some k → k < hi
  rh : ∀ k, R.ownBlock = some k → k < hi
theorem Pw.below {w w' : World} {lo hi : Nat} {L R : Value} {zl zr : List Int} (h : Pw w lo hi L R zl zr) (hb : Below w.heap.size w w') : Pw w' lo hi L R zl zr := ⟨h.l.below hb, h.r.below hb, h.ne, h.lh, h.rh⟩
theorem Pw.wide {w : World} {lo hi lo' hi' : Nat} {L R : Value} {zl zr : List Int} (h : Pw w lo hi L R zl zr) (h1 : lo' ≤ lo) (h2 : hi ≤ hi') : Pw w lo' hi' L R zl zr := ⟨h.l.mono h1, h.r.mono h1, h.ne, fun k hk => Nat.lt_of_lt_of_le (h.lh k hk) h2, fun k hk => Nat.lt_of_lt_of_le (h.rh k hk) h2⟩
theorem Ow.lt {w : World} {lo : Nat} {v : Value} {zs : List Int} (h : Ow w lo v zs) : ∀ k, v.ownBlock = some k → lo ≤ k ∧ k < w.heap.size := fun k hk => World.ownsRow.lt h k hk

/-- a store elsewhere -/
theorem Ow.set {w : World} {base B i : Nat} {v u : Value} {zs : List Int} (h : Ow w base v zs) (hne : ∀ k, v.ownBlock = some k → k ≠ B) : Ow (w.setCell ⟨B, i, none⟩ u) base v zs := by
  obtain ⟨h1, h2⟩ := h
  refine ⟨h1, ?_⟩
  rcases h2 with h2 | ⟨g', cap', cur, e, hb, hg, r⟩
  · exact .inl h2
  · refine .inr ⟨g', cap', cur, e, hb, ?_, r⟩
    rw [heap_setCell_other _ _ _ _ (by have := hne g' (by rw [e]; rfl); simpa using this)]
    exact hg
theorem Pw.set {w : World} {lo hi B i : Nat} {L R u : Value} {zl zr : List Int} (h : Pw w lo hi L R zl zr) (hB : B < lo ∨ hi ≤ B) : Pw (w.setCell ⟨B, i, none⟩ u) lo hi L R zl zr :=
  ⟨h.l.set (fun k hk e => by have := h.l.lt k hk; have := h.lh k hk; omega), h.r.set (fun k hk e => by have := h.r.lt k hk; have := h.rh k hk; omega), h.ne, h.lh, h.rh⟩

theorem three_boxes (w : World) (a b c : Array Value) (Ta Tb Tc : TypeId) : Hid (∀ W, ((w.alloc (.cells a Ta)).alloc (.cells b Tb)).alloc (.cells c Tc) = W → W.heap[w.heap.size]? = some (.cells a Ta (0, 0)) ∧ W.heap[w.heap.size + 1]? = some (.cells b Tb (0, 0)) ∧ W.heap[w.heap.size + 1 + 1]? = some (.cells c Tc (0, 0)) ∧ Below w.heap.size w W ∧ W.heap.size = w.heap.size + 1 + 1 + 1) := by
  refine hide fun W hW => ?_
  subst hW
  refine ⟨?_, ?_, ?_, ?_, by simp⟩
  · rw [Below.heap_alloc _ _ _ (by simp; omega), Below.heap_alloc _ _ _ (by simp)]; exact heap_alloc_new _ _
  · rw [Below.heap_alloc _ _ _ (by simp)]; have := heap_alloc_new (w.alloc (.cells a Ta)) (.cells b Tb); simpa only [World.size_alloc] using this
  · have := heap_alloc_new ((w.alloc (.cells a Ta)).alloc (.cells b Tb)) (.cells c Tc); simpa only [World.size_alloc] using this
  · exact (((Below.refl _ _).alloc (Nat.le_refl _) _).alloc (by simp) _).alloc (by simp; omega) _

set_option maxRecDepth 100000 in
theorem open_ints1 {W : World} {H : Type} {enc : TypeId × Value → H} {base : Nat} {spare : Nat → Bool} {held : Bool} {fuel : Nat} {cs : List Value} {x : DataW H × List MemPlace} (h : DataW.trod enc Try.prog W base spare held fuel 24 cs = some x) :
    ∃ (v : Value) (zs : List Int), cs = [v] ∧ Sl W v zs ∧ zs.length ≤ maxLen := by
  rcases open_ints Try.underlying24 Try.underlying2 (by kernel_rfl) h with ⟨hcs, _⟩ | ⟨x, l, c, zs, hcs, _, hl, hm, hz, _, hcell, hwz⟩
  · exact ⟨_, [], hcs, ⟨none, 0, rfl, fun hp => absurd hp (by simp)⟩, Nat.zero_le _⟩
  · obtain ⟨h1, h2⟩ := sl_of_row (len := l) (cap := c) (by rw [hz]; split <;> omega) hcell
    exact ⟨_, _, hcs, h2, by rw [h1]; omega⟩

end Go.Proofs.Ytplnfddleaoimaa
