/- an answer in its box, wherever among the calls the box was made -/
import Derived.Test.YtcocobmanlmjdaaTmF
import Derived.Deep.DeepCutAuto
import Derived.Deep.RegionHeld3
namespace Go.Proofs.Ytcocobmanlmjdaa
open Go.RowKit
set_option linter.unusedVariables false
set_option linter.unusedSimpArgs false

theorem Ta.off {S : Nat → Prop} {w w' : World} {base : Nat} {mv bv rv : Value} {zs : List Int} {C : Nat} {L : Nat → Nat} {F : Nat → Nat → Nat → Int} {R : Nat} {Z : Nat → List Int} {vb vr : Nat → Value} {tag : Nat → Nat} (h : Ta w base mv bv rv zs C L F R Z vb vr tag) (hc : Chg S w w') (hS : ∀ b, S b → b < base ∨ tag b = 100000) (hC : C ≤ 40) (hR : R ≤ 40) : Ta w' base mv bv rv zs C L F R Z vb vr tag := by
  have no : ∀ {b t : Nat}, t < 100000 → base ≤ b → tag b = t → ¬ S b := fun {b t} ht h1 h2 s => by rcases hS b s with q | q <;> omega
  have hl : ∀ {v : Value} {zs : List Int} {t : Nat}, t < 100000 → Sl w v zs → Bk w base v zs.length tag t → Sl w' v zs := fun {v zs t} ht hs hb => by
    obtain ⟨ad, cap, rfl, hs⟩ := hs
    refine ⟨ad, cap, rfl, fun hp => ?_⟩
    obtain ⟨b, off, rfl, hcc⟩ := hs hp
    obtain ⟨h1, hw, h3⟩ := hb b off _ cap rfl hp
    exact ⟨b, off, rfl, fun j hj => hc.cell (no ht h1 h3) (hcc j hj)⟩
  have hv : ∀ {v : Value} {n : Nat} {f : Nat → Value} {t : Nat}, t < 100000 → Svs w v n f → Bk w base v n tag t → Svs w' v n f := fun {v n f t} ht hs hb => by
    obtain ⟨ad, cap, rfl, hs⟩ := hs
    refine ⟨ad, cap, rfl, fun hp => ?_⟩
    obtain ⟨b, off, rfl, hcc⟩ := hs hp
    obtain ⟨h1, hw, h3⟩ := hb b off _ cap rfl hp
    exact ⟨b, off, rfl, fun j hj => hc.cell (no ht h1 h3) (hcc j hj)⟩
  refine ⟨hl (by omega) h.ms h.mb, h.mb.chg hc, hv (by omega) h.bs h.bb, h.bb.chg hc, hv (by omega) h.rs h.rb, h.rb.chg hc, fun c hcc => ?_, fun c hcc => (h.bI c hcc).chg hc, fun c hcc => hl (by omega) (h.ri c hcc) (h.rI c hcc), fun c hcc => (h.rI c hcc).chg hc⟩
  obtain ⟨ad, cap, e, hs⟩ := h.bi c hcc
  refine ⟨ad, cap, e, fun hp => ?_⟩
  obtain ⟨b, off, e2, hd⟩ := hs hp
  obtain ⟨h1, hw, h3⟩ := h.bI c hcc b off _ cap (by rw [e, e2]) (by omega)
  exact ⟨b, off, e2, fun j hj i hi => hc.cell (no (by omega) h1 h3) (hd j hj i hi)⟩

structure Bxd (W0 wc : World) (B base : Nat) (m b r : Value) (d : Td) (D : Nat) (vb vr : Nat → Value) (tag : Nat → Nat) : Prop where
  row : wc.heap[B]? = some (.cells #[m, b, r] 37 (0, 0))
  ta : TaD wc base m b r d D vb vr tag
  lo : W0.heap.size ≤ base
  off : B < base ∨ tag B = 100000
  hi : ∀ g, wc.heap.size ≤ g → tag g = 100000
  bel : Below W0.heap.size W0 wc
  lb : W0.heap.size ≤ B

theorem Bxd.of {W0 V : World} {B base : Nat} {m b r : Value} {d : Td} {D : Nat} {vb vr : Nat → Value} {tag : Nat → Nat} (q : V.heap[B]? = some (.cells #[nil3, nil3, nil3] 37 (0, 0))) (ta : TaD V base m b r d D vb vr tag) (lo : W0.heap.size ≤ base) (off : B < base ∨ tag B = 100000) (hi : ∀ g, V.heap.size ≤ g → tag g = 100000) (hb : Below W0.heap.size W0 V) (lb : W0.heap.size ≤ B) (hD : D ≤ 40) :
    Bxd W0 (((V.setCell ⟨B, 0, none⟩ m).setCell ⟨B, 1, none⟩ b).setCell ⟨B, 2, none⟩ r) B base m b r d D vb vr tag := by
  have hc : Chg (· = B) V (((V.setCell ⟨B, 0, none⟩ m).setCell ⟨B, 1, none⟩ b).setCell ⟨B, 2, none⟩ r) := (((Chg.refl (fun x => x = B) V).set (B := B) rfl m).set (B := B) rfl b).set (B := B) rfl r
  have h1 := heap_setCell_same _ B 0 _ _ m q
  have h2 := heap_setCell_same _ B 1 _ _ b h1
  have h3 := heap_setCell_same _ B 2 _ _ r h2
  refine ⟨?_, Ta.off ta hc (fun x e => by subst e; exact off) hD hD, lo, off, ?_, ((hb.setCell (p := ⟨B, 0, none⟩) lb _).setCell (p := ⟨B, 1, none⟩) lb _).setCell (p := ⟨B, 2, none⟩) lb _, lb⟩
  · rw [h3]; rfl
  · intro g hg
    simp only [World.size_setCell] at hg
    exact hi g hg
theorem Bxd.early {W0 V : World} {B base : Nat} {m b r : Value} {d : Td} {D : Nat} {vb vr : Nat → Value} {tag : Nat → Nat} (q : V.heap[B]? = some (.cells #[nil3, nil3, nil3] 37 (0, 0))) (ta : TaD V base m b r d D vb vr tag) (lo : W0.heap.size ≤ base) (hB : B < base) (hb : Below W0.heap.size W0 V) (lb : W0.heap.size ≤ B) (hD : D ≤ 40) :
    ∃ tag', Bxd W0 (((V.setCell ⟨B, 0, none⟩ m).setCell ⟨B, 1, none⟩ b).setCell ⟨B, 2, none⟩ r) B base m b r d D vb vr tag' :=
  ⟨fun g => if g < V.heap.size then tag g else 100000, Bxd.of q (Ta.retag ta (fun g hg => if_pos hg)) lo (.inl hB) (fun g hg => if_neg (by omega)) hb lb hD⟩
theorem Bxd.late {W0 V0 V : World} {base : Nat} {m b r : Value} {d : Td} {D : Nat} {vb vr : Nat → Value} {tag : Nat → Nat} (hV : V0.alloc (.cells #[nil3, nil3, nil3] 37) = V) (ta : TaD V0 base m b r d D vb vr tag) (lo : W0.heap.size ≤ base) (hb : Below W0.heap.size W0 V0) (hD : D ≤ 40) :
    ∃ tag', Bxd W0 (((V.setCell ⟨V0.heap.size, 0, none⟩ m).setCell ⟨V0.heap.size, 1, none⟩ b).setCell ⟨V0.heap.size, 2, none⟩ r) V0.heap.size base m b r d D vb vr tag' := by
  subst hV
  have hA : Below V0.heap.size V0 (V0.alloc (.cells #[nil3, nil3, nil3] 37)) := (Below.refl _ _).alloc (Nat.le_refl _) _
  refine ⟨fun g => if g < V0.heap.size then tag g else 100000, Bxd.of (heap_alloc_new _ _) ((Ta.retag ta (fun g hg => if_pos hg)).below hA) lo (.inr (if_neg (by omega))) (fun g hg => if_neg (by have := hA.size; omega)) (hb.trans (hA.mono hb.size)) hb.size hD⟩

end Go.Proofs.Ytcocobmanlmjdaa
