/- a Tso being copied -/
import Derived.Test.YtcocobmanlmjdaaOzA
namespace Go.Proofs.Ytcocobmanlmjdaa
open Go.RowKit
set_option linter.unusedVariables false
set_option linter.unusedSimpArgs false

/-- a copy under way: the argument's box, the answer's, the copy's (NB): k buffers, q rows of registers -/
structure Cq (w wr : World) (NB : Nat) (a0 a1 a2 m b r : Value) (zs : List Int) (k q : Nat) (L : Nat → Nat) (F : Nat → Nat → Nat → Int) (Z : Nat → List Int) (vb vr : Nat → Value) (tag : Nat → Nat) : Prop where
  bel : Below w.heap.size w wr
  arg : wr.heap[w.heap.size]? = some (.cells #[a0, a1, a2] 37 (0, 0))
  res : wr.heap[w.heap.size + 1]? = some (.cells #[nil3, nil3, nil3] 37 (0, 0))
  box : wr.heap[NB]? = some (.cells #[m, b, r] 37 (0, 0))
  ta : Ta wr (w.heap.size + 1 + 1) m b r zs k L F q Z vb vr tag
  ob : wr.ownsRow (w.heap.size + 1 + 1) 90 1 b k ((List.range k).map vb)
  or : wr.ownsRow (w.heap.size + 1 + 1) 33 1 r q ((List.range q).map vr)
  bo : ∀ c, c < k → Orow wr (w.heap.size + 1 + 1) 103 2 (vb c) (L c) (L c) (F c)
  tb : ∀ g, b.ownBlock = some g → tag g = 1
  tr : ∀ g, r.ownBlock = some g → tag g = 2
  tn : tag NB = 100
  tc : ∀ c, c < k → ∀ g, (vb c).ownBlock = some g → tag g = 3 + 2 * c
  lo : w.heap.size + 1 < NB

theorem own_kept {w w' : World} {base : Nat} {T : TypeId} {m n : Nat} {v : Value} {xs : List Value} {row : Option Nat} (h : w.ownsRow base T m v n xs) (hg : w.grownBy w' row) (hne : ∀ g, v.ownBlock = some g → row ≠ some g) : w'.ownsRow base T m v n xs := by
  refine World.ownsRow.kept h hg ?_
  cases hv : v.ownBlock with
  | none => exact .inl rfl
  | some k => exact .inr (fun e => hne k hv e.symm)
theorem own_base {w : World} {base base' : Nat} {T : TypeId} {m n : Nat} {v : Value} {xs : List Value} (h : w.ownsRow base T m v n xs) (hb : base' ≤ base) : w.ownsRow base' T m v n xs := by
  refine ⟨h.1, ?_⟩
  rcases h.2 with h' | ⟨g, cap, cur, h', hbb, r⟩
  · exact .inl h'
  · exact .inr ⟨g, cap, cur, h', Nat.le_trans hb hbb, r⟩
/-- the block of a row of its own, at its length -/
theorem own_wc {w : World} {base : Nat} {T : TypeId} {m n : Nat} {v : Value} {xs : List Value} (h : w.ownsRow base T m v n xs) : ∀ g off n' cap, v = .slice (some ⟨g, off, none⟩) n' cap → base ≤ g ∧ Wc w g (off + n * m) := by
  intro g off n' cap e
  rcases h.2 with ⟨h', _⟩ | ⟨g', cap', cur, h', hb, hg, hnc, _, hcs, _⟩
  · rw [h'] at e; simp at e
  · rw [h'] at e
    simp only [Value.slice.injEq, Option.some.injEq, Addr.mk.injEq] at e
    obtain ⟨⟨rfl, rfl, _⟩, rfl, rfl⟩ := e
    exact ⟨hb, cur, T, hg, by rw [hcs, Nat.zero_add]; exact Nat.mul_le_mul_right _ hnc⟩

theorem Cq.drew {w wr : World} {NB : Nat} {a0 a1 a2 m b r : Value} {zs : List Int} {k q : Nat} {L : Nat → Nat} {F : Nat → Nat → Nat → Int} {Z : Nat → List Int} {vb vr : Nat → Value} {tag : Nat → Nat} (h : Cq w wr NB a0 a1 a2 m b r zs k q L F Z vb vr tag) : Cq w wr.drew NB a0 a1 a2 m b r zs k q L F Z vb vr tag :=
  ⟨h.bel.drew, h.arg, h.res, h.box, h.ta.below ((Below.refl _ _).drew), h.ob, h.or, h.bo, h.tb, h.tr, h.tn, h.tc, h.lo⟩

/-- one more buffer -/
theorem Cq.stepB {w wr w2 w3 : World} {NB g cap H : Nat} {a0 a1 a2 m b r u : Value} {zs : List Int} {k q : Nat} {L : Nat → Nat} {F : Nat → Nat → Nat → Int} {Z : Nat → List Int} {vb vr : Nat → Value} {tag : Nat → Nat}
    (h : Cq w wr NB a0 a1 a2 m b r zs k q L F Z vb vr tag) (hk : k < 40) (hq : q ≤ 40) (hb : Below wr.heap.size wr w2) (hu : Orow w2 wr.heap.size 103 2 u (L k) (L k) (F k))
    (hown : w3.ownsRow (w.heap.size + 1 + 1) 90 1 (.slice (some ⟨g, 0, none⟩) (k + 1) cap) (k + 1) ((List.range k).map vb ++ [u])) (hgrow : w2.grownBy w3 b.ownBlock) (hat : b.ownBlock = some g ∨ g = H) (hH : w2.heap.size = H) :
    ∃ tag', Cq w (w3.setCell ⟨NB, 1, none⟩ (.slice (some ⟨g, 0, none⟩) (k + 1) cap)) NB a0 a1 a2 m (.slice (some ⟨g, 0, none⟩) (k + 1) cap) r zs (k + 1) q L F Z (ext vb k u) vr tag' := by
  subst hH
  have hs := hb.size
  have hNB : NB < wr.heap.size := lt_of_block h.box
  have hlo := h.lo
  have hbl : ∀ g, b.ownBlock = some g → w.heap.size + 1 + 1 ≤ g ∧ g < wr.heap.size := fun g e => World.ownsRow.lt h.ob g e
  have hne : ∀ {B : Nat}, tag B ≠ 1 → b.ownBlock ≠ some B := fun {B} h1 e => h1 (h.tb B e)
  have hg13 : wr.grownBy w3 b.ownBlock := grown_trans (grown_any hb) hgrow
  have hul : ∀ x, u.ownBlock = some x → wr.heap.size ≤ x ∧ x < w2.heap.size := fun x e => World.ownsRow.lt hu x e
  have hu3 : Orow w3 wr.heap.size 103 2 u (L k) (L k) (F k) := own_kept hu hgrow (fun x e q => by have := hbl x q; have := hul x e; omega)
  have hl : (Value.slice (some ⟨g, 0, none⟩) (k + 1) cap).ownBlock = b.ownBlock ∨ ∃ g', (Value.slice (some ⟨g, 0, none⟩) (k + 1) cap).ownBlock = some g' ∧ wr.heap.size ≤ g' := by
    rcases hat with hat | hat
    · exact .inl hat.symm
    · exact .inr ⟨g, rfl, by omega⟩
  have hnu : ∀ x, (Value.slice (some ⟨g, 0, none⟩) (k + 1) cap).ownBlock = some x → u.ownBlock ≠ some x := fun x e q => by
    have e' : g = x := by simpa [Value.ownBlock] using e
    subst e'
    have h1 := hul g q
    rcases hat with hat | hat
    · have := hbl g hat; omega
    · omega
  obtain ⟨tag', ta', t1, t2, t3⟩ := h.ta.pushB h.tb hg13 hu3.sr (fun x off n' cap' e _ => own_wc hu3 x off n' cap' e) hown hl hnu (by have := hbl; omega)
  have htn : tag' NB = 100 := by rw [t2 NB hNB]; exact h.tn
  have hset := grown_set w3 NB 1 (.slice (some ⟨g, 0, none⟩) (k + 1) cap)
  have hB2 := h.bel.trans (hb.mono h.bel.size)
  have hB3 : Below w.heap.size w w3 := hB2.grown hgrow hB2.size (fun x e => by have := hbl x e; omega)
  have hgl : w.heap.size + 1 + 1 ≤ g := (World.ownsRow.lt hown g rfl).1
  have keepb : ∀ {B : Nat} {o : Obj}, B < wr.heap.size → wr.heap[B]? = some o → b.ownBlock ≠ some B → B ≠ NB → (w3.setCell ⟨NB, 1, none⟩ (.slice (some ⟨g, 0, none⟩) (k + 1) cap)).heap[B]? = some o := fun {B o} hl ho hn hn2 => by
    rw [hset.block B (by have := hg13.size; omega) (by simpa using hn2), hg13.block B hl (fun e => hn e.symm)]; exact ho
  refine ⟨tag', hB3.setCell (by show w.heap.size ≤ NB; omega) _, keepb (by have := lt_of_block h.arg; omega) h.arg (fun e => by have := hbl _ e; omega) (by omega), keepb (by omega) h.res (fun e => by have := hbl _ e; omega) (by omega), ?_, ta'.tagged hset (fun x e => by simp only [Option.some.injEq] at e; rw [← e]; exact htn) (by omega) hq, own_kept (by rw [← ext_row]; exact hown) hset (fun x e q => by simp only [Option.some.injEq] at q; have := t1 x e; rw [← q, htn] at this; omega), own_kept (own_kept h.or hg13 (fun x e q => by have h1 := h.tr x e; have h2 := h.tb x q; omega)) hset (fun x e q => by simp only [Option.some.injEq] at q; have h1 := h.tr x e; rw [← q, h.tn] at h1; omega), fun c hc => ?_, t1, fun x e => ?_, htn, fun c hc x e => ?_, hlo⟩
  · rw [heap_setCell_same _ _ 1 _ _ _ ((hg13.block NB hNB (fun e => hne (by rw [h.tn]; decide) e.symm)).trans h.box)]; rfl
  · by_cases e : c = k
    · subst e
      rw [ext_at]
      exact own_kept (own_base hu3 (by omega)) hset (fun x e q => by simp only [Option.some.injEq] at q; have := hul x e; omega)
    · rw [ext_old (by omega)]
      refine own_kept (own_kept (h.bo c (by omega)) hg13 (fun x e1 q => ?_)) hset (fun x e1 q => ?_)
      · have h1 := h.tc c (by omega) x e1; have h2 := h.tb x q; omega
      · simp only [Option.some.injEq] at q; have h1 := h.tc c (by omega) x e1; rw [← q, h.tn] at h1; omega
  · rw [t2 x (World.ownsRow.lt h.or x e).2]; exact h.tr x e
  · by_cases e1 : c = k
    · subst e1
      rw [ext_at] at e
      exact t3 x e (hul x e).1
    · rw [ext_old (by omega)] at e
      rw [t2 x (World.ownsRow.lt (h.bo c (by omega)) x e).2]
      exact h.tc c (by omega) x e
/-- one more row of registers -/
theorem Cq.stepR {w wr w2 w3 : World} {NB g cap H : Nat} {a0 a1 a2 m b r u : Value} {zs : List Int} {k q : Nat} {L : Nat → Nat} {F : Nat → Nat → Nat → Int} {Z : Nat → List Int} {vb vr : Nat → Value} {tag : Nat → Nat}
    (h : Cq w wr NB a0 a1 a2 m b r zs k q L F Z vb vr tag) (hk : k ≤ 40) (hq : q < 40) (hb : Below wr.heap.size wr w2) (hu : Ow w2 wr.heap.size u (Z q))
    (hown : w3.ownsRow (w.heap.size + 1 + 1) 33 1 (.slice (some ⟨g, 0, none⟩) (q + 1) cap) (q + 1) ((List.range q).map vr ++ [u])) (hgrow : w2.grownBy w3 r.ownBlock) (hat : r.ownBlock = some g ∨ g = H) (hH : w2.heap.size = H) :
    ∃ tag', Cq w (w3.setCell ⟨NB, 2, none⟩ (.slice (some ⟨g, 0, none⟩) (q + 1) cap)) NB a0 a1 a2 m b (.slice (some ⟨g, 0, none⟩) (q + 1) cap) zs k (q + 1) L F Z vb (ext vr q u) tag' := by
  subst hH
  have hs := hb.size
  have hNB : NB < wr.heap.size := lt_of_block h.box
  have hlo := h.lo
  have hbl : ∀ g, r.ownBlock = some g → w.heap.size + 1 + 1 ≤ g ∧ g < wr.heap.size := fun g e => World.ownsRow.lt h.or g e
  have hne : ∀ {B : Nat}, tag B ≠ 2 → r.ownBlock ≠ some B := fun {B} h1 e => h1 (h.tr B e)
  have hg13 : wr.grownBy w3 r.ownBlock := grown_trans (grown_any hb) hgrow
  have hul : ∀ x, u.ownBlock = some x → wr.heap.size ≤ x ∧ x < w2.heap.size := fun x e => World.ownsRow.lt hu x e
  have hu3 : Ow w3 wr.heap.size u (Z q) := own_kept hu hgrow (fun x e q => by have := hbl x q; have := hul x e; omega)
  have hl : (Value.slice (some ⟨g, 0, none⟩) (q + 1) cap).ownBlock = r.ownBlock ∨ ∃ g', (Value.slice (some ⟨g, 0, none⟩) (q + 1) cap).ownBlock = some g' ∧ wr.heap.size ≤ g' := by
    rcases hat with hat | hat
    · exact .inl hat.symm
    · exact .inr ⟨g, rfl, by omega⟩
  have hnu : ∀ x, (Value.slice (some ⟨g, 0, none⟩) (q + 1) cap).ownBlock = some x → u.ownBlock ≠ some x := fun x e q => by
    have e' : g = x := by simpa [Value.ownBlock] using e
    subst e'
    have h1 := hul g q
    rcases hat with hat | hat
    · have := hbl g hat; omega
    · omega
  obtain ⟨tag', ta', t1, t2⟩ := h.ta.pushR h.tr hg13 hu3.sl (fun x off n' cap' e _ => by have := own_wc hu3 x off n' cap' e; rwa [Nat.mul_one] at this) hown hl hnu (by have := hbl; omega)
  have htn : tag' NB = 100 := by rw [t2 NB hNB]; exact h.tn
  have hset := grown_set w3 NB 2 (.slice (some ⟨g, 0, none⟩) (q + 1) cap)
  have hB2 := h.bel.trans (hb.mono h.bel.size)
  have hB3 : Below w.heap.size w w3 := hB2.grown hgrow hB2.size (fun x e => by have := hbl x e; omega)
  have hgl : w.heap.size + 1 + 1 ≤ g := (World.ownsRow.lt hown g rfl).1
  have keepb : ∀ {B : Nat} {o : Obj}, B < wr.heap.size → wr.heap[B]? = some o → r.ownBlock ≠ some B → B ≠ NB → (w3.setCell ⟨NB, 2, none⟩ (.slice (some ⟨g, 0, none⟩) (q + 1) cap)).heap[B]? = some o := fun {B o} hl ho hn hn2 => by
    rw [hset.block B (by have := hg13.size; omega) (by simpa using hn2), hg13.block B hl (fun e => hn e.symm)]; exact ho
  refine ⟨tag', hB3.setCell (by show w.heap.size ≤ NB; omega) _, keepb (by have := lt_of_block h.arg; omega) h.arg (fun e => by have := hbl _ e; omega) (by omega), keepb (by omega) h.res (fun e => by have := hbl _ e; omega) (by omega), ?_, ta'.tagged hset (fun x e => by simp only [Option.some.injEq] at e; rw [← e]; exact htn) hk (by omega), own_kept (own_kept h.ob hg13 (fun x e q => by have h1 := h.tb x e; have h2 := h.tr x q; omega)) hset (fun x e q => by simp only [Option.some.injEq] at q; have h1 := h.tb x e; rw [← q, h.tn] at h1; omega), own_kept (by rw [← ext_row]; exact hown) hset (fun x e q => by simp only [Option.some.injEq] at q; have := t1 x e; rw [← q, htn] at this; omega), fun c hc => ?_, fun x e => ?_, t1, htn, fun c hc x e => ?_, hlo⟩
  · rw [heap_setCell_same _ _ 2 _ _ _ ((hg13.block NB hNB (fun e => hne (by rw [h.tn]; decide) e.symm)).trans h.box)]; rfl
  · refine own_kept (own_kept (h.bo c hc) hg13 (fun x e1 q => ?_)) hset (fun x e1 q => ?_)
    · have h1 := h.tc c hc x e1; have h2 := h.tr x q; omega
    · simp only [Option.some.injEq] at q; have h1 := h.tc c hc x e1; rw [← q, h.tn] at h1; omega
  · rw [t2 x (World.ownsRow.lt h.ob x e).2]; exact h.tb x e
  · rw [t2 x (World.ownsRow.lt (h.bo c hc) x e).2]; exact h.tc c hc x e

end Go.Proofs.Ytcocobmanlmjdaa
