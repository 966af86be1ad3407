/- a Tso being made anew: no stores wait, all is nought -/
import Derived.Test.YtcocobmanlmjdaaDsA
import Derived.Test.YtcocobmanlmjdaaTmC
import Derived.Deep.RegionHeld
import Derived.Deep.DeepCutAuto
import Derived.Maps.AppendAt
namespace Go.Proofs.Ytcocobmanlmjdaa
open Go.RowKit
set_option linter.unusedVariables false
set_option linter.unusedSimpArgs false

abbrev z0L : Nat → Nat := fun _ => 0
abbrev z0F : Nat → Nat → Nat → Int := fun _ _ _ => 0
abbrev z0Z : Nat → List Int := fun _ => [0, 0]
abbrev z0V : Nat → Value := fun _ => .slice none 0 0
/-- under way: the answer's box (the world's first new block), the Tso's box NB, k rows of registers -/
structure Nq (w wr : World) (NB : Nat) (m b r : Value) (C q : Nat) (vr : Nat → Value) (tag : Nat → Nat) : Prop where
  bel : Below w.heap.size w wr
  res : wr.heap[w.heap.size]? = some (.cells #[.slice none 0 0, .slice none 0 0, .slice none 0 0] 37 (0, 0))
  box : wr.heap[NB]? = some (.cells #[m, b, r] 37 (0, 0))
  ta : Ta wr (w.heap.size + 1) m b r [0, 0, 0] C z0L z0F q z0Z z0V vr tag
  or : wr.ownsRow (w.heap.size + 1) 33 1 r q ((List.range q).map vr)
  tr : ∀ g, r.ownBlock = some g → tag g = 2
  tn : tag NB = 100
  lo : w.heap.size < NB
theorem Nq.drew {w wr : World} {NB : Nat} {m b r : Value} {C q : Nat} {vr : Nat → Value} {tag : Nat → Nat} (h : Nq w wr NB m b r C q vr tag) : Nq w wr.drew NB m b r C q vr tag :=
  ⟨h.bel.drew, h.res, h.box, h.ta.below ((Below.refl _ _).drew), h.or, h.tr, h.tn, h.lo⟩
/-- one more row of registers -/
theorem Nq.stepR {w wr w2 w3 : World} {NB g cap H : Nat} {m b r u : Value} {C q : Nat} {vr : Nat → Value} {tag : Nat → Nat}
    (h : Nq w wr NB m b r C q vr tag) (hk : C ≤ 40) (hq : q < 40) (hb : Below wr.heap.size wr w2) (hu : Ow w2 wr.heap.size u [0, 0])
    (hown : w3.ownsRow (w.heap.size + 1) 33 1 (.slice (some ⟨g, 0, none⟩) (q + 1) cap) (q + 1) ((List.range q).map vr ++ [u])) (hgrow : w2.grownBy w3 r.ownBlock) (hat : r.ownBlock = some g ∨ g = H) (hH : w2.heap.size = H) :
    ∃ tag', Nq w (w3.setCell ⟨NB, 2, none⟩ (.slice (some ⟨g, 0, none⟩) (q + 1) cap)) NB m b (.slice (some ⟨g, 0, none⟩) (q + 1) cap) C (q + 1) (ext vr q u) tag' := by
  subst hH
  have hs := hb.size
  have hNB : NB < wr.heap.size := lt_of_block h.box
  have hlo := h.lo
  have hbl : ∀ g, r.ownBlock = some g → w.heap.size + 1 ≤ g ∧ g < wr.heap.size := fun g e => World.ownsRow.lt h.or g e
  have hne : ∀ {B : Nat}, tag B ≠ 2 → r.ownBlock ≠ some B := fun {B} h1 e => h1 (h.tr B e)
  have hg13 : wr.grownBy w3 r.ownBlock := grown_trans (grown_any hb) hgrow
  have hul : ∀ x, u.ownBlock = some x → wr.heap.size ≤ x ∧ x < w2.heap.size := fun x e => World.ownsRow.lt hu x e
  have hu3 : Ow w3 wr.heap.size u [0, 0] := own_kept hu hgrow (fun x e q => by have := hbl x q; have := hul x e; omega)
  have hl : (Value.slice (some ⟨g, 0, none⟩) (q + 1) cap).ownBlock = r.ownBlock ∨ ∃ g', (Value.slice (some ⟨g, 0, none⟩) (q + 1) cap).ownBlock = some g' ∧ wr.heap.size ≤ g' := by
    rcases hat with hat | hat
    · exact .inl hat.symm
    · exact .inr ⟨g, rfl, by omega⟩
  have hnu : ∀ x, (Value.slice (some ⟨g, 0, none⟩) (q + 1) cap).ownBlock = some x → u.ownBlock ≠ some x := fun x e q => by
    have e' : g = x := by simpa [Value.ownBlock] using e
    subst e'
    have h1 := hul g q
    rcases hat with hat | hat
    · have := hbl g hat; omega
    · omega
  obtain ⟨tag', ta', t1, t2⟩ := h.ta.pushR h.tr hg13 hu3.sl (fun x off n' cap' e _ => by have := own_wc hu3 x off n' cap' e; rwa [Nat.mul_one] at this) hown hl hnu (by have := hbl; omega)
  have htn : tag' NB = 100 := by rw [t2 NB hNB]; exact h.tn
  have hset := grown_set w3 NB 2 (.slice (some ⟨g, 0, none⟩) (q + 1) cap)
  have hB2 := h.bel.trans (hb.mono h.bel.size)
  have hB3 : Below w.heap.size w w3 := hB2.grown hgrow hB2.size (fun x e => by have := hbl x e; omega)
  have keepb : ∀ {B : Nat} {o : Obj}, B < wr.heap.size → wr.heap[B]? = some o → r.ownBlock ≠ some B → B ≠ NB → (w3.setCell ⟨NB, 2, none⟩ (.slice (some ⟨g, 0, none⟩) (q + 1) cap)).heap[B]? = some o := fun {B o} hl ho hn hn2 => by
    rw [hset.block B (by have := hg13.size; omega) (by simpa using hn2), hg13.block B hl (fun e => hn e.symm)]; exact ho
  refine ⟨tag', hB3.setCell (by show w.heap.size ≤ NB; omega) _, keepb (lt_of_block h.res) h.res (fun e => by have := hbl _ e; omega) (by omega), ?_, ta'.tagged hset (fun x e => by simp only [Option.some.injEq] at e; rw [← e]; exact htn) hk (by omega), own_kept (by rw [← ext_row]; exact hown) hset (fun x e q => by simp only [Option.some.injEq] at q; have := t1 x e; rw [← q, htn] at this; omega), t1, htn, hlo⟩
  rw [heap_setCell_same _ _ 2 _ _ _ ((hg13.block NB hNB (fun e => hne (by rw [h.tn]; decide) e.symm)).trans h.box)]; rfl

theorem infoSs : (Try.prog.info? 90).map (fun i => (i.zero, i.size, i.bytes)) = some (some (.slice none 0 0), 1, 24) := by kernel_rfl

theorem make_bufs (n : Nat) (hn : n ≤ 4) (W : World) : (Instr.makeSlice 34 (.int .i64 (n : Int)) (.int .i64 (n : Int))).run Try.prog W = .ok (.slice (some ⟨W.heap.size, 0, none⟩) n n) (W.alloc (.cells (madeCells #[.slice none 0 0] n) 90)) := by
  obtain ⟨i0, hi, hz0, hz1, hz2⟩ := info_parts infoSs
  have h := run_make (P := Try.prog) (w := W) 34 90 i0 (.slice none 0 0) Try.underlying34 hi hz0 .i64 .i64 (n : Int) (n : Int) (by omega) (by omega) (by rw [hz2]; omega) (by omega)
  rw [hz1, Nat.mul_one] at h
  exact h

/-- the three blocks: nought's three, the empty buffers, the box; in whatever order they were made -/
theorem Nq.start {w W : World} {NB GM GB C : Nat} (hb : Below w.heap.size w W) (hres : W.heap[w.heap.size]? = some (.cells #[.slice none 0 0, .slice none 0 0, .slice none 0 0] 37 (0, 0)))
    (hbox : W.heap[NB]? = some (.cells #[.slice (some ⟨GM, 0, none⟩) 3 3, .slice (some ⟨GB, 0, none⟩) C C, .slice none 0 0] 37 (0, 0)))
    (hm : W.heap[GM]? = some (.cells #[.int .i64 0, .int .i64 0, .int .i64 0] 2 (0, 0))) (hbf : W.heap[GB]? = some (.cells (madeCells #[.slice none 0 0] C) 90 (0, 0)))
    (h1 : w.heap.size < NB) (h2 : w.heap.size < GM) (h3 : w.heap.size < GB) (n1 : NB ≠ GM) (n2 : NB ≠ GB) (n3 : GM ≠ GB) (hC : C ≤ 4) :
    Nq w W NB (.slice (some ⟨GM, 0, none⟩) 3 3) (.slice (some ⟨GB, 0, none⟩) C C) (.slice none 0 0) C 0 z0V (fun g => if g = NB then 100 else if g = GM then 0 else 1) := by
  have e : (madeCells #[Value.slice none 0 0] C).toList = List.replicate C (Value.slice none 0 0) := by
    have := toList_madeCells_one (Value.slice none 0 0) C
    simpa [Value.cells] using this
  have es : (madeCells #[Value.slice none 0 0] C).size = C := by
    have := congrArg List.length e
    simpa using this
  refine ⟨hb, hres, hbox, ⟨?_, ?_, ?_, ?_, ?_, ?_, ?_, ?_, ?_, ?_⟩, ⟨by simp, .inl ⟨rfl, rfl⟩⟩, (fun g hg => nomatch hg), if_pos rfl, h1⟩
  · refine ⟨some ⟨GM, 0, none⟩, 3, rfl, fun _ => ⟨GM, 0, rfl, fun j hj => ?_⟩⟩
    have hj' : j < 3 := hj
    rw [Nat.zero_add, cell_of_row _ _ _ _ _ _ hm]
    match j, hj' with
    | 0, _ => rfl
    | 1, _ => rfl
    | 2, _ => rfl
  · intro g off n cap he hk
    simp only [Value.slice.injEq, Option.some.injEq, Addr.mk.injEq] at he
    obtain ⟨⟨rfl, rfl, _⟩, _, _⟩ := he
    refine ⟨by omega, ⟨_, _, hm, by decide⟩, ?_⟩
    show (if GM = NB then 100 else if GM = GM then 0 else 1) = 0
    rw [if_neg (fun q => n1 q.symm), if_pos rfl]
  · refine ⟨some ⟨GB, 0, none⟩, C, rfl, fun _ => ⟨GB, 0, rfl, fun j hj => ?_⟩⟩
    rw [Nat.zero_add, cell_of_row _ _ _ _ _ _ hbf, ← Array.getElem?_toList, e]
    simp [hj]
  · intro g off n cap he hk
    simp only [Value.slice.injEq, Option.some.injEq, Addr.mk.injEq] at he
    obtain ⟨⟨rfl, rfl, _⟩, _, _⟩ := he
    refine ⟨by omega, ⟨_, _, hbf, by rw [es]; omega⟩, ?_⟩
    show (if GB = NB then 100 else if GB = GM then 0 else 1) = 1
    rw [if_neg (fun q => n2 q.symm), if_neg (fun q => n3 q.symm)]
  · exact ⟨none, 0, rfl, fun hp => absurd hp (by simp)⟩
  · intro g off n cap he hk; simp at he
  · intro c hc; exact ⟨none, 0, rfl, fun hp => absurd hp (by simp)⟩
  · intro c hc g off n cap he hk; simp at he
  · intro c hc; omega
  · intro c hc; omega

end Go.Proofs.Ytcocobmanlmjdaa
