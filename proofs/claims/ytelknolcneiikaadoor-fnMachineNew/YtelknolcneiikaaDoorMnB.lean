/- a machine being made by the specification: a row of slots more each round -/
import Derived.Test.YtelknolcneiikaaDoorMnA
import Derived.Maps.AppendAt
import Derived.Deep.AppendLies
namespace Go.Proofs.YtelknolcneiikaaDoor
open Go.RowKit
set_option linter.unusedVariables false
set_option linter.unusedSimpArgs false

theorem grown_of {w w' : World} {row : Option Nat} (hb : Below w.heap.size w w') : w.grownBy w' row := ⟨hb.os, hb.tape, hb.output, hb.size, fun k hk _ => hb.block k hk⟩
theorem grown_putN (w : World) (B i : Nat) (v : Value) : w.grownBy (w.setCell ⟨B, i, none⟩ v) (some B) := by
  have hb : Below 0 w (w.setCell ⟨B, i, none⟩ v) := (Below.refl 0 w).setCell (Nat.zero_le _) v
  exact ⟨hb.os, hb.tape, hb.output, hb.size, fun j hj hne => heap_setCell_other _ _ _ _ (fun e => hne (by rw [e]))⟩
theorem own_stay {w w' : World} {base : Nat} {T : TypeId} {m n : Nat} {v : Value} {xs : List Value} {row : Option Nat} (h : w.ownsRow base T m v n xs) (hg : w.grownBy w' row) (hne : ∀ g, v.ownBlock = some g → row ≠ some g) : w'.ownsRow base T m v n xs := by
  refine World.ownsRow.kept h hg ?_
  cases hv : v.ownBlock with
  | none => exact .inl rfl
  | some k => exact .inr (fun e => hne k hv e.symm)
theorem own_lower {w : World} {base base' : Nat} {T : TypeId} {m n : Nat} {v : Value} {xs : List Value} (h : w.ownsRow base T m v n xs) (hb : base' ≤ base) : w.ownsRow base' T m v n xs := by
  refine ⟨h.1, ?_⟩
  rcases h.2 with h' | ⟨g, cap, cur, h', hbb, r⟩
  · exact .inl h'
  · exact .inr ⟨g, cap, cur, h', Nat.le_trans hb hbb, r⟩
def extv (f : Nat → Value) (k : Nat) (u : Value) : Nat → Value := fun c => if c = k then u else f c
theorem extv_row (f : Nat → Value) (k : Nat) (u : Value) : (List.range k).map f ++ [u] = (List.range (k + 1)).map (extv f k u) := by
  rw [List.range_succ, List.map_append]
  congr 1
  · apply List.map_congr_left
    intro c hc
    simp only [List.mem_range] at hc
    exact (if_neg (by omega)).symm
  · simp [extv]

/-- under way: the answer's box (the world's first new block), the machine's box NB, its lines' block g2, k rows of slots -/
structure Mq (w wr : World) (NB g2 N k : Nat) (r : Value) (RL : Array Value) (ZS : List Value) (vr : Nat → Value) : Prop where
  bel : Below w.heap.size w wr
  res : wr.heap[w.heap.size]? = some (.cells (mc3 (.slice none 0 0) (.slice none 0 0) (.slice none 0 0)) 30 (0, 0))
  box : wr.heap[NB]? = some (.cells (mc3 r (full g2 N) (.slice none 0 0)) 30 (0, 0))
  lines : wr.heap[g2]? = some (.cells RL 51 (0, 0))
  or : wr.ownsRow (w.heap.size + 1) 43 1 r k ((List.range k).map vr)
  row : ∀ c, c < k → wr.ownsRow (w.heap.size + 1) 47 4 (vr c) N ZS
  n1 : ∀ g, r.ownBlock = some g → g ≠ NB ∧ g ≠ g2
  n2 : ∀ c, c < k → ∀ g, (vr c).ownBlock = some g → g ≠ NB ∧ r.ownBlock ≠ some g
  lo : w.heap.size < NB ∧ w.heap.size < g2 ∧ NB ≠ g2
theorem Mq.drew {w wr : World} {NB g2 N k : Nat} {r : Value} {RL : Array Value} {ZS : List Value} {vr : Nat → Value} (h : Mq w wr NB g2 N k r RL ZS vr) : Mq w wr.drew NB g2 N k r RL ZS vr :=
  ⟨h.bel.drew, h.res, h.box, h.lines, h.or, h.row, h.n1, h.n2, h.lo⟩
theorem Mq.step {w wr w2 w3 : World} {NB g2 N k g cap H : Nat} {r u : Value} {RL : Array Value} {ZS : List Value} {vr : Nat → Value} (h : Mq w wr NB g2 N k r RL ZS vr)
    (hb : Below wr.heap.size wr w2) (hu : w2.ownsRow wr.heap.size 47 4 u N ZS) (hown : w3.ownsRow (w.heap.size + 1) 43 1 (.slice (some ⟨g, 0, none⟩) (k + 1) cap) (k + 1) ((List.range k).map vr ++ [u])) (hgrow : w2.grownBy w3 r.ownBlock) (hat : r.ownBlock = some g ∨ g = H) (hH : w2.heap.size = H) :
    Mq w (w3.setCell ⟨NB, 0, none⟩ (.slice (some ⟨g, 0, none⟩) (k + 1) cap)) NB g2 N (k + 1) (.slice (some ⟨g, 0, none⟩) (k + 1) cap) RL ZS (extv vr k u) := by
  subst hH
  have hs := hb.size
  have hlo := h.lo
  have hNB : NB < wr.heap.size := lt_of_block h.box
  have hg2 : g2 < wr.heap.size := lt_of_block h.lines
  have hwr := h.bel.size
  have hbl : ∀ x, r.ownBlock = some x → w.heap.size + 1 ≤ x ∧ x < wr.heap.size := fun x e => World.ownsRow.lt h.or x e
  have hul : ∀ x, u.ownBlock = some x → wr.heap.size ≤ x ∧ x < w2.heap.size := fun x e => World.ownsRow.lt hu x e
  have hrl : ∀ c, c < k → ∀ x, (vr c).ownBlock = some x → w.heap.size + 1 ≤ x ∧ x < wr.heap.size := fun c hc x e => World.ownsRow.lt (h.row c hc) x e
  have hgn : g ≠ NB ∧ g ≠ g2 := by
    rcases hat with e | e
    · exact h.n1 g e
    · exact ⟨by omega, by omega⟩
  have hg13 : wr.grownBy w3 r.ownBlock := grown_trans (grown_of hb) hgrow
  have hset := grown_putN w3 NB 0 (.slice (some ⟨g, 0, none⟩) (k + 1) cap)
  have hB2 := h.bel.trans (hb.mono h.bel.size)
  have hB3 : Below w.heap.size w w3 := hB2.grown hgrow hB2.size (fun x e => by have := hbl x e; omega)
  have keepb : ∀ {B : Nat} {o : Obj}, B < wr.heap.size → wr.heap[B]? = some o → r.ownBlock ≠ some B → B ≠ NB → (w3.setCell ⟨NB, 0, none⟩ (.slice (some ⟨g, 0, none⟩) (k + 1) cap)).heap[B]? = some o := fun {B o} hl ho hn hn2 => by
    rw [hset.block B (by have := hg13.size; omega) (by simpa using hn2), hg13.block B hl (fun e => hn e.symm)]; exact ho
  refine ⟨hB3.setCell (by show w.heap.size ≤ NB; omega) _, keepb (lt_of_block h.res) h.res (fun e => by have := hbl _ e; omega) (by omega), ?_, keepb hg2 h.lines (fun e => (h.n1 g2 e).2 rfl) (fun e => hlo.2.2 e.symm), ?_, fun c hc => ?_, fun x e => ?_, fun c hc x e => ?_, hlo⟩
  · rw [heap_setCell_same _ _ 0 _ _ _ ((hg13.block NB hNB (fun e => (h.n1 NB e.symm).1 rfl)).trans h.box)]; rfl
  · rw [extv_row] at hown
    exact own_stay hown hset (fun x e q => by simp [Value.ownBlock] at e q; omega)
  · by_cases e : c = k
    · subst e
      have : extv vr c u c = u := if_pos rfl
      rw [this]
      exact own_lower (own_stay (own_stay hu hgrow (fun x e q => by have := hbl x q; have := hul x e; omega)) hset (fun x e q => by simp at q; have := hul x e; omega)) (by omega)
    · have hck : c < k := by omega
      have : extv vr k u c = vr c := if_neg e
      rw [this]
      exact own_stay (own_stay (h.row c hck) hg13 (fun x e q => (h.n2 c hck x e).2 q)) hset (fun x e q => by simp at q; exact (h.n2 c hck x e).1 q.symm)
  · have e' : g = x := by simpa [Value.ownBlock] using e
    subst e'; exact hgn
  · by_cases ec : c = k
    · subst ec
      have h0 : extv vr c u c = u := if_pos rfl
      rw [h0] at e
      have hx := hul x e
      refine ⟨by omega, fun q => ?_⟩
      have e' : g = x := by simpa [Value.ownBlock] using q
      subst e'
      rcases hat with q | q
      · have := hbl g q; omega
      · omega
    · have hck : c < k := by omega
      have h0 : extv vr k u c = vr c := if_neg ec
      rw [h0] at e
      have hx := hrl c hck x e
      refine ⟨(h.n2 c hck x e).1, fun q => ?_⟩
      have e' : g = x := by simpa [Value.ownBlock] using q
      subst e'
      rcases hat with q | q
      · exact (h.n2 c hck g e).2 q
      · omega
/-- the specification's new machine: what it reads as -/
structure NewS (w w' : World) (C N : Nat) (sv lv : Value) : Prop where
  bel : Below w.heap.size w w'
  ss : Ss w' sv C (fun _ => N) (fun _ _ _ => 0)
  ls : Ls w' lv N (fun _ => zLn)
theorem news_of {w Y : World} {g2 N C : Nat} {r : Value} {RL : Array Value} {ZS : List Value} {vr : Nat → Value} (hbel : Below w.heap.size w Y) (hor : Y.ownsRow (w.heap.size + 1) 43 1 r C ((List.range C).map vr)) (hrow : ∀ c, c < C → Y.ownsRow (w.heap.size + 1) 47 4 (vr c) N ZS) (hlin : Y.heap[g2]? = some (.cells RL 51 (0, 0))) (hL : madeCells zln (N * 7) = RL) (hZ : ZS = List.replicate (N * 4) (.int .i64 0)) :
    NewS w Y C N r (full g2 N) := by
  refine ⟨hbel, ?_, ?_⟩
  · rcases hor.2 with ⟨e, hn⟩ | ⟨g, cap, cur, e, _⟩
    · exact ⟨none, 0, by rw [hn]; exact e, fun hp => by omega⟩
    · refine ⟨some ⟨g, 0, none⟩, cap, e, fun _ => ⟨g, 0, rfl, fun c hc => ?_⟩⟩
      have hor2 := hor
      rw [e] at hor2
      have hcell := hor2.cellAt c (by omega)
      have hr := hrow c hc
      rcases hr.2 with ⟨e2, hn⟩ | ⟨g', cap', cur', e2, _⟩
      · refine ⟨none, 0, by rw [Nat.zero_add, hcell]; simp [hc, e2, hn], none, 0, rfl, fun hp => by have hp : 0 < N := hp; omega⟩
      · refine ⟨some ⟨g', 0, none⟩, cap', by rw [Nat.zero_add, hcell]; simp [hc, e2], some ⟨g', 0, none⟩, cap', rfl, fun _ => ⟨g', 0, rfl, fun j hj i hi => ?_⟩⟩
        have hj : j < N := hj
        rw [e2] at hr
        have := World.ownsRow.cellAt hr (j * 4 + i) (by omega)
        rw [Nat.zero_add, this, hZ, List.getElem?_replicate, if_pos (by omega)]
  · have hl : ∀ c i, c < N → i < 7 → Y.cell? ⟨g2, c * 7 + i, none⟩ = some zln[i]! := fun c i hc hi => by
      rw [cell_of_row _ _ _ _ _ _ hlin, ← hL, made_at (m := 7) (show zln.size = 7 from rfl) (by omega)]
      have e : (c * 7 + i) % 7 = i := by omega
      rw [e]
    refine ⟨_, _, rfl, fun _ => ⟨g2, 0, rfl, fun c hc => ⟨none, 0, none, 0, ⟨?_, ?_, ?_, ?_, ?_, ?_, ?_⟩, ⟨_, _, rfl, fun h => by simp [zLn] at h⟩, ⟨_, _, rfl, fun h => by simp [zLn] at h⟩⟩⟩⟩
    all_goals rw [Nat.zero_add]
    · exact hl c 0 hc (by omega)
    · exact hl c 1 hc (by omega)
    · exact hl c 2 hc (by omega)
    · exact hl c 3 hc (by omega)
    · exact hl c 4 hc (by omega)
    · exact hl c 5 hc (by omega)
    · exact hl c 6 hc (by omega)

theorem Mq.fin {w wr : World} {NB g2 N C : Nat} {r : Value} {RL : Array Value} {ZS : List Value} {vr : Nat → Value} (h : Mq w wr NB g2 N C r RL ZS vr) (hL : madeCells zln (N * 7) = RL) (hZ : ZS = List.replicate (N * 4) (.int .i64 0)) :
    NewS w (((wr.setCell ⟨w.heap.size, 0, none⟩ r).setCell ⟨w.heap.size, 1, none⟩ (full g2 N)).setCell ⟨w.heap.size, 2, none⟩ (.slice none 0 0)) C N r (full g2 N) := by
  have hlo := h.lo
  have hle : w.heap.size ≤ w.heap.size := Nat.le_refl _
  have hg := grown_trans (grown_trans (grown_putN wr w.heap.size 0 r) (grown_putN _ w.heap.size 1 (full g2 N))) (grown_putN _ w.heap.size 2 (.slice none 0 0))
  have hor := own_stay h.or hg (fun x e q => by simp at q; have := World.ownsRow.lt h.or x e; omega)
  have hrow : ∀ c, c < C → _ := fun c hc => own_stay (h.row c hc) hg (fun x e q => by simp at q; have := World.ownsRow.lt (h.row c hc) x e; omega)
  have hlin := (hg.block g2 (lt_of_block h.lines) (by simp; omega)).trans h.lines
  refine news_of ?_ hor hrow hlin hL hZ
  iterate 3 (refine Below.setCell ?_ hle _)
  exact h.bel

end Go.Proofs.YtelknolcneiikaaDoor
