/- spec.LookedAll -/
import Derived.Test.YtlijgkodcbnhbaaBoA
import Derived.Deep.DeepCutAuto
namespace Go.Proofs.Ytlijgkodcbnhbaa
open Go.RowKit
set_option linter.unusedVariables false
set_option linter.unusedSimpArgs false

theorem infoB : (Try.prog.info? 4).map (fun i => (i.zero, i.size, i.bytes)) = some (some (.bool false), 1, 1) := by kernel_rfl

def zf (zs : List Int) : Nat → Int := fun j => zs.getD j 0
/-- may the looks be done at all -/
def aok (n : Nat) (L : Nat → Nat) (D : Nat → Sm) (zs : List Int) : Bool := Ca.cokB n L D && decide (zs.length ≤ 100) && decide (∀ j, j < zs.length → inR (zf zs j) 1000 = true)
/-- a row and a cache lie apart -/
def Apart (v : Value) (G : Nat) (ib : Nat → Nat) : Prop := ∀ g, v.ownBlock = some g → g ≠ G ∧ ∀ c, c < 2 → g ≠ ib c
def AllYes (D : Nat → Sm) (zs : List Int) (w : World) (e : Ending) (w' : World) : Prop :=
  ∃ G c ib vb, e = .returned (.tuple #[.agg #[sl G 2 c], vb]) ∧ Cg w' w.heap.size (sl G 2 c) 2 (fun _ => 4) (two (Ca.rn (D 0) (D 1) (zf zs) zs.length).1 (Ca.rn (D 0) (D 1) (zf zs) zs.length).2) G ib ∧ Rb w' w.heap.size vb zs.length (Ca.ht (D 0) (D 1) (zf zs)) ∧ Apart vb G ib ∧ Below w.heap.size w w'
def AllPost (n : Nat) (L : Nat → Nat) (D : Nat → Sm) (zs : List Int) (w : World) (e : Ending) (w' : World) : Prop :=
  (aok n L D zs = true ∧ AllYes D zs w e w') ∨ (aok n L D zs = false ∧ e = .returned (.tuple #[.agg #[.slice none 0 0], .slice none 0 0]) ∧ Below w.heap.size w w')

theorem Cg.grown {w w' : World} {B : Nat} {v : Value} {n : Nat} {L : Nat → Nat} {D : Nat → Sm} {G : Nat} {ib : Nat → Nat} {row : Option Nat} (h : Cg w B v n L D G ib) (hg : w.grownBy w' row) (hG : row ≠ some G) (hI : ∀ c, c < n → row ≠ some (ib c)) : Cg w' B v n L D G ib := by
  have hw : ∀ g len, Wc w g len → row ≠ some g → Wc w' g len := fun g len hc hne => by
    obtain ⟨cur, T, h1, h2⟩ := hc
    exact ⟨cur, T, (hg.block g (lt_of_block h1) (fun e => hne e.symm)).trans h1, h2⟩
  have hc : ∀ g i u, g < w.heap.size → row ≠ some g → w.cell? ⟨g, i, none⟩ = some u → w'.cell? ⟨g, i, none⟩ = some u := fun g i u hl hne h => (hg.cell_far ⟨g, i, none⟩ hl (fun e => hne e.symm)).trans h
  exact ⟨h.val, h.lo, hw _ _ h.wcG hG, fun c hcc => hw _ _ (h.wcI c hcc) (hI c hcc), h.ne, h.inj, fun c hcc => ⟨hc _ _ _ h.wcG.lt hG (h.at_ c hcc).1, by obtain ⟨ic, h2⟩ := (h.at_ c hcc).2; exact ⟨ic, hc _ _ _ h.wcG.lt hG h2⟩⟩, fun c hcc j hj => ⟨hc _ _ _ (h.wcI c hcc).lt (hI c hcc) (h.way c hcc j hj).1, hc _ _ _ (h.wcI c hcc).lt (hI c hcc) (h.way c hcc j hj).2⟩⟩

/-- between two looks: the answer's variable rb, the cache's variable b7, the row v of k bools at B8 and behind -/
structure Lp (w wr : World) (rb b7 B8 : Nat) (v : Value) (k : Nat) (s t : Sm) (h : Nat → Bool) (G c : Nat) (ib : Nat → Nat) : Prop where
  bel : Below w.heap.size w wr
  res : wr.heap[rb]? = some (.cells #[.slice none 0 0] 26 (0, 0))
  var : wr.heap[b7]? = some (.cells #[sl G 2 c] 26 (0, 0))
  cg : Cg wr (rb + 1) (sl G 2 c) 2 (fun _ => 4) (two s t) G ib
  row : Rb wr B8 v k h
  apart : Apart v G ib
  lo : w.heap.size ≤ rb ∧ rb < b7 ∧ b7 < B8 ∧ B8 ≤ wr.heap.size ∧ b7 ≠ G ∧ ∀ c, c < 2 → b7 ≠ ib c
/-- a look was done: its cache in b10 -/
structure Lp2 (w wr : World) (rb b7 B8 : Nat) (v : Value) (k : Nat) (s t : Sm) (h : Nat → Bool) (o : Value) (b10 G c : Nat) (ib : Nat → Nat) : Prop where
  bel : Below w.heap.size w wr
  res : wr.heap[rb]? = some (.cells #[.slice none 0 0] 26 (0, 0))
  var : wr.heap[b7]? = some (.cells #[o] 26 (0, 0))
  nw : wr.heap[b10]? = some (.cells #[sl G 2 c] 26 (0, 0))
  cg : Cg wr (rb + 1) (sl G 2 c) 2 (fun _ => 4) (two s t) G ib
  row : Rb wr B8 v k h
  apart : Apart v G ib
  lo : w.heap.size ≤ rb ∧ rb < b7 ∧ b7 < B8 ∧ B8 ≤ wr.heap.size ∧ b7 ≠ G ∧ ∀ c, c < 2 → b7 ≠ ib c

theorem Rb.below {w w' : World} {B : Nat} {v : Value} {n : Nat} {h : Nat → Bool} (r : Rb w B v n h) (hb : Below w.heap.size w w') : Rb w' B v n h := World.ownsRow.kept r (grown_of_below hb) (by cases v.ownBlock with | none => exact .inl rfl | some k => exact .inr (by simp))
theorem Rb.lt {w : World} {B : Nat} {v : Value} {n : Nat} {h : Nat → Bool} (r : Rb w B v n h) : ∀ g, v.ownBlock = some g → B ≤ g ∧ g < w.heap.size := fun g hg => World.ownsRow.lt r g hg
theorem Rb.set {w : World} {B : Nat} {v : Value} {n cb i : Nat} {h : Nat → Bool} {x : Value} (r : Rb w B v n h) (hne : cb < B) : Rb (w.setCell ⟨cb, i, none⟩ x) B v n h := by
  refine ⟨r.1, ?_⟩
  rcases r.2 with h' | ⟨g', cap, cur, h', hbb, hg, q⟩
  · exact .inl h'
  · exact .inr ⟨g', cap, cur, h', hbb, by rw [heap_setCell_other _ _ _ _ (show g' ≠ cb by omega)]; exact hg, q⟩
theorem Rb.set' {w : World} {B : Nat} {v : Value} {n cb i : Nat} {h : Nat → Bool} {x : Value} (r : Rb w B v n h) (hne : v.ownBlock ≠ some cb) : Rb (w.setCell ⟨cb, i, none⟩ x) B v n h := by
  refine ⟨r.1, ?_⟩
  rcases r.2 with h' | ⟨g', cap, cur, h', hbb, hg, q⟩
  · exact .inl h'
  · have : g' ≠ cb := fun e => hne (by rw [h', e]; rfl)
    exact .inr ⟨g', cap, cur, h', hbb, by rw [heap_setCell_other _ _ _ _ this]; exact hg, q⟩

/-- the call first, the variable's block behind it -/
theorem Lp.lookA {w wr w2 : World} {rb b7 B8 : Nat} {v : Value} {k : Nat} {s t s' t' : Sm} {h : Nat → Bool} {G c G' c' : Nat} {ib ib' : Nat → Nat} (l : Lp w wr rb b7 B8 v k s t h G c ib) (hg : Cg w2 wr.heap.size (sl G' 2 c') 2 (fun _ => 4) (two s' t') G' ib') (hb : Below wr.heap.size wr w2) :
    Lp2 w (w2.alloc (.cells #[sl G' 2 c'] 26)) rb b7 B8 v k s' t' h (sl G 2 c) w2.heap.size G' c' ib' := by
  have hs := hb.size
  obtain ⟨l1, l2, l3, l4, l5, l6⟩ := l.lo
  have hA : Below w2.heap.size w2 (w2.alloc (.cells #[sl G' 2 c'] 26)) := (Below.refl _ _).alloc (Nat.le_refl _) _
  refine ⟨(l.bel.trans (hb.mono l.bel.size)).alloc (by omega) _, heap_a (heap_b l.res hb) _, heap_a (heap_b l.var hb) _, heap_alloc_new _ _, (hg.below hA).mono (by omega), (l.row.below hb).below hA, fun g hv => ?_, l1, l2, l3, by simp; omega, ?_, fun x hx => ?_⟩
  · have := (l.row.lt g hv).2
    exact ⟨by have := hg.lo.1; omega, fun x hx => by have := hg.lo.2 x hx; omega⟩
  · have := hg.lo.1; omega
  · have := hg.lo.2 x hx; omega
/-- the variable's block first, then the call, then the store -/
theorem Lp.lookB {w wr w2 : World} {rb b7 B8 : Nat} {v : Value} {k : Nat} {s t s' t' : Sm} {h : Nat → Bool} {G c G' c' : Nat} {ib ib' : Nat → Nat} (l : Lp w wr rb b7 B8 v k s t h G c ib) (hg : Cg w2 (wr.alloc (.cells #[.slice none 0 0] 26)).heap.size (sl G' 2 c') 2 (fun _ => 4) (two s' t') G' ib') (hb : Below (wr.alloc (.cells #[.slice none 0 0] 26)).heap.size (wr.alloc (.cells #[.slice none 0 0] 26)) w2) :
    Lp2 w (w2.setCell ⟨wr.heap.size, 0, none⟩ (sl G' 2 c')) rb b7 B8 v k s' t' h (sl G 2 c) wr.heap.size G' c' ib' := by
  have hs := hb.size
  simp only [World.size_alloc] at hs
  obtain ⟨l1, l2, l3, l4, l5, l6⟩ := l.lo
  have hlo := hg.lo
  simp only [World.size_alloc] at hlo
  have hA : Below wr.heap.size wr (wr.alloc (.cells #[.slice none 0 0] 26)) := (Below.refl _ _).alloc (Nat.le_refl _) _
  have hX := hA.trans (hb.mono hA.size)
  have h10 : w2.heap[wr.heap.size]? = some (.cells #[.slice none 0 0] 26 (0, 0)) := heap_b (heap_alloc_new _ _) hb
  have hW := l.bel.size
  have hs2 : w2.heap.size ≤ (w2.setCell ⟨wr.heap.size, 0, none⟩ (sl G' 2 c')).heap.size := ((Below.refl 0 w2).setCell (p := ⟨wr.heap.size, 0, none⟩) (Nat.zero_le _) (sl G' 2 c')).size
  refine ⟨(l.bel.trans (hX.mono l.bel.size)).setCell (by simpa using hW) _, ?_, ?_, heap_setCell_same w2 _ 0 _ _ _ h10, ?_, ?_, fun g hv => ?_, l1, l2, l3, by omega, ?_, fun x hx => ?_⟩
  · rw [heap_setCell_other _ _ _ _ (show rb ≠ wr.heap.size by omega)]; exact heap_b l.res hX
  · rw [heap_setCell_other _ _ _ _ (show b7 ≠ wr.heap.size by omega)]; exact heap_b l.var hX
  · exact (hg.chg (S := fun j => j = wr.heap.size) ((Chg.refl (fun j => j = wr.heap.size) _).set rfl _) (by omega) (fun x hx => by have := hlo.2 x hx; omega)).mono (by simp; omega)
  · exact (l.row.below hX).set' (fun e => by have := (l.row.lt _ e).2; omega)
  · have := (l.row.lt g hv).2
    exact ⟨by omega, fun x hx => by have := hlo.2 x hx; omega⟩
  · omega
  · have := hlo.2 x hx; omega
/-- the cache taken over, the bool appended: W0: behind the store, with the new element's block; w3: behind the append -/
theorem Lp2.app {w wr w3 : World} {rb b7 B8 : Nat} {v : Value} {k : Nat} {s t : Sm} {h : Nat → Bool} {o : Value} {b10 G c g cap : Nat} {ib : Nat → Nat} {O : Obj} (l : Lp2 w wr rb b7 B8 v k s t h o b10 G c ib)
    (ho : w3.ownsRow B8 4 1 (sl g (k + 1) cap) (k + 1) (bl h k ++ [.bool (h k)])) (hg : ((wr.setCell ⟨b7, 0, none⟩ (sl G 2 c)).alloc O).grownBy w3 v.ownBlock) (hat : v.ownBlock = some g ∨ g = ((wr.setCell ⟨b7, 0, none⟩ (sl G 2 c)).alloc O).heap.size) :
    Lp w w3 rb b7 B8 (sl g (k + 1) cap) (k + 1) s t h G c ib := by
  obtain ⟨l1, l2, l3, l4, l5, l6⟩ := l.lo
  have hs1 : wr.heap.size ≤ (wr.setCell ⟨b7, 0, none⟩ (sl G 2 c)).heap.size := ((Below.refl 0 wr).setCell (p := ⟨b7, 0, none⟩) (Nat.zero_le _) (sl G 2 c)).size
  have hs2 := hg.size
  simp only [World.size_alloc] at hs2 hat
  have hbl := l.row.lt
  have hWb : Below w.heap.size w ((wr.setCell ⟨b7, 0, none⟩ (sl G 2 c)).alloc O) := (l.bel.setCell (show w.heap.size ≤ b7 by omega) _).alloc (by have := l.bel.size; omega) _
  have hGl := l.cg.wcG.lt
  have hIl := fun x hx => (l.cg.wcI x hx).lt
  refine ⟨hWb.grown hg (by simp; have := l.bel.size; omega) (fun j hj => by have := (hbl j hj).1; omega), ?_, ?_, ?_, by rw [Rb, bl_succ]; exact ho, fun j hj => ?_, l1, l2, l3, by omega, l5, l6⟩
  · refine (hg.block rb (by simp; omega) (fun e => by have := (hbl rb e.symm).1; omega)).trans (heap_a ?_ _)
    rw [heap_setCell_other _ _ _ _ (show rb ≠ b7 by omega)]; exact l.res
  · exact (hg.block b7 (by simp; omega) (fun e => by have := (hbl b7 e.symm).1; omega)).trans (heap_a (heap_setCell_same wr b7 0 _ _ _ l.var) _)
  · refine Cg.grown (row := v.ownBlock) ?_ hg (fun e => (l.apart _ e).1 rfl) (fun x hx e => (l.apart _ e).2 x hx rfl)
    exact l.cg.chg (S := fun j => j = b7) (((Chg.refl (fun j => j = b7) _).set rfl _).alloc _) (fun e => l5 e.symm) (fun x hx e => l6 x hx e.symm)
  · simp only [Value.ownBlock] at hj
    have hjg : g = j := by simpa using hj
    subst hjg
    rcases hat with e | e
    · exact l.apart g e
    · exact ⟨by omega, fun x hx => by have := hIl x hx; omega⟩

end Go.Proofs.Ytlijgkodcbnhbaa
