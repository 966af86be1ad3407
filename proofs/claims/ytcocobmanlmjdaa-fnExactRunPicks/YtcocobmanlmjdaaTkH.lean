/- impl's acts on a copy (written by mkTkH.py) -/
import Derived.Test.YtcocobmanlmjdaaTkG
namespace Go.Proofs.Ytcocobmanlmjdaa
open Go.RowKit
set_option linter.unusedVariables false
set_option linter.unusedSimpArgs false

/-- blocks of great tags stay as they were -/
def Kp (tag : Nat → Nat) (w w' : World) : Prop := ∀ j, j < w.heap.size → 100 ≤ tag j → w'.heap[j]? = w.heap[j]?
theorem Kp.below {tag : Nat → Nat} {w w' : World} (h : Below w.heap.size w w') : Kp tag w w' := fun j hj _ => h.block j hj
theorem Kp.trans {tag : Nat → Nat} {w w1 w2 : World} (h : Kp tag w w1) (hs : w.heap.size ≤ w1.heap.size) (h' : Kp tag w1 w2) : Kp tag w w2 := fun j hj ht => (h' j (by omega) ht).trans (h j hj ht)
theorem Kp.set {tag : Nat → Nat} {w w1 : World} (h : Kp tag w w1) {B i : Nat} {v : Value} (hB : tag B < 100) : Kp tag w (w1.setCell ⟨B, i, none⟩ v) := fun j hj ht => (heap_setCell_other _ _ _ _ (show j ≠ B from fun e => by rw [e] at ht; omega)).trans (h j hj ht)
theorem Kp.grown {tag : Nat → Nat} {w w1 w2 : World} {row : Option Nat} (h : Kp tag w w1) (hs : w.heap.size ≤ w1.heap.size) (hg : w1.grownBy w2 row) (hr : ∀ g, row = some g → tag g < 100) : Kp tag w w2 := fun j hj ht => (hg.block j (by omega) (fun e => by have := hr j e.symm; omega)).trans (h j hj ht)

/-- the two boxes of an act's call -/
structure Bx (w W : World) (mv bv rv : Value) (k co va vl rg : Int) : Prop where
  bel : Below w.heap.size w W
  size : W.heap.size = w.heap.size + 1 + 1
  t0 : W.cell? ⟨w.heap.size, 0, none⟩ = some mv
  t1 : W.cell? ⟨w.heap.size, 1, none⟩ = some bv
  t2 : W.cell? ⟨w.heap.size, 2, none⟩ = some rv
  a1 : W.cell? ⟨w.heap.size + 1, 1, none⟩ = some (.int .i64 co)
  a2 : W.cell? ⟨w.heap.size + 1, 2, none⟩ = some (.int .i64 va)
  a3 : W.cell? ⟨w.heap.size + 1, 3, none⟩ = some (.int .i64 vl)
  a4 : W.cell? ⟨w.heap.size + 1, 4, none⟩ = some (.int .i64 rg)
theorem bx_made (w : World) (mv bv rv : Value) (k co va vl rg : Int) : Bx w ((w.alloc (.cells #[mv, bv, rv] 37)).alloc (.cells (five k co va vl rg) 51)) mv bv rv k co va vl rg := by
  have h1 : ((w.alloc (.cells #[mv, bv, rv] 37)).alloc (.cells (five k co va vl rg) 51)).heap[w.heap.size]? = some (.cells #[mv, bv, rv] 37 (0, 0)) := by rw [Below.heap_alloc _ _ _ (by simp)]; exact heap_alloc_new _ _
  have h2 : ((w.alloc (.cells #[mv, bv, rv] 37)).alloc (.cells (five k co va vl rg) 51)).heap[w.heap.size + 1]? = some (.cells (five k co va vl rg) 51 (0, 0)) := by
    have := heap_alloc_new (w.alloc (.cells #[mv, bv, rv] 37)) (.cells (five k co va vl rg) 51)
    simpa only [World.size_alloc] using this
  exact ⟨((Below.refl _ _).alloc (Nat.le_refl _) _).alloc (by simp) _, by simp, (cell_of_row _ _ _ _ _ _ h1).trans rfl, (cell_of_row _ _ _ _ _ _ h1).trans rfl, (cell_of_row _ _ _ _ _ _ h1).trans rfl, (cell_of_row _ _ _ _ _ _ h2).trans rfl, (cell_of_row _ _ _ _ _ _ h2).trans rfl, (cell_of_row _ _ _ _ _ _ h2).trans rfl, (cell_of_row _ _ _ _ _ _ h2).trans rfl⟩

/-- one store more -/
def snocF (f : Nat → Nat → Int) (n : Nat) (va vl : Int) : Nat → Nat → Int := upd f n (fun i => if i = 0 then va else vl)
theorem rowC_snoc (f : Nat → Nat → Int) (n : Nat) (va vl : Int) : rowC 2 n n f ++ [.int .i64 va, .int .i64 vl] = rowC 2 (n + 1) (n + 1) (snocF f n va vl) := by
  apply List.ext_getElem?
  intro x
  by_cases h1 : x < n * 2
  · rw [List.getElem?_append_left (by rw [rowC_length]; exact h1), rowC_get h1, rowC_get (by omega), if_pos (by omega), if_pos (by omega), snocF, upd_ne (by omega)]
  · by_cases h2 : x < (n + 1) * 2
    · rw [List.getElem?_append_right (by rw [rowC_length]; omega), rowC_length, rowC_get h2, if_pos (by omega), snocF]
      have e : x / 2 = n := by omega
      rw [e, upd_at]
      have : x = n * 2 ∨ x = n * 2 + 1 := by omega
      rcases this with rfl | rfl
      · simp
      · have e1 : n * 2 + 1 - n * 2 = 1 := by omega
        rw [e1]
        simp
    · rw [List.getElem?_append_right (by rw [rowC_length]; omega), rowC_length, rowC_none h2]
      exact List.getElem?_eq_none (by simp; omega)

set_option maxHeartbeats 4000000 in
set_option maxRecDepth 20000 in
theorem storeWaits_any (mv bv rv : Value) (zs : List Int) (C : Nat) (L : Nat → Nat) (F : Nat → Nat → Nat → Int) (R : Nat) (Z : Nat → List Int) (vb vr : Nat → Value) (tag : Nat → Nat) (base c : Nat) (k va vl rg : Int) (w : World) (h : Tc w base mv bv rv zs C L F R Z vb vr tag) (hc : c < C) (hC : C ≤ 30) (hL : L c ≤ 1000) (hb : base ≤ w.heap.size) :
    Calls Try.prog 64 #[.agg #[mv, bv, rv], .agg (five k c va vl rg)] w fun e w' => (4 ≤ L c ∧ e = .returned (.int .i64 3) ∧ Below w.heap.size w w') ∨ (¬ 4 ≤ L c ∧ e = .returned (.int .i64 0) ∧ (∃ u tag', Ta w' base mv bv rv zs C (upd L c (L c + 1)) (upd F c (snocF (F c) (L c) va vl)) R Z (upd vb c u) vr tag') ∧ Below base w w' ∧ Kp tag w w') := by
  obtain ⟨i0, hi, hz0, hz1, hz2⟩ := info_parts infoS
  have bx := bx_made w mv bv rv k c va vl rg
  obtain ⟨bb, bo, bc, rfl, b1, b2, b3, bcell⟩ := h.ta.bufAt (by omega)
  have hvb : (w.alloc (.cells #[mv, .slice (some ⟨bb, bo, none⟩) C bc, rv] 37)).alloc (.cells (five k c va vl rg) 51) = (w.alloc (.cells #[mv, .slice (some ⟨bb, bo, none⟩) C bc, rv] 37)).alloc (.cells (five k c va vl rg) 51) := rfl
  clear hvb
  have q0 := keepc bx.bel (bcell c hc)
  obtain ⟨ia, ic, ev⟩ := own_form (h.bo c hc)
  rw [ev] at q0
  have hc0 : (0 : Int) ≤ (c : Int) := by omega
  have hc1 : (c : Int) < (C : Int) := by omega
  have hbl := b2.lt
  obtain ⟨W, hW⟩ : ∃ W, (w.alloc (.cells #[mv, .slice (some ⟨bb, bo, none⟩) C bc, rv] 37)).alloc (.cells (five k c va vl rg) 51) = W := ⟨_, rfl⟩
  rw [hW] at bx q0
  have t1 := bx.t1
  have a1 := bx.a1
  have a2 := bx.a2
  have a3 := bx.a3
  by_cases h4 : 4 ≤ L c
  · have hd : decide ((4 : Int) ≤ (L c : Int)) = true := by simp; omega
    go_enter Try.func64, Try.ntmps64
    go_wp2
    go_ret
    exact .inl ⟨h4, rfl, bx.bel⟩
  · have hd : decide ((4 : Int) ≤ (L c : Int)) = false := by simp; omega
    go_enter Try.func64, Try.ntmps64
    go_wp2
    refine wp_region_but (z := 18) (S := fun W' => W'.cell? ⟨w.heap.size, 1, none⟩ = some (.slice (some ⟨bb, bo, none⟩) C bc) ∧ W'.cell? ⟨w.heap.size + 1, 1, none⟩ = some (.int .i64 c) ∧ W'.cell? ⟨w.heap.size + 1, 2, none⟩ = some (.int .i64 va) ∧ W'.cell? ⟨w.heap.size + 1, 3, none⟩ = some (.int .i64 vl) ∧ W'.cell? ⟨bb, bo + c, none⟩ = some (.slice ia (L c) ic)) (by kernel_rfl) ⟨t1, a1, a2, a3, q0⟩ (fun hHeld => ?_)
    refine wpAnyK_take (i := 0) (v := .pointer (some ⟨w.heap.size, 1, none⟩)) rfl (by kernel_rfl) (by kernel_rfl) (by kernel_rfl) (by kernel_rfl) (fun _ _ _ h => h) (Or.inl ⟨by rfl, fun w' hSw => ?_⟩) (by assumption) ?_
    · (try dsimp only at hSw); obtain ⟨s1, s2, s3, s4, s5⟩ := hSw; go_simp
    try simp only [Act.put, List.getElem_toArray, List.getElem_cons_zero, List.getElem_cons_succ, List.setIfInBounds_toArray, List.set_cons_zero, List.set_cons_succ]
    refine wpAnyK_take (i := 1) (v := .slice (some ⟨bb, bo, none⟩) C bc) rfl (by kernel_rfl) (by kernel_rfl) (by kernel_rfl) (by kernel_rfl) (fun _ _ _ h => h) (Or.inl ⟨by rfl, fun w' hSw => ?_⟩) (by assumption) ?_
    · (try dsimp only at hSw); obtain ⟨s1, s2, s3, s4, s5⟩ := hSw; go_simp
    try simp only [Act.put, List.getElem_toArray, List.getElem_cons_zero, List.getElem_cons_succ, List.setIfInBounds_toArray, List.set_cons_zero, List.set_cons_succ]
    refine wpAnyK_take (i := 2) (v := .pointer (some ⟨w.heap.size + 1, 1, none⟩)) rfl (by kernel_rfl) (by kernel_rfl) (by kernel_rfl) (by kernel_rfl) (fun _ _ _ h => h) (Or.inl ⟨by rfl, fun w' hSw => ?_⟩) (by assumption) ?_
    · (try dsimp only at hSw); obtain ⟨s1, s2, s3, s4, s5⟩ := hSw; go_simp
    try simp only [Act.put, List.getElem_toArray, List.getElem_cons_zero, List.getElem_cons_succ, List.setIfInBounds_toArray, List.set_cons_zero, List.set_cons_succ]
    refine wpAnyK_take (i := 3) (v := .int .i64 c) rfl (by kernel_rfl) (by kernel_rfl) (by kernel_rfl) (by kernel_rfl) (fun _ _ _ h => h) (Or.inl ⟨by rfl, fun w' hSw => ?_⟩) (by assumption) ?_
    · (try dsimp only at hSw); obtain ⟨s1, s2, s3, s4, s5⟩ := hSw; go_simp
    try simp only [Act.put, List.getElem_toArray, List.getElem_cons_zero, List.getElem_cons_succ, List.setIfInBounds_toArray, List.set_cons_zero, List.set_cons_succ]
    refine wpAnyK_take (i := 4) (v := .pointer (some ⟨w.heap.size, 1, none⟩)) rfl (by kernel_rfl) (by kernel_rfl) (by kernel_rfl) (by kernel_rfl) (fun _ _ _ h => h) (Or.inl ⟨by rfl, fun w' hSw => ?_⟩) (by assumption) ?_
    · (try dsimp only at hSw); obtain ⟨s1, s2, s3, s4, s5⟩ := hSw; go_simp
    try simp only [Act.put, List.getElem_toArray, List.getElem_cons_zero, List.getElem_cons_succ, List.setIfInBounds_toArray, List.set_cons_zero, List.set_cons_succ]
    refine wpAnyK_take (i := 5) (v := .slice (some ⟨bb, bo, none⟩) C bc) rfl (by kernel_rfl) (by kernel_rfl) (by kernel_rfl) (by kernel_rfl) (fun _ _ _ h => h) (Or.inl ⟨by rfl, fun w' hSw => ?_⟩) (by assumption) ?_
    · (try dsimp only at hSw); obtain ⟨s1, s2, s3, s4, s5⟩ := hSw; go_simp
    try simp only [Act.put, List.getElem_toArray, List.getElem_cons_zero, List.getElem_cons_succ, List.setIfInBounds_toArray, List.set_cons_zero, List.set_cons_succ]
    refine wpAnyK_take (i := 6) (v := .pointer (some ⟨w.heap.size + 1, 1, none⟩)) rfl (by kernel_rfl) (by kernel_rfl) (by kernel_rfl) (by kernel_rfl) (fun _ _ _ h => h) (Or.inl ⟨by rfl, fun w' hSw => ?_⟩) (by assumption) ?_
    · (try dsimp only at hSw); obtain ⟨s1, s2, s3, s4, s5⟩ := hSw; go_simp
    try simp only [Act.put, List.getElem_toArray, List.getElem_cons_zero, List.getElem_cons_succ, List.setIfInBounds_toArray, List.set_cons_zero, List.set_cons_succ]
    refine wpAnyK_take (i := 7) (v := .int .i64 c) rfl (by kernel_rfl) (by kernel_rfl) (by kernel_rfl) (by kernel_rfl) (fun _ _ _ h => h) (Or.inl ⟨by rfl, fun w' hSw => ?_⟩) (by assumption) ?_
    · (try dsimp only at hSw); obtain ⟨s1, s2, s3, s4, s5⟩ := hSw; go_simp
    try simp only [Act.put, List.getElem_toArray, List.getElem_cons_zero, List.getElem_cons_succ, List.setIfInBounds_toArray, List.set_cons_zero, List.set_cons_succ]
    refine wpAnyK_take (i := 8) (v := .pointer (some ⟨bb, bo + c, none⟩)) rfl (by kernel_rfl) (by kernel_rfl) (by kernel_rfl) (by kernel_rfl) (fun _ _ _ h => h) (Or.inl ⟨by rfl, fun w' hSw => ?_⟩) (by assumption) ?_
    · (try dsimp only at hSw); obtain ⟨s1, s2, s3, s4, s5⟩ := hSw; go_simp
    try simp only [Act.put, List.getElem_toArray, List.getElem_cons_zero, List.getElem_cons_succ, List.setIfInBounds_toArray, List.set_cons_zero, List.set_cons_succ]
    refine wpAnyK_take (i := 9) (v := .slice ia (L c) ic) rfl (by kernel_rfl) (by kernel_rfl) (by kernel_rfl) (by kernel_rfl) (fun _ _ _ h => h) (Or.inl ⟨by rfl, fun w' hSw => ?_⟩) (by assumption) ?_
    · (try dsimp only at hSw); obtain ⟨s1, s2, s3, s4, s5⟩ := hSw; go_simp
    try simp only [Act.put, List.getElem_toArray, List.getElem_cons_zero, List.getElem_cons_succ, List.setIfInBounds_toArray, List.set_cons_zero, List.set_cons_succ]
    refine wpAnyK_take (i := 10) (v := .pointer (some ⟨w.heap.size + 1, 2, none⟩)) rfl (by kernel_rfl) (by kernel_rfl) (by kernel_rfl) (by kernel_rfl) (fun _ _ _ h => h) (Or.inl ⟨by rfl, fun w' hSw => ?_⟩) (by assumption) ?_
    · (try dsimp only at hSw); obtain ⟨s1, s2, s3, s4, s5⟩ := hSw; go_simp
    try simp only [Act.put, List.getElem_toArray, List.getElem_cons_zero, List.getElem_cons_succ, List.setIfInBounds_toArray, List.set_cons_zero, List.set_cons_succ]
    refine wpAnyK_take (i := 11) (v := .int .i64 va) rfl (by kernel_rfl) (by kernel_rfl) (by kernel_rfl) (by kernel_rfl) (fun _ _ _ h => h) (Or.inl ⟨by rfl, fun w' hSw => ?_⟩) (by assumption) ?_
    · (try dsimp only at hSw); obtain ⟨s1, s2, s3, s4, s5⟩ := hSw; go_simp
    try simp only [Act.put, List.getElem_toArray, List.getElem_cons_zero, List.getElem_cons_succ, List.setIfInBounds_toArray, List.set_cons_zero, List.set_cons_succ]
    refine wpAnyK_take (i := 12) (v := .pointer (some ⟨w.heap.size + 1, 3, none⟩)) rfl (by kernel_rfl) (by kernel_rfl) (by kernel_rfl) (by kernel_rfl) (fun _ _ _ h => h) (Or.inl ⟨by rfl, fun w' hSw => ?_⟩) (by assumption) ?_
    · (try dsimp only at hSw); obtain ⟨s1, s2, s3, s4, s5⟩ := hSw; go_simp
    try simp only [Act.put, List.getElem_toArray, List.getElem_cons_zero, List.getElem_cons_succ, List.setIfInBounds_toArray, List.set_cons_zero, List.set_cons_succ]
    refine wpAnyK_take (i := 13) (v := .int .i64 vl) rfl (by kernel_rfl) (by kernel_rfl) (by kernel_rfl) (by kernel_rfl) (fun _ _ _ h => h) (Or.inl ⟨by rfl, fun w' hSw => ?_⟩) (by assumption) ?_
    · (try dsimp only at hSw); obtain ⟨s1, s2, s3, s4, s5⟩ := hSw; go_simp
    try simp only [Act.put, List.getElem_toArray, List.getElem_cons_zero, List.getElem_cons_succ, List.setIfInBounds_toArray, List.set_cons_zero, List.set_cons_succ]
    refine wpAnyK_take (i := 14) (v := .agg #[.int .i64 va, .int .i64 vl]) rfl (by kernel_rfl) (by kernel_rfl) (by kernel_rfl) (by kernel_rfl) (fun _ _ _ h => h) (Or.inl ⟨by rfl, fun w' hSw => ?_⟩) (by assumption) ?_
    · (try dsimp only at hSw); obtain ⟨s1, s2, s3, s4, s5⟩ := hSw; go_simp
    try simp only [Act.put, List.getElem_toArray, List.getElem_cons_zero, List.getElem_cons_succ, List.setIfInBounds_toArray, List.set_cons_zero, List.set_cons_succ]
    refine wpAnyK_one (i := 15) (by kernel_rfl) rfl (fun K hK => ?_)
    go_simp
    have hA : Below W.heap.size W (W.drew.alloc (.cells #[.int .i64 va, .int .i64 vl] 103)) := ((Below.refl _ _).drew).alloc (Nat.le_refl _) _
    refine hK.out _ _ (fun _ => ⟨keepc hA t1, keepc hA a1, keepc hA a2, keepc hA a3, keepc hA q0⟩) (fun hH => ?_)
    clear hK K hHeld
    have hHeld := hH (by decide)
    clear hH
    try simp only [Act.put, List.getElem_toArray, List.getElem_cons_zero, List.getElem_cons_succ, List.setIfInBounds_toArray, List.set_cons_zero, List.set_cons_succ]
    have hTa := (h.ta.below bx.bel).below hA
    have hBo := ((h.bo c hc).below bx.bel).below hA
    have hown0 := hBo
    unfold Orow at hown0
    have hlt : ∀ x, (Value.slice ia (L c) ic).ownBlock = some x → base ≤ x ∧ x < w.heap.size ∧ tag x = 3 + 2 * c := fun x e => ⟨(World.ownsRow.lt (h.bo c hc) x (by rw [ev]; exact e)).1, (World.ownsRow.lt (h.bo c hc) x (by rw [ev]; exact e)).2, h.tc c hc x (by rw [ev]; exact e)⟩
    rw [ev] at hown0
    have hsz := bx.size
    refine wpAnyK_one (i := 16) (by kernel_rfl) rfl (fun K hK => ?_)
    refine step_append_lies _ (by rfl) _ _ 90 (by rfl) base 103 i0 _ 2 16 Try.underlying90 hi hz0 hz1 hz2 rfl (by omega) (.slice ia (L c) ic) (L c) (rowC 2 (L c) (L c) (F c)) (by rfl) hown0 ⟨W.heap.size, 0, none⟩ 1 1 [.int .i64 va, .int .i64 vl] (by rfl) (by rfl) (World.news_of_block (cs := #[.int .i64 va, .int .i64 vl]) (t := 103) (fr := (0, 0)) (heap_alloc_new W.drew _)) (by intro x hx; simp at hx; rcases hx with hx | hx <;> subst hx <;> rfl) (by omega) (by unfold maxLen; omega) (by omega) (Nat.le_trans (by omega : base ≤ W.heap.size) hA.size) _ rfl ?_
    intro g cap w3 hown hgrow hat hlt3
    have hx3 : ∀ {B i : Nat} {u : Value}, (B = w.heap.size ∨ B = w.heap.size + 1 ∨ B = bb) → W.cell? ⟨B, i, none⟩ = some u → w3.cell? ⟨B, i, none⟩ = some u := fun {B i u} hB hu => (hgrow.cell_far ⟨B, i, none⟩ (by have := World.block_lt_of_cell? _ _ hu; have := hA.size; show B < _; simp at *; omega) (fun q => by have := hlt B q.symm; rcases hB with rfl | rfl | rfl <;> omega)).trans (keepc hA hu)
    have y1 := hx3 (.inl rfl) t1
    have y2 := hx3 (.inr (.inl rfl)) a1
    have y3 := hx3 (.inr (.inl rfl)) a2
    have y4 := hx3 (.inr (.inl rfl)) a3
    have y5 := hx3 (.inr (.inr rfl)) q0
    have f5 : w3.frozen? ⟨bb, bo + c, none⟩ = false := ((((b2.below bx.bel).below hA).grown hgrow (fun q => by have := hlt bb q; omega)).facts.1 _)
    rw [rowC_snoc] at hown
    have hB3 : Below base w w3 := by
      have hq := bx.bel.trans (hA.mono bx.bel.size)
      exact (hq.mono hb).grown hgrow (by have := hq.size; omega) (fun x e => (hlt x e).1)
    obtain ⟨tag2, ta2⟩ := hTa.putB (c := c) hc hgrow (fun x e => (hlt x e).2.2) (Orow.sr hown) (fun x off n cap2 e _ => by
      obtain ⟨z1, z2⟩ := own_wc hown x off n cap2 e
      refine ⟨z1, z2, ?_⟩
      simp only [Value.slice.injEq, Option.some.injEq, Addr.mk.injEq] at e
      obtain ⟨⟨rfl, _, _⟩, _, _⟩ := e
      rcases hat with hat | hat
      · exact .inl (hlt _ hat).2.2
      · exact .inr (Nat.le_of_eq hat.symm)) (Nat.le_trans (by omega : base ≤ W.heap.size) hA.size)
    have hK3 : Kp tag w w3 := Kp.grown (Kp.below (bx.bel.trans (hA.mono bx.bel.size))) (bx.bel.trans (hA.mono bx.bel.size)).size hgrow (fun x e => by have := (hlt x e).2.2; omega)
    have HF := hide (And.intro ta2 (And.intro (hB3.setCell (p := ⟨bb, bo + c, none⟩) b1 (.slice (some ⟨g, 0, none⟩) (L c + 1) cap)) (hK3.set (B := bb) (i := bo + c) (v := .slice (some ⟨g, 0, none⟩) (L c + 1) cap) (by omega))))
    refine hK.out _ _ (fun _ => ⟨y1, y2, y3, y4, y5⟩) (fun hH => ?_)
    clear hK K hHeld hown hgrow hat hA hTa hBo hown0 hx3 ta2 hB3 hK3
    have hHeld := hH (by decide)
    clear hH
    try simp only [Act.put, List.getElem_toArray, List.getElem_cons_zero, List.getElem_cons_succ, List.setIfInBounds_toArray, List.set_cons_zero, List.set_cons_succ]
    refine wpAnyK_take (i := 17) (v := .pointer (some ⟨bb, bo + c, none⟩)) rfl (by kernel_rfl) (by kernel_rfl) (by kernel_rfl) (by kernel_rfl) (fun _ _ _ h => h) (Or.inl ⟨by rfl, fun w' hSw => ?_⟩) (by assumption) ?_
    · (try dsimp only at hSw); obtain ⟨s1, s2, s3, s4, s5⟩ := hSw; go_simp
    try simp only [Act.put, List.getElem_toArray, List.getElem_cons_zero, List.getElem_cons_succ, List.setIfInBounds_toArray, List.set_cons_zero, List.set_cons_succ]
    refine wpAnyK_one (i := 18) (by kernel_rfl) rfl (fun K hK => ?_)
    clear t1 a1 a2 a3 q0
    go_simp
    refine hK.out _ _ (fun h => absurd rfl h) (fun _ => ?_)
    clear hK K y1 y2 y3 y4 y5 f5
    try simp only [Act.put, List.getElem_toArray, List.getElem_cons_zero, List.getElem_cons_succ, List.setIfInBounds_toArray, List.set_cons_zero, List.set_cons_succ]
    refine wpAnyK_done (by kernel_rfl) ?_
    go_wp2
    go_ret
    first | exact .inr ⟨h4, rfl, ⟨_, _, HF.out.1⟩, HF.out.2.1, HF.out.2.2⟩ | exact ⟨h4, rfl, ⟨_, _, HF.out.1⟩, HF.out.2.1, HF.out.2.2⟩ | exact ⟨rfl, ⟨_, _, HF.out.1⟩, HF.out.2.1, HF.out.2.2⟩

end Go.Proofs.Ytcocobmanlmjdaa
