/- spec.l10Copy (written by mkTkE.py) -/
import Derived.Test.YtcocobmanlmjdaaTkE0
namespace Go.Proofs.Ytcocobmanlmjdaa
open Go.RowKit
set_option linter.unusedVariables false
set_option linter.unusedSimpArgs false

set_option maxHeartbeats 8000000 in
set_option maxRecDepth 20000 in
theorem l10Copy_any (mv bv rv : Value) (zs : List Int) (C : Nat) (L : Nat → Nat) (F : Nat → Nat → Nat → Int) (Z : Nat → List Int) (w : World) (h : Tv w mv bv rv zs C L F C Z) (hz : zs.length ≤ 1000) (hzp : 0 < zs.length) (hC : 0 < C ∧ C ≤ 30) (hL : ∀ c, c < C → L c ≤ 1000) (hZ : ∀ c, c < C → (Z c).length ≤ 1000) :
    Calls Try.prog 50 #[.agg #[mv, bv, rv]] w fun e w' => ∃ m b r vb vr tag, e = .returned (.agg #[m, b, r]) ∧ Tc w' w.heap.size m b r zs C L F C Z vb vr tag ∧ Below w.heap.size w w' := by
  obtain ⟨i0, hi, hz0, hz1, hz2⟩ := info_parts infoStores
  obtain ⟨j0, hj, jz0, jz1, jz2⟩ := info_parts infoIs
  have HT := hide h
  obtain ⟨⟨ma0, mc, rfl, hmem0⟩, ⟨ba, bc, rfl, hbuf0⟩, ⟨ra, rc, rfl, hreg0⟩⟩ := h
  obtain ⟨mb, mo, rfl, _⟩ := hmem0 hzp
  obtain ⟨bb, bo, rfl, hbuf1⟩ := hbuf0 (by omega)
  obtain ⟨rb, ro, rfl, hreg1⟩ := hreg0 (by omega)
  clear hbuf0 hreg0 hmem0
  have hbbl : bb < w.heap.size := by
    obtain ⟨ja, jc, y, _⟩ := hbuf1 0 (by omega)
    have := World.block_lt_of_cell? _ _ y
    simpa using this
  have hrbl : rb < w.heap.size := by
    obtain ⟨ja, jc, y, _⟩ := hreg1 0 (by omega)
    have := World.block_lt_of_cell? _ _ y
    simpa using this
  obtain ⟨W, hW⟩ : ∃ W, (w.alloc (.cells #[.slice (some ⟨mb, mo, none⟩) zs.length mc, .slice (some ⟨bb, bo, none⟩) C bc, .slice (some ⟨rb, ro, none⟩) C rc] 37)).alloc (.cells #[nil3, nil3, nil3] 37) = W := ⟨_, rfl⟩
  have hWs : W.heap.size = w.heap.size + 1 + 1 := by rw [← hW]; simp
  have hb0 : Below w.heap.size w W := by rw [← hW]; exact ((Below.refl _ _).alloc (Nat.le_refl _) _).alloc (by simp) _
  have hA : W.heap[w.heap.size]? = some (.cells #[.slice (some ⟨mb, mo, none⟩) zs.length mc, .slice (some ⟨bb, bo, none⟩) C bc, .slice (some ⟨rb, ro, none⟩) C rc] 37 (0, 0)) := by rw [← hW, Below.heap_alloc _ _ _ (by simp)]; exact heap_alloc_new _ _
  have hN : W.heap[w.heap.size + 1]? = some (.cells #[nil3, nil3, nil3] 37 (0, 0)) := by
    rw [← hW]
    have := heap_alloc_new (w.alloc (.cells #[.slice (some ⟨mb, mo, none⟩) zs.length mc, .slice (some ⟨bb, bo, none⟩) C bc, .slice (some ⟨rb, ro, none⟩) C rc] 37)) (.cells #[nil3, nil3, nil3] 37)
    simpa only [World.size_alloc] using this
  obtain ⟨l0, hl, lz0, lz1, lz2⟩ := info_parts infoI
  have hBE : Below W.heap.size W (W.alloc (.cells #[] 2)) := (Below.refl _ _).alloc (Nat.le_refl _) _
  have hnews := ((HT.out.mem.below hb0).below hBE).news
  have HE := hide (And.intro hWs (And.intro hb0 (And.intro hA (And.intro hN hBE))))
  have x0 : (W.alloc (.cells #[] 2)).cell? ⟨w.heap.size, 0, none⟩ = some (.slice (some ⟨mb, mo, none⟩) zs.length mc) := keepc hBE ((cell_of_row _ _ 0 _ _ _ hA).trans rfl)
  have hem := empty_own W 2 1
  clear hb0 hA hN hBE
  go_enter Try.func50, Try.ntmps50
  go_wp2_with (at_builtin; refine wpList_append_own_at _ rfl _ _ 33 rfl W.heap.size 2 l0 _ 1 8 Try.underlying33 hl lz0 lz1 lz2 rfl (by omega) _ 0 [] rfl ?hown ⟨mb, mo, none⟩ zs.length mc (zs.map (Value.int .i64)) rfl (by simp) ?hnew ints_one (by unfold maxLen; omega) (by omega) (by simp) ?_)
  case hown => first | exact hem | (rw [← hWs]; exact hem)
  case hnew => exact hnews
  intro m w1 hown1 hgrow1 _ hat1
  have ho1 : Ow w1 W.heap.size m zs := by unfold Ow; rw [hWs]; simpa using hown1
  have hb1 : Below W.heap.size W w1 := HE.out.2.2.2.2.grown hgrow1 (by simp) (fun k hk => by simp [Value.ownBlock] at hk; omega)
  have cq0 := cq_start (L := L) (F := F) (Z := Z) HE.out.1 HE.out.2.1 HE.out.2.2.1 HE.out.2.2.2.1 ho1 hb1
  clear HE hb1 hnews hem x0 hown1 hgrow1 hat1 hW hWs
  obtain ⟨ma', mc', hmf⟩ := own_form ho1
  subst hmf
  clear ho1
  go_wp2
  obtain ⟨NB, hNB⟩ : ∃ NB, w1.heap.size = NB := ⟨_, rfl⟩
  obtain ⟨M, hM⟩ : ∃ M, Value.slice ma' zs.length mc' = M := ⟨_, rfl⟩
  rw [hM, hNB] at cq0
  rw [hM, hNB]
  go_loopw [4] (fun i wr => ∃ (k : Nat) (b r : Value) (vb vr : Nat → Value) (tag : Nat → Nat), k ≤ C ∧ i = .int .i64 k ∧ Hid (Cq w wr NB (.slice (some ⟨mb, mo, none⟩) zs.length mc) (.slice (some ⟨bb, bo, none⟩) C bc) (.slice (some ⟨rb, ro, none⟩) C rc) M b r zs k k L F Z vb vr tag)) (fun i _ => C - (intOf i).toNat)
  case atStart => exact ⟨0, nil3, nil3, _, _, _, by omega, rfl, hide cq0⟩
  case round =>
    clear cq0
    obtain ⟨k, b, r, vb, vr, tag, hk, rfl, CQ⟩ := hrel
    have cq := CQ.out
    clear CQ
    have x1 : wr.cell? ⟨w.heap.size, 1, none⟩ = some (.slice (some ⟨bb, bo, none⟩) C bc) := (cell_of_row _ _ 1 _ _ _ cq.arg).trans rfl
    by_cases hlt : k < C
    · obtain ⟨ia, ic, q0', hbuf⟩ := hbuf1 k hlt
      obtain ⟨ja, jc, y0', hreg⟩ := hreg1 k hlt
      have q0 : wr.cell? ⟨bb, bo + k, none⟩ = some (.slice ia (L k) ic) := Below.keep cq.bel _ _ q0'
      have n1 : wr.cell? ⟨NB, 1, none⟩ = some b := (cell_of_row _ _ 1 _ _ _ cq.box).trans rfl
      have hLk := hL k hlt
      have hZk := hZ k hlt
      have hk0 : (0 : Int) ≤ (k : Int) := by omega
      have hk1 : (k : Int) < (C : Int) := by omega
      clear hbuf1 hreg1 q0'
      go_wp2
      refine wp_region_but (z := 12) (S := fun W => W.cell? ⟨NB, 1, none⟩ = some b ∧ W.cell? ⟨w.heap.size, 1, none⟩ = some (.slice (some ⟨bb, bo, none⟩) C bc) ∧ W.cell? ⟨bb, bo + k, none⟩ = some (.slice ia (L k) ic)) (by kernel_rfl) ⟨n1, x1, q0⟩ (fun hHeld => ?_)
      refine wpAnyK_take (i := 0) (v := .pointer (some ⟨NB, 1, none⟩)) rfl (by kernel_rfl) (by kernel_rfl) (by kernel_rfl) (by kernel_rfl) (fun _ _ _ h => h) (Or.inl ⟨by rfl, fun w' hSw => ?_⟩) (by assumption) ?_
      · (try dsimp only at hSw); (try obtain ⟨hS1, hS2, hS3⟩ := hSw); go_simp
      try simp only [Act.put, List.getElem_toArray, List.getElem_cons_zero, List.getElem_cons_succ, List.setIfInBounds_toArray, List.set_cons_zero, List.set_cons_succ]
      refine wpAnyK_take (i := 1) (v := b) rfl (by kernel_rfl) (by kernel_rfl) (by kernel_rfl) (by kernel_rfl) (fun _ _ _ h => h) (Or.inl ⟨by rfl, fun w' hSw => ?_⟩) (by assumption) ?_
      · (try dsimp only at hSw); (try obtain ⟨hS1, hS2, hS3⟩ := hSw); go_simp
      try simp only [Act.put, List.getElem_toArray, List.getElem_cons_zero, List.getElem_cons_succ, List.setIfInBounds_toArray, List.set_cons_zero, List.set_cons_succ]
      refine wpAnyK_take (i := 3) (v := .pointer (some ⟨w.heap.size, 1, none⟩)) rfl (by kernel_rfl) (by kernel_rfl) (by kernel_rfl) (by kernel_rfl) (fun _ _ _ h => h) (Or.inl ⟨by rfl, fun w' hSw => ?_⟩) (by assumption) ?_
      · (try dsimp only at hSw); (try obtain ⟨hS1, hS2, hS3⟩ := hSw); go_simp
      try simp only [Act.put, List.getElem_toArray, List.getElem_cons_zero, List.getElem_cons_succ, List.setIfInBounds_toArray, List.set_cons_zero, List.set_cons_succ]
      refine wpAnyK_take (i := 4) (v := .slice (some ⟨bb, bo, none⟩) C bc) rfl (by kernel_rfl) (by kernel_rfl) (by kernel_rfl) (by kernel_rfl) (fun _ _ _ h => h) (Or.inl ⟨by rfl, fun w' hSw => ?_⟩) (by assumption) ?_
      · (try dsimp only at hSw); (try obtain ⟨hS1, hS2, hS3⟩ := hSw); go_simp
      try simp only [Act.put, List.getElem_toArray, List.getElem_cons_zero, List.getElem_cons_succ, List.setIfInBounds_toArray, List.set_cons_zero, List.set_cons_succ]
      refine wpAnyK_take (i := 5) (v := .int .i64 k) rfl (by kernel_rfl) (by kernel_rfl) (by kernel_rfl) (by kernel_rfl) (fun _ _ _ h => h) (Or.inl ⟨by rfl, fun w' hSw => ?_⟩) (by assumption) ?_
      · (try dsimp only at hSw); (try obtain ⟨hS1, hS2, hS3⟩ := hSw); go_simp
      try simp only [Act.put, List.getElem_toArray, List.getElem_cons_zero, List.getElem_cons_succ, List.setIfInBounds_toArray, List.set_cons_zero, List.set_cons_succ]
      refine wpAnyK_take (i := 6) (v := .pointer (some ⟨bb, bo + k, none⟩)) rfl (by kernel_rfl) (by kernel_rfl) (by kernel_rfl) (by kernel_rfl) (fun _ _ _ h => h) (Or.inl ⟨by rfl, fun w' hSw => ?_⟩) (by assumption) ?_
      · (try dsimp only at hSw); (try obtain ⟨hS1, hS2, hS3⟩ := hSw); go_simp
      try simp only [Act.put, List.getElem_toArray, List.getElem_cons_zero, List.getElem_cons_succ, List.setIfInBounds_toArray, List.set_cons_zero, List.set_cons_succ]
      refine wpAnyK_take (i := 7) (v := .slice ia (L k) ic) rfl (by kernel_rfl) (by kernel_rfl) (by kernel_rfl) (by kernel_rfl) (fun _ _ _ h => h) (Or.inl ⟨by rfl, fun w' hSw => ?_⟩) (by assumption) ?_
      · (try dsimp only at hSw); (try obtain ⟨hS1, hS2, hS3⟩ := hSw); go_simp
      try simp only [Act.put, List.getElem_toArray, List.getElem_cons_zero, List.getElem_cons_succ, List.setIfInBounds_toArray, List.set_cons_zero, List.set_cons_succ]
      refine wpAnyK_one (i := 2) (by kernel_rfl) rfl (fun K hK => ?_)
      go_simp
      have hA0 : Below wr.heap.size wr (wr.drew.alloc (.cells #[] 103)) := ((Below.refl _ _).drew).alloc (Nat.le_refl _) _
      refine hK.out _ _ (fun _ => ⟨keepc hA0 n1, keepc hA0 x1, keepc hA0 q0⟩) (fun hH => ?_)
      clear hK K hHeld
      have hHeld := hH (by decide)
      clear hH
      try simp only [Act.put, List.getElem_toArray, List.getElem_cons_zero, List.getElem_cons_succ, List.setIfInBounds_toArray, List.set_cons_zero, List.set_cons_succ]
      obtain ⟨u, w1, hrun, hu, hb1⟩ := append_emptyS wr.drew ia (L k) ic (F k) 90 ((hbuf.below cq.bel).below hA0) (by omega)
      obtain ⟨ua, uc, rfl⟩ := own_form hu
      have hb1' : Below wr.heap.size wr w1 := ((Below.refl _ _).drew).trans (hb1.mono (Nat.le_refl _))
      refine wpAnyK_one (i := 8) (by kernel_rfl) rfl (fun K hK => ?_)
      refine step_append_run (by rfl) _ _ 90 (by rfl) (by rfl) (by rfl) hrun ?_
      refine hK.out _ _ (fun _ => ⟨keepc hb1' n1, keepc hb1' x1, keepc hb1' q0⟩) (fun hH => ?_)
      clear hK K hHeld
      have hHeld := hH (by decide)
      clear hH
      try simp only [Act.put, List.getElem_toArray, List.getElem_cons_zero, List.getElem_cons_succ, List.setIfInBounds_toArray, List.set_cons_zero, List.set_cons_succ]
      clear hrun hA0
      refine wpAnyK_one (i := 9) (by kernel_rfl) rfl (fun K hK => ?_)
      go_simp
      have hA : Below w1.heap.size w1 (w1.alloc (.cells #[.slice ua (L k) uc] 90)) := (Below.refl _ _).alloc (Nat.le_refl _) _
      have hb2 := hb1'.trans (hA.mono hb1'.size)
      refine hK.out _ _ (fun _ => ⟨keepc hb2 n1, keepc hb2 x1, keepc hb2 q0⟩) (fun hH => ?_)
      clear hK K hHeld
      have hHeld := hH (by decide)
      clear hH
      try simp only [Act.put, List.getElem_toArray, List.getElem_cons_zero, List.getElem_cons_succ, List.setIfInBounds_toArray, List.set_cons_zero, List.set_cons_succ]
      refine wpAnyK_one (i := 10) (by kernel_rfl) rfl (fun K hK => ?_)
      refine step_append_lies _ (by rfl) _ _ 34 (by rfl) (w.heap.size + 1 + 1) 90 i0 _ 1 24 Try.underlying34 hi hz0 hz1 hz2 rfl (by omega) b k ((List.range k).map vb) (by rfl) (own_kept cq.ob (grown_any (row := none) hb2) (fun _ _ q => by cases q)) ⟨w1.heap.size, 0, none⟩ 1 1 [.slice ua (L k) uc] (by rfl) (by rfl) (World.news_of_block (cs := #[.slice ua (L k) uc]) (t := 90) (fr := (0, 0)) (heap_alloc_new _ _)) (by intro x hx; simp at hx; subst hx; exact own_one hu) (by omega) (by unfold maxLen; omega) (by omega) (by have := hb2.size; have := cq.lo; have := lt_of_block cq.box; omega) _ rfl ?_
      intro g cap w3 hown hgrow hat hlt
      have hrl : ∀ x, b.ownBlock = some x → w.heap.size + 1 + 1 ≤ x := fun x e => (World.ownsRow.lt cq.ob x e).1
      have hNl := lt_of_block cq.box
      have hs2 := hb2.size
      have n3 : w3.cell? ⟨NB, 1, none⟩ = some b := (hgrow.cell_far ⟨NB, 1, none⟩ (by show NB < _; omega) (fun q => by have := cq.tb NB q.symm; rw [cq.tn] at this; omega)).trans (keepc hb2 n1)
      have f3 : w3.frozen? ⟨NB, 1, none⟩ = false := (hgrow.frozen_far ⟨NB, 1, none⟩ (by show NB < _; omega) (fun q => by have := cq.tb NB q.symm; rw [cq.tn] at this; omega)).trans (frozen_of_row _ _ 1 _ _ (heap_b cq.box hb2))
      have x3 := (hgrow.cell_far ⟨w.heap.size, 1, none⟩ (by have := lt_of_block cq.arg; show w.heap.size < _; omega) (fun q => by have := hrl _ q.symm; simp at this; omega)).trans (keepc hb2 x1)
      have y3 := (hgrow.cell_far ⟨bb, bo + k, none⟩ (by have := World.block_lt_of_cell? _ _ q0; show bb < _; simp at this; omega) (fun q => by have := hrl _ q.symm; have := hbbl; simp at *; omega)).trans (keepc hb2 q0)
      obtain ⟨tag1, cq1⟩ := cq.stepB (by omega) (by omega) hb2 (hu.below hA) hown hgrow hat rfl
      refine hK.out _ _ (fun _ => ⟨n3, x3, y3⟩) (fun hH => ?_)
      clear hK K hHeld hown hgrow hat hA hb1 hb1' hb2 hu x3 y3 hrl hNl hs2
      have hHeld := hH (by decide)
      clear hH
      try simp only [Act.put, List.getElem_toArray, List.getElem_cons_zero, List.getElem_cons_succ, List.setIfInBounds_toArray, List.set_cons_zero, List.set_cons_succ]
      refine wpAnyK_take (i := 11) (v := .pointer (some ⟨NB, 1, none⟩)) rfl (by kernel_rfl) (by kernel_rfl) (by kernel_rfl) (by kernel_rfl) (fun _ _ _ h => h) (Or.inl ⟨by rfl, fun w' hSw => ?_⟩) (by assumption) ?_
      · (try dsimp only at hSw); (try obtain ⟨hS1, hS2, hS3⟩ := hSw); go_simp
      try simp only [Act.put, List.getElem_toArray, List.getElem_cons_zero, List.getElem_cons_succ, List.setIfInBounds_toArray, List.set_cons_zero, List.set_cons_succ]
      refine wpAnyK_one (i := 12) (by kernel_rfl) rfl (fun K hK => ?_)
      go_simp
      refine hK.out _ _ (fun h => absurd rfl h) (fun _ => ?_)
      clear hK K n3 f3
      try simp only [Act.put, List.getElem_toArray, List.getElem_cons_zero, List.getElem_cons_succ, List.setIfInBounds_toArray, List.set_cons_zero, List.set_cons_succ]
      refine wpAnyK_done (by kernel_rfl) ?_
      generalize hV : World.setCell _ _ _ = V at cq1 ⊢
      clear hV cq n1 q0 x1
      have n2 : V.cell? ⟨NB, 2, none⟩ = some r := (cell_of_row _ _ 2 _ _ _ cq1.box).trans rfl
      have x2 : V.cell? ⟨w.heap.size, 2, none⟩ = some (.slice (some ⟨rb, ro, none⟩) C rc) := (cell_of_row _ _ 2 _ _ _ cq1.arg).trans rfl
      have y2 : V.cell? ⟨rb, ro + k, none⟩ = some (.slice ja (Z k).length jc) := Below.keep cq1.bel _ _ y0'
      clear y0'
      go_wp2
      refine wp_region_but (z := 12) (S := fun W => W.cell? ⟨NB, 2, none⟩ = some r ∧ W.cell? ⟨w.heap.size, 2, none⟩ = some (.slice (some ⟨rb, ro, none⟩) C rc) ∧ W.cell? ⟨rb, ro + k, none⟩ = some (.slice ja (Z k).length jc)) (by kernel_rfl) ⟨n2, x2, y2⟩ (fun hHeld => ?_)
      refine wpAnyK_take (i := 0) (v := .pointer (some ⟨NB, 2, none⟩)) rfl (by kernel_rfl) (by kernel_rfl) (by kernel_rfl) (by kernel_rfl) (fun _ _ _ h => h) (Or.inl ⟨by rfl, fun w' hSw => ?_⟩) (by assumption) ?_
      · (try dsimp only at hSw); (try obtain ⟨hS1, hS2, hS3⟩ := hSw); go_simp
      try simp only [Act.put, List.getElem_toArray, List.getElem_cons_zero, List.getElem_cons_succ, List.setIfInBounds_toArray, List.set_cons_zero, List.set_cons_succ]
      refine wpAnyK_take (i := 1) (v := r) rfl (by kernel_rfl) (by kernel_rfl) (by kernel_rfl) (by kernel_rfl) (fun _ _ _ h => h) (Or.inl ⟨by rfl, fun w' hSw => ?_⟩) (by assumption) ?_
      · (try dsimp only at hSw); (try obtain ⟨hS1, hS2, hS3⟩ := hSw); go_simp
      try simp only [Act.put, List.getElem_toArray, List.getElem_cons_zero, List.getElem_cons_succ, List.setIfInBounds_toArray, List.set_cons_zero, List.set_cons_succ]
      refine wpAnyK_take (i := 3) (v := .pointer (some ⟨w.heap.size, 2, none⟩)) rfl (by kernel_rfl) (by kernel_rfl) (by kernel_rfl) (by kernel_rfl) (fun _ _ _ h => h) (Or.inl ⟨by rfl, fun w' hSw => ?_⟩) (by assumption) ?_
      · (try dsimp only at hSw); (try obtain ⟨hS1, hS2, hS3⟩ := hSw); go_simp
      try simp only [Act.put, List.getElem_toArray, List.getElem_cons_zero, List.getElem_cons_succ, List.setIfInBounds_toArray, List.set_cons_zero, List.set_cons_succ]
      refine wpAnyK_take (i := 4) (v := .slice (some ⟨rb, ro, none⟩) C rc) rfl (by kernel_rfl) (by kernel_rfl) (by kernel_rfl) (by kernel_rfl) (fun _ _ _ h => h) (Or.inl ⟨by rfl, fun w' hSw => ?_⟩) (by assumption) ?_
      · (try dsimp only at hSw); (try obtain ⟨hS1, hS2, hS3⟩ := hSw); go_simp
      try simp only [Act.put, List.getElem_toArray, List.getElem_cons_zero, List.getElem_cons_succ, List.setIfInBounds_toArray, List.set_cons_zero, List.set_cons_succ]
      refine wpAnyK_take (i := 5) (v := .int .i64 k) rfl (by kernel_rfl) (by kernel_rfl) (by kernel_rfl) (by kernel_rfl) (fun _ _ _ h => h) (Or.inl ⟨by rfl, fun w' hSw => ?_⟩) (by assumption) ?_
      · (try dsimp only at hSw); (try obtain ⟨hS1, hS2, hS3⟩ := hSw); go_simp
      try simp only [Act.put, List.getElem_toArray, List.getElem_cons_zero, List.getElem_cons_succ, List.setIfInBounds_toArray, List.set_cons_zero, List.set_cons_succ]
      refine wpAnyK_take (i := 6) (v := .pointer (some ⟨rb, ro + k, none⟩)) rfl (by kernel_rfl) (by kernel_rfl) (by kernel_rfl) (by kernel_rfl) (fun _ _ _ h => h) (Or.inl ⟨by rfl, fun w' hSw => ?_⟩) (by assumption) ?_
      · (try dsimp only at hSw); (try obtain ⟨hS1, hS2, hS3⟩ := hSw); go_simp
      try simp only [Act.put, List.getElem_toArray, List.getElem_cons_zero, List.getElem_cons_succ, List.setIfInBounds_toArray, List.set_cons_zero, List.set_cons_succ]
      refine wpAnyK_take (i := 7) (v := .slice ja (Z k).length jc) rfl (by kernel_rfl) (by kernel_rfl) (by kernel_rfl) (by kernel_rfl) (fun _ _ _ h => h) (Or.inl ⟨by rfl, fun w' hSw => ?_⟩) (by assumption) ?_
      · (try dsimp only at hSw); (try obtain ⟨hS1, hS2, hS3⟩ := hSw); go_simp
      try simp only [Act.put, List.getElem_toArray, List.getElem_cons_zero, List.getElem_cons_succ, List.setIfInBounds_toArray, List.set_cons_zero, List.set_cons_succ]
      refine wpAnyK_one (i := 2) (by kernel_rfl) rfl (fun K hK => ?_)
      go_simp
      have hA0 : Below V.heap.size V (V.drew.alloc (.cells #[] 2)) := ((Below.refl _ _).drew).alloc (Nat.le_refl _) _
      refine hK.out _ _ (fun _ => ⟨keepc hA0 n2, keepc hA0 x2, keepc hA0 y2⟩) (fun hH => ?_)
      clear hK K hHeld
      have hHeld := hH (by decide)
      clear hH
      try simp only [Act.put, List.getElem_toArray, List.getElem_cons_zero, List.getElem_cons_succ, List.setIfInBounds_toArray, List.set_cons_zero, List.set_cons_succ]
      obtain ⟨u, w1, hrun, hu, hb1⟩ := append_emptyI V.drew ja jc (Z k) 33 ((hreg.below cq1.bel).below hA0) (by omega)
      obtain ⟨ua, uc, rfl⟩ := own_form hu
      have hb1' : Below V.heap.size V w1 := ((Below.refl _ _).drew).trans (hb1.mono (Nat.le_refl _))
      refine wpAnyK_one (i := 8) (by kernel_rfl) rfl (fun K hK => ?_)
      refine step_append_run (by rfl) _ _ 33 (by rfl) (by rfl) (by rfl) hrun ?_
      refine hK.out _ _ (fun _ => ⟨keepc hb1' n2, keepc hb1' x2, keepc hb1' y2⟩) (fun hH => ?_)
      clear hK K hHeld
      have hHeld := hH (by decide)
      clear hH
      try simp only [Act.put, List.getElem_toArray, List.getElem_cons_zero, List.getElem_cons_succ, List.setIfInBounds_toArray, List.set_cons_zero, List.set_cons_succ]
      clear hrun hA0
      refine wpAnyK_one (i := 9) (by kernel_rfl) rfl (fun K hK => ?_)
      go_simp
      have hA : Below w1.heap.size w1 (w1.alloc (.cells #[.slice ua (Z k).length uc] 33)) := (Below.refl _ _).alloc (Nat.le_refl _) _
      have hb2 := hb1'.trans (hA.mono hb1'.size)
      refine hK.out _ _ (fun _ => ⟨keepc hb2 n2, keepc hb2 x2, keepc hb2 y2⟩) (fun hH => ?_)
      clear hK K hHeld
      have hHeld := hH (by decide)
      clear hH
      try simp only [Act.put, List.getElem_toArray, List.getElem_cons_zero, List.getElem_cons_succ, List.setIfInBounds_toArray, List.set_cons_zero, List.set_cons_succ]
      refine wpAnyK_one (i := 10) (by kernel_rfl) rfl (fun K hK => ?_)
      refine step_append_lies _ (by rfl) _ _ 35 (by rfl) (w.heap.size + 1 + 1) 33 j0 _ 1 24 Try.underlying35 hj jz0 jz1 jz2 rfl (by omega) r k ((List.range k).map vr) (by rfl) (own_kept cq1.or (grown_any (row := none) hb2) (fun _ _ q => by cases q)) ⟨w1.heap.size, 0, none⟩ 1 1 [.slice ua (Z k).length uc] (by rfl) (by rfl) (World.news_of_block (cs := #[.slice ua (Z k).length uc]) (t := 33) (fr := (0, 0)) (heap_alloc_new _ _)) (by intro x hx; simp at hx; subst hx; exact own_one hu) (by omega) (by unfold maxLen; omega) (by omega) (by have := hb2.size; have := cq1.lo; have := lt_of_block cq1.box; omega) _ rfl ?_
      intro g cap w3 hown hgrow hat hlt
      have hrl : ∀ x, r.ownBlock = some x → w.heap.size + 1 + 1 ≤ x := fun x e => (World.ownsRow.lt cq1.or x e).1
      have hNl := lt_of_block cq1.box
      have hs2 := hb2.size
      have n3 : w3.cell? ⟨NB, 2, none⟩ = some r := (hgrow.cell_far ⟨NB, 2, none⟩ (by show NB < _; omega) (fun q => by have := cq1.tr NB q.symm; rw [cq1.tn] at this; omega)).trans (keepc hb2 n2)
      have f3 : w3.frozen? ⟨NB, 2, none⟩ = false := (hgrow.frozen_far ⟨NB, 2, none⟩ (by show NB < _; omega) (fun q => by have := cq1.tr NB q.symm; rw [cq1.tn] at this; omega)).trans (frozen_of_row _ _ 2 _ _ (heap_b cq1.box hb2))
      have x3 := (hgrow.cell_far ⟨w.heap.size, 2, none⟩ (by have := lt_of_block cq1.arg; show w.heap.size < _; omega) (fun q => by have := hrl _ q.symm; simp at this; omega)).trans (keepc hb2 x2)
      have y3 := (hgrow.cell_far ⟨rb, ro + k, none⟩ (by have := World.block_lt_of_cell? _ _ y2; show rb < _; simp at this; omega) (fun q => by have := hrl _ q.symm; have := hrbl; simp at *; omega)).trans (keepc hb2 y2)
      obtain ⟨tag2, cq2⟩ := cq1.stepR (by omega) (by omega) hb2 (hu.below hA) hown hgrow hat rfl
      refine hK.out _ _ (fun _ => ⟨n3, x3, y3⟩) (fun hH => ?_)
      clear hK K hHeld hown hgrow hat hA hb1 hb1' hb2 hu x3 y3 hrl hNl hs2
      have hHeld := hH (by decide)
      clear hH
      try simp only [Act.put, List.getElem_toArray, List.getElem_cons_zero, List.getElem_cons_succ, List.setIfInBounds_toArray, List.set_cons_zero, List.set_cons_succ]
      refine wpAnyK_take (i := 11) (v := .pointer (some ⟨NB, 2, none⟩)) rfl (by kernel_rfl) (by kernel_rfl) (by kernel_rfl) (by kernel_rfl) (fun _ _ _ h => h) (Or.inl ⟨by rfl, fun w' hSw => ?_⟩) (by assumption) ?_
      · (try dsimp only at hSw); (try obtain ⟨hS1, hS2, hS3⟩ := hSw); go_simp
      try simp only [Act.put, List.getElem_toArray, List.getElem_cons_zero, List.getElem_cons_succ, List.setIfInBounds_toArray, List.set_cons_zero, List.set_cons_succ]
      refine wpAnyK_one (i := 12) (by kernel_rfl) rfl (fun K hK => ?_)
      go_simp
      refine hK.out _ _ (fun h => absurd rfl h) (fun _ => ?_)
      clear hK K n3 f3
      try simp only [Act.put, List.getElem_toArray, List.getElem_cons_zero, List.getElem_cons_succ, List.setIfInBounds_toArray, List.set_cons_zero, List.set_cons_succ]
      refine wpAnyK_done (by kernel_rfl) ?_
      have HQ := hide cq2
      clear cq1 cq2 n2 x2 y2
      go_wp2
      go_roundw
      case rel => exact ⟨k + 1, _, _, _, _, _, by omega, by go_num, HQ⟩
      case measure => simp [intOf]; omega
    · have ek : k = C := by omega
      have n0 : wr.cell? ⟨NB, 0, none⟩ = some M := (cell_of_row _ _ 0 _ _ _ cq.box).trans rfl
      have n1 : wr.cell? ⟨NB, 1, none⟩ = some b := (cell_of_row _ _ 1 _ _ _ cq.box).trans rfl
      have n2 : wr.cell? ⟨NB, 2, none⟩ = some r := (cell_of_row _ _ 2 _ _ _ cq.box).trans rfl
      have fR : ∀ i, wr.frozen? ⟨w.heap.size + 1, i, none⟩ = false := fun i => frozen_of_row _ _ i _ _ cq.res
      have r0 : wr.cell? ⟨w.heap.size + 1, 0, none⟩ = some nil3 := (cell_of_row _ _ 0 _ _ _ cq.res).trans rfl
      have r1 : wr.cell? ⟨w.heap.size + 1, 1, none⟩ = some nil3 := (cell_of_row _ _ 1 _ _ _ cq.res).trans rfl
      have r2 : wr.cell? ⟨w.heap.size + 1, 2, none⟩ = some nil3 := (cell_of_row _ _ 2 _ _ _ cq.res).trans rfl
      obtain ⟨xm, ym, eM, _⟩ := cq.ta.ms
      obtain ⟨xb, yb, eb, _⟩ := cq.ta.bs
      obtain ⟨xr, yr, er, _⟩ := cq.ta.rs
      have HF := hide (cq_fin cq)
      have HK := hide ek
      clear cq hbuf1 hreg1 ek
      rw [eM] at n0 HF
      rw [eb] at n1 HF
      rw [er] at n2 HF
      go_wp2
      refine bodyPost_ret (v := .agg #[.slice xm zs.length ym, .slice xb k yb, .slice xr k yr]) (by simp [results, Try.results50, go_sem, r0, r1, r2]) rfl ⟨_, _, _, vb, vr, tag, rfl, by rw [← HK.out]; exact HF.out.1, HF.out.2⟩

end Go.Proofs.Ytcocobmanlmjdaa
