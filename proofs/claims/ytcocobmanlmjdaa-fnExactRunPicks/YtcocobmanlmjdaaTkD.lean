/- impl.tsoCopy (written by mkTkD.py) -/
import Derived.Test.YtcocobmanlmjdaaTkC
namespace Go.Proofs.Ytcocobmanlmjdaa
open Go.RowKit
set_option linter.unusedVariables false
set_option linter.unusedSimpArgs false

theorem heap_b {w w' : World} {g : Nat} {x : Obj} (h : w.heap[g]? = some x) (hb : Below w.heap.size w w') : w'.heap[g]? = some x := (hb.block g (lt_of_block h)).trans h
theorem own_one {w : World} {base : Nat} {T : TypeId} {m n : Nat} {v : Value} {xs : List Value} (h : w.ownsRow base T m v n xs) : v.oneCell' = true := by
  rcases h.2 with ⟨h', _⟩ | ⟨g, cap, cur, h', _⟩ <;> rw [h'] <;> rfl
theorem own_form {w : World} {base : Nat} {T : TypeId} {m n : Nat} {v : Value} {xs : List Value} (h : w.ownsRow base T m v n xs) : ∃ a c, v = .slice a n c := by
  rcases h.2 with ⟨h', hn⟩ | ⟨g, cap, cur, h', _⟩
  · exact ⟨none, 0, by rw [hn]; exact h'⟩
  · exact ⟨_, _, h'⟩
theorem infoIs : (Try.prog.info? 33).map (fun i => (i.zero, i.size, i.bytes)) = some (some (.slice none 0 0), 1, 24) := by kernel_rfl

/-- a copy: rows of its own, those of the buffers may be appended to -/
structure Tc (w : World) (base : Nat) (mv bv rv : Value) (zs : List Int) (C : Nat) (L : Nat → Nat) (F : Nat → Nat → Nat → Int) (R : Nat) (Z : Nat → List Int) (vb vr : Nat → Value) (tag : Nat → Nat) : Prop where
  ta : Ta w base mv bv rv zs C L F R Z vb vr tag
  bo : ∀ c, c < C → Orow w base 103 2 (vb c) (L c) (L c) (F c)
  tc : ∀ c, c < C → ∀ g, (vb c).ownBlock = some g → tag g = 3 + 2 * c
theorem Tc.below {w w' : World} {base : Nat} {mv bv rv : Value} {zs : List Int} {C : Nat} {L : Nat → Nat} {F : Nat → Nat → Nat → Int} {R : Nat} {Z : Nat → List Int} {vb vr : Nat → Value} {tag : Nat → Nat} (h : Tc w base mv bv rv zs C L F R Z vb vr tag) (hb : Below w.heap.size w w') : Tc w' base mv bv rv zs C L F R Z vb vr tag := ⟨h.ta.below hb, fun c hc => (h.bo c hc).below hb, h.tc⟩

theorem cq_start {w W w1 : World} {m a0 a1 a2 : Value} {zs : List Int} {L : Nat → Nat} {F : Nat → Nat → Nat → Int} {Z : Nat → List Int} (hW : W.heap.size = w.heap.size + 1 + 1) (hb0 : Below w.heap.size w W) (hA : W.heap[w.heap.size]? = some (.cells #[a0, a1, a2] 37 (0, 0))) (hN : W.heap[w.heap.size + 1]? = some (.cells #[nil3, nil3, nil3] 37 (0, 0))) (ho : Ow w1 W.heap.size m zs) (hb : Below W.heap.size W w1) :
    Cq w (w1.alloc (.cells #[m, nil3, nil3] 37)) w1.heap.size a0 a1 a2 m nil3 nil3 zs 0 0 L F Z (fun _ => undef) (fun _ => undef) (fun g => if g = w1.heap.size then 100 else 0) := by
  have hA1 : Below w1.heap.size w1 (w1.alloc (.cells #[m, nil3, nil3] 37)) := (Below.refl _ _).alloc (Nat.le_refl _) _
  have hB1 := hb0.trans (hb.mono hb0.size)
  have hs := hb.size
  have ho2 : Ow (w1.alloc (.cells #[m, nil3, nil3] 37)) (w.heap.size + 1 + 1) m zs := by rw [← hW]; exact ho.below hA1
  refine ⟨hB1.trans (hA1.mono hB1.size), heap_b (heap_b hA hb) hA1, heap_b (heap_b hN hb) hA1, heap_alloc_new _ _, ⟨ho2.sl, ?_, ⟨none, 0, rfl, fun h => by omega⟩, fun g off n cap e h => by omega, ⟨none, 0, rfl, fun h => by omega⟩, fun g off n cap e h => by omega, fun c hc => by omega, fun c hc => by omega, fun c hc => by omega, fun c hc => by omega⟩, nil_own _ _ _ _, nil_own _ _ _ _, fun c hc => by omega, fun g e => absurd e (by simp [Value.ownBlock]), fun g e => absurd e (by simp [Value.ownBlock]), if_pos rfl, fun c hc => by omega, by omega⟩
  have := Bk.of_own (t := 0) (tag := fun g => if g = w1.heap.size then 100 else 0) ho2 (fun g e => if_neg (by have := World.ownsRow.lt ho g e; omega))
  rwa [Nat.mul_one] at this

theorem cq_fin {w wr : World} {NB : Nat} {a0 a1 a2 m b r : Value} {zs : List Int} {k q : Nat} {L : Nat → Nat} {F : Nat → Nat → Nat → Int} {Z : Nat → List Int} {vb vr : Nat → Value} {tag : Nat → Nat} (h : Cq w wr NB a0 a1 a2 m b r zs k q L F Z vb vr tag) :
    Tc (((wr.setCell ⟨w.heap.size + 1, 0, none⟩ m).setCell ⟨w.heap.size + 1, 1, none⟩ b).setCell ⟨w.heap.size + 1, 2, none⟩ r) w.heap.size m b r zs k L F q Z vb vr tag ∧ Below w.heap.size w (((wr.setCell ⟨w.heap.size + 1, 0, none⟩ m).setCell ⟨w.heap.size + 1, 1, none⟩ b).setCell ⟨w.heap.size + 1, 2, none⟩ r) := by
  have hg : ∀ (V : World) (i : Nat) (x : Value), V.grownBy (V.setCell ⟨w.heap.size + 1, i, none⟩ x) (some (w.heap.size + 1)) := fun V i x => grown_set V _ i x
  have ht := ((h.ta.grown (hg wr 0 m) (fun g e => by simp only [Option.some.injEq] at e; omega)).grown (hg _ 1 b) (fun g e => by simp only [Option.some.injEq] at e; omega)).grown (hg _ 2 r) (fun g e => by simp only [Option.some.injEq] at e; omega)
  refine ⟨⟨ht.mono (by omega), fun c hc => ?_, h.tc⟩, ((h.bel.setCell (by show _ ≤ w.heap.size + 1; omega) _).setCell (by show _ ≤ w.heap.size + 1; omega) _).setCell (by show _ ≤ w.heap.size + 1; omega) _⟩
  have hne : ∀ g, (vb c).ownBlock = some g → some (w.heap.size + 1) ≠ some g := fun g e q => by simp only [Option.some.injEq] at q; have := World.ownsRow.lt (h.bo c hc) g e; omega
  exact own_base (own_kept (own_kept (own_kept (h.bo c hc) (hg wr 0 m) hne) (hg _ 1 b) hne) (hg _ 2 r) hne) (by omega)

set_option maxHeartbeats 8000000 in
set_option maxRecDepth 20000 in
theorem tsoCopy_any (mv bv rv : Value) (zs : List Int) (C : Nat) (L : Nat → Nat) (F : Nat → Nat → Nat → Int) (Z : Nat → List Int) (w : World) (h : Tv w mv bv rv zs C L F C Z) (hz : zs.length ≤ 1000) (hC : 0 < C ∧ C ≤ 30) (hL : ∀ c, c < C → L c ≤ 1000) (hZ : ∀ c, c < C → (Z c).length ≤ 1000) :
    Calls Try.prog 57 #[.agg #[mv, bv, rv]] w fun e w' => ∃ m b r vb vr tag, e = .returned (.agg #[m, b, r]) ∧ Tc w' w.heap.size m b r zs C L F C Z vb vr tag ∧ Below w.heap.size w w' := by
  obtain ⟨i0, hi, hz0, hz1, hz2⟩ := info_parts infoStores
  obtain ⟨j0, hj, jz0, jz1, jz2⟩ := info_parts infoIs
  have HT := hide h
  obtain ⟨⟨ma, mc, rfl, _⟩, ⟨ba, bc, rfl, hbuf0⟩, ⟨ra, rc, rfl, hreg0⟩⟩ := h
  obtain ⟨bb, bo, rfl, hbuf1⟩ := hbuf0 (by omega)
  obtain ⟨rb, ro, rfl, hreg1⟩ := hreg0 (by omega)
  clear hbuf0 hreg0
  have hrbl : rb < w.heap.size := by
    obtain ⟨ja, jc, y, _⟩ := hreg1 0 (by omega)
    have := World.block_lt_of_cell? _ _ y
    simpa using this
  obtain ⟨W, hW⟩ : ∃ W, (w.alloc (.cells #[.slice ma zs.length mc, .slice (some ⟨bb, bo, none⟩) C bc, .slice (some ⟨rb, ro, none⟩) C rc] 37)).alloc (.cells #[nil3, nil3, nil3] 37) = W := ⟨_, rfl⟩
  have hWs : W.heap.size = w.heap.size + 1 + 1 := by rw [← hW]; simp
  have hb0 : Below w.heap.size w W := by rw [← hW]; exact ((Below.refl _ _).alloc (Nat.le_refl _) _).alloc (by simp) _
  have hA : W.heap[w.heap.size]? = some (.cells #[.slice ma zs.length mc, .slice (some ⟨bb, bo, none⟩) C bc, .slice (some ⟨rb, ro, none⟩) C rc] 37 (0, 0)) := by rw [← hW, Below.heap_alloc _ _ _ (by simp)]; exact heap_alloc_new _ _
  have hN : W.heap[w.heap.size + 1]? = some (.cells #[nil3, nil3, nil3] 37 (0, 0)) := by
    rw [← hW]
    have := heap_alloc_new (w.alloc (.cells #[.slice ma zs.length mc, .slice (some ⟨bb, bo, none⟩) C bc, .slice (some ⟨rb, ro, none⟩) C rc] 37)) (.cells #[nil3, nil3, nil3] 37)
    simpa only [World.size_alloc] using this
  have hcl := fun W h => cloneI_any (.slice ma zs.length mc) zs W h hz
  have HE := hide (And.intro hWs (And.intro hb0 (And.intro hA hN)))
  subst hW
  clear hWs hb0 hA hN
  go_enter Try.func57, Try.ntmps57
  go_wp2_with fail
  refine (hcl _ (HT.out.mem.below HE.out.2.1)).mono ?_
  rintro e w1 ⟨m, rfl, ho1, hb1⟩
  have cq0 := cq_start (L := L) (F := F) (Z := Z) HE.out.1 HE.out.2.1 HE.out.2.2.1 HE.out.2.2.2 ho1 hb1
  have hmo := own_one ho1
  have hm1 : m.cells = #[m] := by
    rcases ho1.2 with ⟨h', _⟩ | ⟨_, _, _, h', _⟩ <;> rw [h'] <;> rfl
  clear HE hb1 hcl
  obtain ⟨ma', mc', hmf⟩ : ∃ a c, m = .slice a zs.length c := by
    rcases ho1.2 with ⟨h', hn⟩ | ⟨_, _, _, h', _⟩
    · exact ⟨none, 0, by rw [hn]; exact h'⟩
    · exact ⟨_, _, h'⟩
  subst hmf
  clear hm1 hmo ho1
  have x1 : (w1.alloc (.cells #[.slice ma' zs.length mc', .slice none 0 0, .slice none 0 0] 37)).cell? ⟨w.heap.size, 1, none⟩ = some (.slice (some ⟨bb, bo, none⟩) C bc) := (cell_of_row _ _ 1 _ _ _ cq0.arg).trans rfl
  go_wp2
  obtain ⟨NB, hNB⟩ : ∃ NB, w1.heap.size = NB := ⟨_, rfl⟩
  obtain ⟨M, hM⟩ : ∃ M, Value.slice ma' zs.length mc' = M := ⟨_, rfl⟩
  rw [hM, hNB] at cq0
  rw [hM, hNB]
  go_loopw [13] (fun i wr => ∃ (k : Nat) (b r : Value) (vb vr : Nat → Value) (tag : Nat → Nat), k ≤ C ∧ i = .int .i64 k ∧ Hid (Cq w wr NB (.slice ma zs.length mc) (.slice (some ⟨bb, bo, none⟩) C bc) (.slice (some ⟨rb, ro, none⟩) C rc) M b r zs k k L F Z vb vr tag)) (fun i _ => C - (intOf i).toNat)
  case atStart => exact ⟨0, nil3, nil3, _, _, _, by omega, rfl, hide cq0⟩
  case round =>
    clear cq0 x1
    obtain ⟨k, b, r, vb, vr, tag, hk, rfl, CQ⟩ := hrel
    have cq := CQ.out
    clear CQ
    by_cases hlt : k < C
    · obtain ⟨ia, ic, q0', hbuf⟩ := hbuf1 k hlt
      obtain ⟨ja, jc, y0', hreg⟩ := hreg1 k hlt
      have q0 : wr.cell? ⟨bb, bo + k, none⟩ = some (.slice ia (L k) ic) := Below.keep cq.bel _ _ q0'
      have n1 : wr.cell? ⟨NB, 1, none⟩ = some b := (cell_of_row _ _ 1 _ _ _ cq.box).trans rfl
      have hLk := hL k hlt
      have hZk := hZ k hlt
      have hk0 : (0 : Int) ≤ (k : Int) := by omega
      have hk1 : (k : Int) < (C : Int) := by omega
      clear hbuf1 hreg1 q0'
      go_wp2
      refine wp_region_but (z := 7) (S := fun W => W.cell? ⟨NB, 1, none⟩ = some b) (by kernel_rfl) n1 (fun hHeld => ?_)
      refine wpAnyK_take (i := 0) (v := .pointer (some ⟨NB, 1, none⟩)) rfl (by kernel_rfl) (by kernel_rfl) (by kernel_rfl) (by kernel_rfl) (fun _ _ _ h => h) (Or.inl ⟨by rfl, fun w' hSw => ?_⟩) (by assumption) ?_
      · (try dsimp only at hSw); (try obtain ⟨hS1, hS2, hS3⟩ := hSw); go_simp
      try simp only [Act.put, List.getElem_toArray, List.getElem_cons_zero, List.getElem_cons_succ, List.setIfInBounds_toArray, List.set_cons_zero, List.set_cons_succ]
      refine wpAnyK_take (i := 1) (v := b) rfl (by kernel_rfl) (by kernel_rfl) (by kernel_rfl) (by kernel_rfl) (fun _ _ _ h => h) (Or.inl ⟨by rfl, fun w' hSw => ?_⟩) (by assumption) ?_
      · (try dsimp only at hSw); (try obtain ⟨hS1, hS2, hS3⟩ := hSw); go_simp
      try simp only [Act.put, List.getElem_toArray, List.getElem_cons_zero, List.getElem_cons_succ, List.setIfInBounds_toArray, List.set_cons_zero, List.set_cons_succ]
      refine wpAnyK_take (i := 2) (v := .slice ia (L k) ic) rfl (by kernel_rfl) (by kernel_rfl) (by kernel_rfl) (by kernel_rfl) (fun _ _ _ h => h) (Or.inl ⟨by rfl, fun w' hSw => ?_⟩) (by assumption) ?_
      · (try dsimp only at hSw); (try obtain ⟨hS1, hS2, hS3⟩ := hSw); go_simp
      try simp only [Act.put, List.getElem_toArray, List.getElem_cons_zero, List.getElem_cons_succ, List.setIfInBounds_toArray, List.set_cons_zero, List.set_cons_succ]
      refine wpAnyK_one (i := 3) (by kernel_rfl) rfl (fun K hK => ?_)
      go_simp
      refine (cloneS_any (.slice ia (L k) ic) (L k) (F k) _ (hbuf.below cq.bel.drew) (by omega)).mono ?_
      rintro e w1 ⟨u, rfl, hu, hb1⟩
      obtain ⟨ua, uc, rfl⟩ := own_form hu
      have hb1' : Below wr.heap.size wr w1 := ((Below.refl _ _).drew).trans (hb1.mono (Nat.le_refl _))
      refine hK.out _ _ (fun _ => keepc hb1' n1) (fun hH => ?_)
      clear hK K hHeld
      have hHeld := hH (by decide)
      clear hH
      try simp only [Act.put, List.getElem_toArray, List.getElem_cons_zero, List.getElem_cons_succ, List.setIfInBounds_toArray, List.set_cons_zero, List.set_cons_succ]
      refine wpAnyK_one (i := 4) (by kernel_rfl) rfl (fun K hK => ?_)
      go_simp
      have hA : Below w1.heap.size w1 (w1.alloc (.cells #[.slice ua (L k) uc] 90)) := (Below.refl _ _).alloc (Nat.le_refl _) _
      have hb2 := hb1'.trans (hA.mono hb1'.size)
      refine hK.out _ _ (fun _ => keepc hb2 n1) (fun hH => ?_)
      clear hK K hHeld
      have hHeld := hH (by decide)
      clear hH
      try simp only [Act.put, List.getElem_toArray, List.getElem_cons_zero, List.getElem_cons_succ, List.setIfInBounds_toArray, List.set_cons_zero, List.set_cons_succ]
      refine wpAnyK_one (i := 5) (by kernel_rfl) rfl (fun K hK => ?_)
      refine step_append_lies _ (by rfl) _ _ 34 (by rfl) (w.heap.size + 1 + 1) 90 i0 _ 1 24 Try.underlying34 hi hz0 hz1 hz2 rfl (by omega) b k ((List.range k).map vb) (by rfl) (own_kept cq.ob (grown_any (row := none) hb2) (fun _ _ q => by cases q)) ⟨w1.heap.size, 0, none⟩ 1 1 [.slice ua (L k) uc] (by rfl) (by rfl) (World.news_of_block (cs := #[.slice ua (L k) uc]) (t := 90) (fr := (0, 0)) (heap_alloc_new _ _)) (by intro x hx; simp at hx; subst hx; exact own_one hu) (by omega) (by unfold maxLen; omega) (by omega) (by have := hb2.size; have := cq.lo; have := lt_of_block cq.box; omega) _ rfl ?_
      intro g cap w3 hown hgrow hat hlt
      have n3 : w3.cell? ⟨NB, 1, none⟩ = some b := (hgrow.cell_far ⟨NB, 1, none⟩ (by have := hb2.size; have := lt_of_block cq.box; show NB < _; omega) (fun q => by have := cq.tb NB q.symm; rw [cq.tn] at this; omega)).trans (keepc hb2 n1)
      have f3 : w3.frozen? ⟨NB, 1, none⟩ = false := (hgrow.frozen_far ⟨NB, 1, none⟩ (by have := hb2.size; have := lt_of_block cq.box; show NB < _; omega) (fun q => by have := cq.tb NB q.symm; rw [cq.tn] at this; omega)).trans (frozen_of_row _ _ 1 _ _ (heap_b cq.box hb2))
      obtain ⟨tag1, cq1⟩ := cq.stepB (by omega) (by omega) hb2 (hu.below hA) hown hgrow hat rfl
      refine hK.out _ _ (fun _ => n3) (fun hH => ?_)
      clear hK K hHeld hown hgrow hat hA hb1 hb1' hb2 hu
      have hHeld := hH (by decide)
      clear hH
      try simp only [Act.put, List.getElem_toArray, List.getElem_cons_zero, List.getElem_cons_succ, List.setIfInBounds_toArray, List.set_cons_zero, List.set_cons_succ]
      refine wpAnyK_take (i := 6) (v := .pointer (some ⟨NB, 1, none⟩)) rfl (by kernel_rfl) (by kernel_rfl) (by kernel_rfl) (by kernel_rfl) (fun _ _ _ h => h) (Or.inl ⟨by rfl, fun w' hSw => ?_⟩) (by assumption) ?_
      · (try dsimp only at hSw); (try obtain ⟨hS1, hS2, hS3⟩ := hSw); go_simp
      try simp only [Act.put, List.getElem_toArray, List.getElem_cons_zero, List.getElem_cons_succ, List.setIfInBounds_toArray, List.set_cons_zero, List.set_cons_succ]
      refine wpAnyK_one (i := 7) (by kernel_rfl) rfl (fun K hK => ?_)
      go_simp
      refine hK.out _ _ (fun h => absurd rfl h) (fun _ => ?_)
      clear hK K n3 f3
      try simp only [Act.put, List.getElem_toArray, List.getElem_cons_zero, List.getElem_cons_succ, List.setIfInBounds_toArray, List.set_cons_zero, List.set_cons_succ]
      refine wpAnyK_done (by kernel_rfl) ?_
      generalize hV : World.setCell _ _ _ = V at cq1 ⊢
      clear hV cq n1 q0
      have n2 : V.cell? ⟨NB, 2, none⟩ = some r := (cell_of_row _ _ 2 _ _ _ cq1.box).trans rfl
      have x2 : V.cell? ⟨w.heap.size, 2, none⟩ = some (.slice (some ⟨rb, ro, none⟩) C rc) := (cell_of_row _ _ 2 _ _ _ cq1.arg).trans rfl
      have y2 : V.cell? ⟨rb, ro + k, none⟩ = some (.slice ja (Z k).length jc) := Below.keep cq1.bel _ _ y0'
      clear y0'
      go_wp2
      refine wp_region_but (z := 11) (S := fun W => W.cell? ⟨NB, 2, none⟩ = some r ∧ W.cell? ⟨w.heap.size, 2, none⟩ = some (.slice (some ⟨rb, ro, none⟩) C rc) ∧ W.cell? ⟨rb, ro + k, none⟩ = some (.slice ja (Z k).length jc)) (by kernel_rfl) ⟨n2, x2, y2⟩ (fun hHeld => ?_)
      refine wpAnyK_take (i := 0) (v := .pointer (some ⟨NB, 2, none⟩)) rfl (by kernel_rfl) (by kernel_rfl) (by kernel_rfl) (by kernel_rfl) (fun _ _ _ h => h) (Or.inl ⟨by rfl, fun w' hSw => ?_⟩) (by assumption) ?_
      · (try dsimp only at hSw); (try obtain ⟨hS1, hS2, hS3⟩ := hSw); go_simp
      try simp only [Act.put, List.getElem_toArray, List.getElem_cons_zero, List.getElem_cons_succ, List.setIfInBounds_toArray, List.set_cons_zero, List.set_cons_succ]
      refine wpAnyK_take (i := 1) (v := r) rfl (by kernel_rfl) (by kernel_rfl) (by kernel_rfl) (by kernel_rfl) (fun _ _ _ h => h) (Or.inl ⟨by rfl, fun w' hSw => ?_⟩) (by assumption) ?_
      · (try dsimp only at hSw); (try obtain ⟨hS1, hS2, hS3⟩ := hSw); go_simp
      try simp only [Act.put, List.getElem_toArray, List.getElem_cons_zero, List.getElem_cons_succ, List.setIfInBounds_toArray, List.set_cons_zero, List.set_cons_succ]
      refine wpAnyK_take (i := 2) (v := .pointer (some ⟨w.heap.size, 2, none⟩)) rfl (by kernel_rfl) (by kernel_rfl) (by kernel_rfl) (by kernel_rfl) (fun _ _ _ h => h) (Or.inl ⟨by rfl, fun w' hSw => ?_⟩) (by assumption) ?_
      · (try dsimp only at hSw); (try obtain ⟨hS1, hS2, hS3⟩ := hSw); go_simp
      try simp only [Act.put, List.getElem_toArray, List.getElem_cons_zero, List.getElem_cons_succ, List.setIfInBounds_toArray, List.set_cons_zero, List.set_cons_succ]
      refine wpAnyK_take (i := 3) (v := .slice (some ⟨rb, ro, none⟩) C rc) rfl (by kernel_rfl) (by kernel_rfl) (by kernel_rfl) (by kernel_rfl) (fun _ _ _ h => h) (Or.inl ⟨by rfl, fun w' hSw => ?_⟩) (by assumption) ?_
      · (try dsimp only at hSw); (try obtain ⟨hS1, hS2, hS3⟩ := hSw); go_simp
      try simp only [Act.put, List.getElem_toArray, List.getElem_cons_zero, List.getElem_cons_succ, List.setIfInBounds_toArray, List.set_cons_zero, List.set_cons_succ]
      refine wpAnyK_take (i := 4) (v := .int .i64 k) rfl (by kernel_rfl) (by kernel_rfl) (by kernel_rfl) (by kernel_rfl) (fun _ _ _ h => h) (Or.inl ⟨by rfl, fun w' hSw => ?_⟩) (by assumption) ?_
      · (try dsimp only at hSw); (try obtain ⟨hS1, hS2, hS3⟩ := hSw); go_simp
      try simp only [Act.put, List.getElem_toArray, List.getElem_cons_zero, List.getElem_cons_succ, List.setIfInBounds_toArray, List.set_cons_zero, List.set_cons_succ]
      refine wpAnyK_take (i := 5) (v := .pointer (some ⟨rb, ro + k, none⟩)) rfl (by kernel_rfl) (by kernel_rfl) (by kernel_rfl) (by kernel_rfl) (fun _ _ _ h => h) (Or.inl ⟨by rfl, fun w' hSw => ?_⟩) (by assumption) ?_
      · (try dsimp only at hSw); (try obtain ⟨hS1, hS2, hS3⟩ := hSw); go_simp
      try simp only [Act.put, List.getElem_toArray, List.getElem_cons_zero, List.getElem_cons_succ, List.setIfInBounds_toArray, List.set_cons_zero, List.set_cons_succ]
      refine wpAnyK_take (i := 6) (v := .slice ja (Z k).length jc) rfl (by kernel_rfl) (by kernel_rfl) (by kernel_rfl) (by kernel_rfl) (fun _ _ _ h => h) (Or.inl ⟨by rfl, fun w' hSw => ?_⟩) (by assumption) ?_
      · (try dsimp only at hSw); (try obtain ⟨hS1, hS2, hS3⟩ := hSw); go_simp
      try simp only [Act.put, List.getElem_toArray, List.getElem_cons_zero, List.getElem_cons_succ, List.setIfInBounds_toArray, List.set_cons_zero, List.set_cons_succ]
      refine wpAnyK_one (i := 7) (by kernel_rfl) rfl (fun K hK => ?_)
      go_simp
      refine (cloneI_any (.slice ja (Z k).length jc) (Z k) _ (hreg.below cq1.bel.drew) (by omega)).mono ?_
      rintro e w1 ⟨u2, rfl, hu, hb1⟩
      obtain ⟨va, vc, rfl⟩ := own_form hu
      have hb1' : Below V.heap.size V w1 := ((Below.refl _ _).drew).trans (hb1.mono (Nat.le_refl _))
      refine hK.out _ _ (fun _ => ⟨keepc hb1' n2, keepc hb1' x2, keepc hb1' y2⟩) (fun hH => ?_)
      clear hK K hHeld
      have hHeld := hH (by decide)
      clear hH
      try simp only [Act.put, List.getElem_toArray, List.getElem_cons_zero, List.getElem_cons_succ, List.setIfInBounds_toArray, List.set_cons_zero, List.set_cons_succ]
      refine wpAnyK_one (i := 8) (by kernel_rfl) rfl (fun K hK => ?_)
      go_simp
      have hA : Below w1.heap.size w1 (w1.alloc (.cells #[.slice va (Z k).length vc] 33)) := (Below.refl _ _).alloc (Nat.le_refl _) _
      have hb2 := hb1'.trans (hA.mono hb1'.size)
      refine hK.out _ _ (fun _ => ⟨keepc hb2 n2, keepc hb2 x2, keepc hb2 y2⟩) (fun hH => ?_)
      clear hK K hHeld
      have hHeld := hH (by decide)
      clear hH
      try simp only [Act.put, List.getElem_toArray, List.getElem_cons_zero, List.getElem_cons_succ, List.setIfInBounds_toArray, List.set_cons_zero, List.set_cons_succ]
      refine wpAnyK_one (i := 9) (by kernel_rfl) rfl (fun K hK => ?_)
      have hfar : ∀ B : Nat, B < V.heap.size → tag1 B ≠ 2 → r.ownBlock ≠ some B := fun B _ h1 e => h1 (cq1.tr B e)
      refine step_append_lies _ (by rfl) _ _ 35 (by rfl) (w.heap.size + 1 + 1) 33 j0 _ 1 24 Try.underlying35 hj jz0 jz1 jz2 rfl (by omega) r k ((List.range k).map vr) (by rfl) (own_kept cq1.or (grown_any (row := none) hb2) (fun _ _ q => by cases q)) ⟨w1.heap.size, 0, none⟩ 1 1 [.slice va (Z k).length vc] (by rfl) (by rfl) (World.news_of_block (cs := #[.slice va (Z k).length vc]) (t := 33) (fr := (0, 0)) (heap_alloc_new _ _)) (by intro x hx; simp at hx; subst hx; exact own_one hu) (by omega) (by unfold maxLen; omega) (by omega) (by have := hb2.size; have := cq1.lo; have := lt_of_block cq1.box; omega) _ rfl ?_
      intro g2 cap2 w3 hown hgrow hat hlt
      have hrl : ∀ x, r.ownBlock = some x → w.heap.size + 1 + 1 ≤ x := fun x e => (World.ownsRow.lt cq1.or x e).1
      have hNl := lt_of_block cq1.box
      have hs2 := hb2.size
      have n3 : w3.cell? ⟨NB, 2, none⟩ = some r := (hgrow.cell_far ⟨NB, 2, none⟩ (by show NB < _; omega) (fun q => by have := cq1.tr NB q.symm; rw [cq1.tn] at this; omega)).trans (keepc hb2 n2)
      have f3 : w3.frozen? ⟨NB, 2, none⟩ = false := (hgrow.frozen_far ⟨NB, 2, none⟩ (by show NB < _; omega) (fun q => by have := cq1.tr NB q.symm; rw [cq1.tn] at this; omega)).trans (frozen_of_row _ _ 2 _ _ (heap_b cq1.box hb2))
      have x3 : w3.cell? ⟨w.heap.size, 2, none⟩ = some (.slice (some ⟨rb, ro, none⟩) C rc) := (hgrow.cell_far ⟨w.heap.size, 2, none⟩ (by have := lt_of_block cq1.arg; show w.heap.size < _; omega) (fun q => by have := hrl _ q.symm; simp at this; omega)).trans (keepc hb2 x2)
      have y3 : w3.cell? ⟨rb, ro + k, none⟩ = some (.slice ja (Z k).length jc) := (hgrow.cell_far ⟨rb, ro + k, none⟩ (by have := World.block_lt_of_cell? _ _ y2; show rb < _; simp at this; omega) (fun q => by have := hrl _ q.symm; have := hrbl; simp at *; omega)).trans (keepc hb2 y2)
      obtain ⟨tag2, cq2⟩ := cq1.stepR (by omega) (by omega) hb2 (hu.below hA) hown hgrow hat rfl
      refine hK.out _ _ (fun _ => ⟨n3, x3, y3⟩) (fun hH => ?_)
      clear hK K hHeld hown hgrow hat hA hb1 hb1' hb2 hu x3 y3 hrl hfar hNl hs2
      have hHeld := hH (by decide)
      clear hH
      try simp only [Act.put, List.getElem_toArray, List.getElem_cons_zero, List.getElem_cons_succ, List.setIfInBounds_toArray, List.set_cons_zero, List.set_cons_succ]
      refine wpAnyK_take (i := 10) (v := .pointer (some ⟨NB, 2, none⟩)) rfl (by kernel_rfl) (by kernel_rfl) (by kernel_rfl) (by kernel_rfl) (fun _ _ _ h => h) (Or.inl ⟨by rfl, fun w' hSw => ?_⟩) (by assumption) ?_
      · (try dsimp only at hSw); (try obtain ⟨hS1, hS2, hS3⟩ := hSw); go_simp
      try simp only [Act.put, List.getElem_toArray, List.getElem_cons_zero, List.getElem_cons_succ, List.setIfInBounds_toArray, List.set_cons_zero, List.set_cons_succ]
      refine wpAnyK_one (i := 11) (by kernel_rfl) rfl (fun K hK => ?_)
      go_simp
      refine hK.out _ _ (fun h => absurd rfl h) (fun _ => ?_)
      clear hK K n3 f3
      try simp only [Act.put, List.getElem_toArray, List.getElem_cons_zero, List.getElem_cons_succ, List.setIfInBounds_toArray, List.set_cons_zero, List.set_cons_succ]
      refine wpAnyK_done (by kernel_rfl) ?_
      have HQ := hide cq2
      clear cq1 cq2 n2 x2 y2
      go_wp2
      go_roundw
      case rel => exact ⟨k + 1, _, _, _, _, _, by omega, by go_num, HQ⟩
      case measure => simp [intOf]; omega
    · have ek : k = C := by omega
      have n0 : wr.cell? ⟨NB, 0, none⟩ = some M := (cell_of_row _ _ 0 _ _ _ cq.box).trans rfl
      have n1 : wr.cell? ⟨NB, 1, none⟩ = some b := (cell_of_row _ _ 1 _ _ _ cq.box).trans rfl
      have n2 : wr.cell? ⟨NB, 2, none⟩ = some r := (cell_of_row _ _ 2 _ _ _ cq.box).trans rfl
      have fR : ∀ i, wr.frozen? ⟨w.heap.size + 1, i, none⟩ = false := fun i => frozen_of_row _ _ i _ _ cq.res
      have r0 : wr.cell? ⟨w.heap.size + 1, 0, none⟩ = some nil3 := (cell_of_row _ _ 0 _ _ _ cq.res).trans rfl
      have r1 : wr.cell? ⟨w.heap.size + 1, 1, none⟩ = some nil3 := (cell_of_row _ _ 1 _ _ _ cq.res).trans rfl
      have r2 : wr.cell? ⟨w.heap.size + 1, 2, none⟩ = some nil3 := (cell_of_row _ _ 2 _ _ _ cq.res).trans rfl
      obtain ⟨xm, ym, eM, _⟩ := cq.ta.ms
      obtain ⟨xb, yb, eb, _⟩ := cq.ta.bs
      obtain ⟨xr, yr, er, _⟩ := cq.ta.rs
      have HF := hide (cq_fin cq)
      have HK := hide ek
      clear cq hbuf1 hreg1 ek
      rw [eM] at n0 HF
      rw [eb] at n1 HF
      rw [er] at n2 HF
      go_wp2
      refine bodyPost_ret (v := .agg #[.slice xm zs.length ym, .slice xb k yb, .slice xr k yr]) (by simp [results, Try.results57, go_sem, r0, r1, r2]) rfl ⟨_, _, _, vb, vr, tag, rfl, by rw [← HK.out]; exact HF.out.1, HF.out.2⟩

end Go.Proofs.Ytcocobmanlmjdaa
