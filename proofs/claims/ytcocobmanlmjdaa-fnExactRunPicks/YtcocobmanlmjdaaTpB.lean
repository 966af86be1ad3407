/- TsoNew of both sides (written by mkTnB.py) -/
import Derived.Test.YtcocobmanlmjdaaTpA
namespace Go.Proofs.Ytcocobmanlmjdaa
open Go.RowKit
set_option linter.unusedVariables false
set_option linter.unusedSimpArgs false

def NPost (w : World) (zs : List Int) (C : Nat) (ok : Bool) (e : Ending) (w' : World) : Prop :=
  ∃ m b r vr tag, e = .returned (.tuple #[.agg #[m, b, r], .bool ok]) ∧ Ta w' w.heap.size m b r zs C z0L z0F C z0Z z0V vr tag ∧ Below w.heap.size w w'
theorem NPost.no {w w' : World} (hb : Below w.heap.size w w') : NPost w [] 0 false (.returned (.tuple #[.agg #[.slice none 0 0, .slice none 0 0, .slice none 0 0], .bool false])) w' :=
  ⟨_, _, _, z0V, fun _ => 0, rfl, ⟨⟨none, 0, rfl, fun h => absurd h (by simp)⟩, fun g off n cap e hk => absurd hk (by simp), ⟨none, 0, rfl, fun h => absurd h (by omega)⟩, fun g off n cap e hk => absurd hk (by omega), ⟨none, 0, rfl, fun h => absurd h (by omega)⟩, fun g off n cap e hk => absurd hk (by omega),
    fun c hc => absurd hc (by omega), fun c hc => absurd hc (by omega), fun c hc => absurd hc (by omega), fun c hc => absurd hc (by omega)⟩, hb⟩
theorem row3f {w : World} {B : Nat} {T : TypeId} {v0 v1 v2 : Value} (h : w.heap[B]? = some (.cells #[v0, v1, v2] T (0, 0))) : (∀ i, w.frozen? ⟨B, i, none⟩ = false) ∧ w.cell? ⟨B, 0, none⟩ = some v0 ∧ w.cell? ⟨B, 1, none⟩ = some v1 ∧ w.cell? ⟨B, 2, none⟩ = some v2 :=
  ⟨fun i => frozen_of_row _ _ i _ _ h, (cell_of_row _ _ _ _ _ _ h).trans rfl, (cell_of_row _ _ _ _ _ _ h).trans rfl, (cell_of_row _ _ _ _ _ _ h).trans rfl⟩
theorem make_mem (W : World) : (Instr.makeSlice 33 (.int .i64 3) (.int .i64 3)).run Try.prog W = .ok (.slice (some ⟨W.heap.size, 0, none⟩) 3 3) (W.alloc (.cells #[.int .i64 0, .int .i64 0, .int .i64 0] 2)) := by
  obtain ⟨i0, hi, hz0, hz1, hz2⟩ := info_parts infoI
  have h := run_make (P := Try.prog) (w := W) 33 2 i0 (.int .i64 0) Try.underlying33 hi hz0 .i64 .i64 3 3 (by omega) (by omega) (by rw [hz2]; omega) (by omega)
  rw [hz1] at h
  have e : madeCells (Value.int .i64 0).cells (Int.toNat 3 * 1) = #[.int .i64 0, .int .i64 0, .int .i64 0] := by kernel_rfl
  rw [e] at h
  exact h
theorem make_reg (W : World) : (Instr.makeSlice 33 (.int .i64 2) (.int .i64 2)).run Try.prog W = .ok (.slice (some ⟨W.heap.size, 0, none⟩) 2 2) (W.alloc (.cells #[.int .i64 0, .int .i64 0] 2)) := by
  obtain ⟨i0, hi, hz0, hz1, hz2⟩ := info_parts infoI
  have h := run_make (P := Try.prog) (w := W) 33 2 i0 (.int .i64 0) Try.underlying33 hi hz0 .i64 .i64 2 2 (by omega) (by omega) (by rw [hz2]; omega) (by omega)
  rw [hz1] at h
  have e : madeCells (Value.int .i64 0).cells (Int.toNat 2 * 1) = #[.int .i64 0, .int .i64 0] := by kernel_rfl
  rw [e] at h
  exact h
theorem reg_own (W : World) : Ow (W.alloc (.cells #[.int .i64 0, .int .i64 0] 2)) W.heap.size (.slice (some ⟨W.heap.size, 0, none⟩) 2 2) [0, 0] :=
  ⟨rfl, .inr ⟨W.heap.size, 2, _, rfl, Nat.le_refl _, heap_alloc_new _ _, Nat.le_refl _, by unfold maxLen; omega, rfl, rfl⟩⟩
theorem Nq.fin {w wr : World} {NB : Nat} {m b r : Value} {C q : Nat} {vr : Nat → Value} {tag : Nat → Nat} (h : Nq w wr NB m b r C q vr tag) :
    Ta (((wr.setCell ⟨w.heap.size, 0, none⟩ m).setCell ⟨w.heap.size, 1, none⟩ b).setCell ⟨w.heap.size, 2, none⟩ r) w.heap.size m b r [0, 0, 0] C z0L z0F q z0Z z0V vr tag ∧ Below w.heap.size w (((wr.setCell ⟨w.heap.size, 0, none⟩ m).setCell ⟨w.heap.size, 1, none⟩ b).setCell ⟨w.heap.size, 2, none⟩ r) := by
  have hg := grown_trans (grown_trans (grown_set wr w.heap.size 0 m) (grown_set _ w.heap.size 1 b)) (grown_set _ w.heap.size 2 r)
  refine ⟨(h.ta.grown hg (fun g e => by simp at e; omega)).mono (by omega), ?_⟩
  have hle : w.heap.size ≤ w.heap.size := Nat.le_refl _
  iterate 3 (refine Below.setCell ?_ hle _)
  exact h.bel

theorem new_start {w V : World} {NB GM GB C : Nat} (hb : Below w.heap.size w V) (hres : V.heap[w.heap.size]? = some (.cells #[.slice none 0 0, .slice none 0 0, .slice none 0 0] 37 (0, 0)))
    (hbox : V.heap[NB]? = some (.cells #[.slice none 0 0, .slice none 0 0, .slice none 0 0] 37 (0, 0)))
    (hm : V.heap[GM]? = some (.cells #[.int .i64 0, .int .i64 0, .int .i64 0] 2 (0, 0))) (hbf : V.heap[GB]? = some (.cells (madeCells #[.slice none 0 0] C) 90 (0, 0)))
    (h : ((w.heap.size < NB ∧ w.heap.size < GM ∧ w.heap.size < GB) ∧ NB ≠ GM ∧ NB ≠ GB ∧ GM ≠ GB) ∧ C ≤ 4) :
    Nq w (((V.setCell ⟨NB, 0, none⟩ (.slice (some ⟨GM, 0, none⟩) 3 3)).setCell ⟨NB, 1, none⟩ (.slice (some ⟨GB, 0, none⟩) C C)).setCell ⟨NB, 2, none⟩ (.slice none 0 0)) NB (.slice (some ⟨GM, 0, none⟩) 3 3) (.slice (some ⟨GB, 0, none⟩) C C) (.slice none 0 0) C 0 z0V (fun g => if g = NB then 100 else if g = GM then 0 else 1) := by
  obtain ⟨⟨⟨h1, h2, h3⟩, n1, n2, n3⟩, hC⟩ := h
  have hle : w.heap.size ≤ NB := by omega
  refine Nq.start ?_ ?_ ?_ ?_ ?_ h1 h2 h3 n1 n2 n3 hC
  · iterate 3 (refine Below.setCell ?_ hle _)
    exact hb
  · iterate 3 (rw [heap_setCell_other _ _ _ _ (by simp; omega)])
    exact hres
  · rw [heap_setCell_same _ _ 2 _ _ _ (heap_setCell_same _ _ 1 _ _ _ (heap_setCell_same _ _ 0 _ _ _ hbox))]; rfl
  · iterate 3 (rw [heap_setCell_other _ _ _ _ (by simpa using (fun e => n1 e.symm))])
    exact hm
  · iterate 3 (rw [heap_setCell_other _ _ _ _ (by simpa using (fun e => n2 e.symm))])
    exact hbf

set_option maxHeartbeats 8000000 in
set_option maxRecDepth 20000 in
theorem implNewT_yes (C : Nat) (h1 : 1 ≤ C) (h3 : C ≤ 3) (w : World) : Calls Try.prog 52 #[.int .i64 C] w (NPost w [0, 0, 0] C true) := by
  obtain ⟨j0, hj, jz0, jz1, jz2⟩ := info_parts infoIs
  have hA := fun W => buffersOk_any (C : Int) W
  have e1 : inB (C : Int) 1 4 = true := by simp [inB]; omega
  rw [e1] at hA
  have hmk := make_bufs C (by omega)
  have hmm0 := make_mem
  have hA0 : Below w.heap.size w (w.alloc (.cells #[.slice none 0 0, .slice none 0 0, .slice none 0 0] 37)) := (Below.refl _ _).alloc (Nat.le_refl _) _
  have hr0 := heap_alloc_new w (.cells #[.slice none 0 0, .slice none 0 0, .slice none 0 0] 37)
  have hsz : (w.alloc (.cells #[.slice none 0 0, .slice none 0 0, .slice none 0 0] 37)).heap.size = w.heap.size + 1 := by simp
  have HX := hide (And.intro hA0 (And.intro hr0 hsz))
  have HC := hide (And.intro h1 h3)
  clear e1 hA0 hr0 hsz h1 h3
  go_enter Try.func52, Try.ntmps52
  go_wp2_with fail
  generalize (World.alloc _ _) = W at HX ⊢
  refine (hA W).mono ?_
  rintro e w1 ⟨rfl, rfl⟩
  clear hA
  go_wp2
  go_cut [4] (fun p wc => ∃ NB GM GB tag, p = .pointer (some ⟨NB, 0, none⟩) ∧ Hid (Nq w wc NB (.slice (some ⟨GM, 0, none⟩) 3 3) (.slice (some ⟨GB, 0, none⟩) C C) (.slice none 0 0) C 0 z0V tag))
  case first =>
    refine wp_region_held_drew (S := fun _ => True) (by kernel_rfl) trivial (fun hHeld => ?_)
    refine wpAnyH_take (i := 1) (v := .int .i64 C) rfl (by kernel_rfl) (by kernel_rfl) (by kernel_rfl) (fun _ _ _ h => h) (Or.inl ⟨by rfl, fun w' hSw => ?_⟩) (by assumption) ?_
    · go_simp
    try simp only [Act.put, List.getElem_toArray, List.getElem_cons_zero, List.getElem_cons_succ, List.setIfInBounds_toArray, List.set_cons_zero, List.set_cons_succ]
    have hB := HX.out.1.drew
    have hres : w1.drew.heap[w.heap.size]? = _ := HX.out.2.1
    have HS : Hid (w1.drew.heap.size = w.heap.size + 1) := hide HX.out.2.2
    obtain ⟨V0, hV0⟩ : ∃ V, w1.drew = V := ⟨_, rfl⟩
    rw [hV0] at hB hres HS ⊢
    clear hV0 HX
    refine wpAnyH_ready (rs := [0, 2, 4]) (by kernel_rfl) (by simp) ?_
    refine (AllReadyH.cons rfl (fun K hK => ?_) (AllReadyH.cons rfl (fun K hK => ?_) (AllReadyH.cons rfl (fun K hK => ?_) AllReadyH.nil)))
    · go_simp
      have hA : Below V0.heap.size V0 (V0.alloc (.cells #[.int .i64 0, .int .i64 0, .int .i64 0] 2)) := (Below.refl _ _).alloc (Nat.le_refl _) _
      have hn := heap_alloc_new V0 (.cells #[.int .i64 0, .int .i64 0, .int .i64 0] 2)
      have hz : (V0.alloc (.cells #[.int .i64 0, .int .i64 0, .int .i64 0] 2)).heap.size = V0.heap.size + 1 := by simp
      obtain ⟨GM, hG⟩ : ∃ G, V0.heap.size = G := ⟨_, rfl⟩
      rw [hG] at hn hz ⊢
      generalize (World.alloc _ _) = V1 at hA hn hz ⊢
      have hB := hB.trans (hA.mono hB.size)
      have hres := (hA.block _ (lt_of_block hres)).trans hres
      have hmm := hn
      have lr := lt_of_block hres
      have HS := hide (And.intro HS.out (show w.heap.size < GM ∧ V1.heap.size = GM + 1 from by have := HS.out; omega))
      refine hK.out _ _ trivial (fun hHeld => ?_)
      clear hK K hA hn hz
      try simp only [Act.put, List.getElem_toArray, List.getElem_cons_zero, List.getElem_cons_succ, List.setIfInBounds_toArray, List.set_cons_zero, List.set_cons_succ]
      refine wpAnyH_ready (rs := [2, 4]) (by kernel_rfl) (by simp) ?_
      refine (AllReadyH.cons rfl (fun K hK => ?_) (AllReadyH.cons rfl (fun K hK => ?_) AllReadyH.nil))
      · go_simp
        have hA : Below V1.heap.size V1 (V1.alloc (.cells (madeCells #[.slice none 0 0] C) 90)) := (Below.refl _ _).alloc (Nat.le_refl _) _
        have hn := heap_alloc_new V1 (.cells (madeCells #[.slice none 0 0] C) 90)
        have hz : (V1.alloc (.cells (madeCells #[.slice none 0 0] C) 90)).heap.size = V1.heap.size + 1 := by simp
        obtain ⟨GB, hG⟩ : ∃ G, V1.heap.size = G := ⟨_, rfl⟩
        rw [hG] at hn hz ⊢
        generalize (World.alloc _ _) = V2 at hA hn hz ⊢
        have hB := hB.trans (hA.mono hB.size)
        have hres := (hA.block _ (lt_of_block hres)).trans hres
        have lm := lt_of_block hmm
        have hmm := (hA.block _ lm).trans hmm
        have hbf := hn
        have lr := lt_of_block hres
        have HS := hide (And.intro HS.out (show w.heap.size < GB ∧ V2.heap.size = GB + 1 from by have := HS.out; omega))
        refine hK.out _ _ trivial (fun hHeld => ?_)
        clear hK K hA hn hz
        try simp only [Act.put, List.getElem_toArray, List.getElem_cons_zero, List.getElem_cons_succ, List.setIfInBounds_toArray, List.set_cons_zero, List.set_cons_succ]
        refine wpAnyH_take (i := 3) (v := .agg #[.slice (some ⟨GM, 0, none⟩) 3 3, .slice (some ⟨GB, 0, none⟩) C C, .slice none 0 0]) rfl (by kernel_rfl) (by kernel_rfl) (by kernel_rfl) (fun _ _ _ h => h) (Or.inl ⟨by rfl, fun w' hSw => ?_⟩) (by assumption) ?_
        · go_simp
        try simp only [Act.put, List.getElem_toArray, List.getElem_cons_zero, List.getElem_cons_succ, List.setIfInBounds_toArray, List.set_cons_zero, List.set_cons_succ]
        refine wpAnyH_ready (rs := [4]) (by kernel_rfl) (by simp) ?_
        refine (AllReadyH.cons rfl (fun K hK => ?_) AllReadyH.nil)
        · go_simp
          have hA : Below V2.heap.size V2 (V2.alloc (.cells #[.slice none 0 0, .slice none 0 0, .slice none 0 0] 37)) := (Below.refl _ _).alloc (Nat.le_refl _) _
          have hn := heap_alloc_new V2 (.cells #[.slice none 0 0, .slice none 0 0, .slice none 0 0] 37)
          have hz : (V2.alloc (.cells #[.slice none 0 0, .slice none 0 0, .slice none 0 0] 37)).heap.size = V2.heap.size + 1 := by simp
          obtain ⟨NB, hG⟩ : ∃ G, V2.heap.size = G := ⟨_, rfl⟩
          rw [hG] at hn hz ⊢
          generalize (World.alloc _ _) = V3 at hA hn hz ⊢
          have hB := hB.trans (hA.mono hB.size)
          have hres := (hA.block _ (lt_of_block hres)).trans hres
          have lm := lt_of_block hmm
          have hmm := (hA.block _ lm).trans hmm
          have lb := lt_of_block hbf
          have hbf := (hA.block _ lb).trans hbf
          have hbox := hn
          have lr := lt_of_block hres
          have HO : Hid ((w.heap.size < NB ∧ w.heap.size < GM ∧ w.heap.size < GB) ∧ NB ≠ GM ∧ NB ≠ GB ∧ GM ≠ GB) := hide (by have := HS.out; omega)
          have HS := hide (And.intro HS.out (show w.heap.size < NB ∧ V3.heap.size = NB + 1 from by have := HS.out; omega))
          refine hK.out _ _ trivial (fun hHeld => ?_)
          clear hK K hA hn hz
          try simp only [Act.put, List.getElem_toArray, List.getElem_cons_zero, List.getElem_cons_succ, List.setIfInBounds_toArray, List.set_cons_zero, List.set_cons_succ]
          refine wpAnyH_ready (rs := [5]) (by kernel_rfl) (by simp) ?_
          refine AllReadyH.cons rfl (fun K hK => ?_) AllReadyH.nil
          obtain ⟨fr, r0, r1, r2⟩ := row3f hbox
          go_simp
          have hq := new_start hB hres hbox hmm hbf ⟨HO.out, by have := HC.out; omega⟩
          generalize (World.setCell _ _ _) = U at hq ⊢
          refine hK.out _ _ trivial (fun hHeld => ?_)
          clear hK K
          try simp only [Act.put, List.getElem_toArray, List.getElem_cons_zero, List.getElem_cons_succ, List.setIfInBounds_toArray, List.set_cons_zero, List.set_cons_succ]
          refine wpAnyH_done (by kernel_rfl) ?_ _
          try go_wp2_with fail
          go_meet
          exact ⟨NB, GM, GB, _, rfl, hide hq⟩
      · go_simp
        have hA : Below V1.heap.size V1 (V1.alloc (.cells #[.slice none 0 0, .slice none 0 0, .slice none 0 0] 37)) := (Below.refl _ _).alloc (Nat.le_refl _) _
        have hn := heap_alloc_new V1 (.cells #[.slice none 0 0, .slice none 0 0, .slice none 0 0] 37)
        have hz : (V1.alloc (.cells #[.slice none 0 0, .slice none 0 0, .slice none 0 0] 37)).heap.size = V1.heap.size + 1 := by simp
        obtain ⟨NB, hG⟩ : ∃ G, V1.heap.size = G := ⟨_, rfl⟩
        rw [hG] at hn hz ⊢
        generalize (World.alloc _ _) = V4 at hA hn hz ⊢
        have hB := hB.trans (hA.mono hB.size)
        have hres := (hA.block _ (lt_of_block hres)).trans hres
        have lm := lt_of_block hmm
        have hmm := (hA.block _ lm).trans hmm
        have hbox := hn
        have lr := lt_of_block hres
        have HS := hide (And.intro HS.out (show w.heap.size < NB ∧ V4.heap.size = NB + 1 from by have := HS.out; omega))
        refine hK.out _ _ trivial (fun hHeld => ?_)
        clear hK K hA hn hz
        try simp only [Act.put, List.getElem_toArray, List.getElem_cons_zero, List.getElem_cons_succ, List.setIfInBounds_toArray, List.set_cons_zero, List.set_cons_succ]
        refine wpAnyH_ready (rs := [2]) (by kernel_rfl) (by simp) ?_
        refine (AllReadyH.cons rfl (fun K hK => ?_) AllReadyH.nil)
        · go_simp
          have hA : Below V4.heap.size V4 (V4.alloc (.cells (madeCells #[.slice none 0 0] C) 90)) := (Below.refl _ _).alloc (Nat.le_refl _) _
          have hn := heap_alloc_new V4 (.cells (madeCells #[.slice none 0 0] C) 90)
          have hz : (V4.alloc (.cells (madeCells #[.slice none 0 0] C) 90)).heap.size = V4.heap.size + 1 := by simp
          obtain ⟨GB, hG⟩ : ∃ G, V4.heap.size = G := ⟨_, rfl⟩
          rw [hG] at hn hz ⊢
          generalize (World.alloc _ _) = V5 at hA hn hz ⊢
          have hB := hB.trans (hA.mono hB.size)
          have hres := (hA.block _ (lt_of_block hres)).trans hres
          have lm := lt_of_block hmm
          have hmm := (hA.block _ lm).trans hmm
          have lx := lt_of_block hbox
          have hbox := (hA.block _ lx).trans hbox
          have hbf := hn
          have lr := lt_of_block hres
          have HO : Hid ((w.heap.size < NB ∧ w.heap.size < GM ∧ w.heap.size < GB) ∧ NB ≠ GM ∧ NB ≠ GB ∧ GM ≠ GB) := hide (by have := HS.out; omega)
          have HS := hide (And.intro HS.out (show w.heap.size < GB ∧ V5.heap.size = GB + 1 from by have := HS.out; omega))
          refine hK.out _ _ trivial (fun hHeld => ?_)
          clear hK K hA hn hz
          try simp only [Act.put, List.getElem_toArray, List.getElem_cons_zero, List.getElem_cons_succ, List.setIfInBounds_toArray, List.set_cons_zero, List.set_cons_succ]
          refine wpAnyH_take (i := 3) (v := .agg #[.slice (some ⟨GM, 0, none⟩) 3 3, .slice (some ⟨GB, 0, none⟩) C C, .slice none 0 0]) rfl (by kernel_rfl) (by kernel_rfl) (by kernel_rfl) (fun _ _ _ h => h) (Or.inl ⟨by rfl, fun w' hSw => ?_⟩) (by assumption) ?_
          · go_simp
          try simp only [Act.put, List.getElem_toArray, List.getElem_cons_zero, List.getElem_cons_succ, List.setIfInBounds_toArray, List.set_cons_zero, List.set_cons_succ]
          refine wpAnyH_ready (rs := [5]) (by kernel_rfl) (by simp) ?_
          refine AllReadyH.cons rfl (fun K hK => ?_) AllReadyH.nil
          obtain ⟨fr, r0, r1, r2⟩ := row3f hbox
          go_simp
          have hq := new_start hB hres hbox hmm hbf ⟨HO.out, by have := HC.out; omega⟩
          generalize (World.setCell _ _ _) = U at hq ⊢
          refine hK.out _ _ trivial (fun hHeld => ?_)
          clear hK K
          try simp only [Act.put, List.getElem_toArray, List.getElem_cons_zero, List.getElem_cons_succ, List.setIfInBounds_toArray, List.set_cons_zero, List.set_cons_succ]
          refine wpAnyH_done (by kernel_rfl) ?_ _
          try go_wp2_with fail
          go_meet
          exact ⟨NB, GM, GB, _, rfl, hide hq⟩
    · go_simp
      have hA : Below V0.heap.size V0 (V0.alloc (.cells (madeCells #[.slice none 0 0] C) 90)) := (Below.refl _ _).alloc (Nat.le_refl _) _
      have hn := heap_alloc_new V0 (.cells (madeCells #[.slice none 0 0] C) 90)
      have hz : (V0.alloc (.cells (madeCells #[.slice none 0 0] C) 90)).heap.size = V0.heap.size + 1 := by simp
      obtain ⟨GB, hG⟩ : ∃ G, V0.heap.size = G := ⟨_, rfl⟩
      rw [hG] at hn hz ⊢
      generalize (World.alloc _ _) = V6 at hA hn hz ⊢
      have hB := hB.trans (hA.mono hB.size)
      have hres := (hA.block _ (lt_of_block hres)).trans hres
      have hbf := hn
      have lr := lt_of_block hres
      have HS := hide (And.intro HS.out (show w.heap.size < GB ∧ V6.heap.size = GB + 1 from by have := HS.out; omega))
      refine hK.out _ _ trivial (fun hHeld => ?_)
      clear hK K hA hn hz
      try simp only [Act.put, List.getElem_toArray, List.getElem_cons_zero, List.getElem_cons_succ, List.setIfInBounds_toArray, List.set_cons_zero, List.set_cons_succ]
      refine wpAnyH_ready (rs := [0, 4]) (by kernel_rfl) (by simp) ?_
      refine (AllReadyH.cons rfl (fun K hK => ?_) (AllReadyH.cons rfl (fun K hK => ?_) AllReadyH.nil))
      · go_simp
        have hA : Below V6.heap.size V6 (V6.alloc (.cells #[.int .i64 0, .int .i64 0, .int .i64 0] 2)) := (Below.refl _ _).alloc (Nat.le_refl _) _
        have hn := heap_alloc_new V6 (.cells #[.int .i64 0, .int .i64 0, .int .i64 0] 2)
        have hz : (V6.alloc (.cells #[.int .i64 0, .int .i64 0, .int .i64 0] 2)).heap.size = V6.heap.size + 1 := by simp
        obtain ⟨GM, hG⟩ : ∃ G, V6.heap.size = G := ⟨_, rfl⟩
        rw [hG] at hn hz ⊢
        generalize (World.alloc _ _) = V7 at hA hn hz ⊢
        have hB := hB.trans (hA.mono hB.size)
        have hres := (hA.block _ (lt_of_block hres)).trans hres
        have lb := lt_of_block hbf
        have hbf := (hA.block _ lb).trans hbf
        have hmm := hn
        have lr := lt_of_block hres
        have HS := hide (And.intro HS.out (show w.heap.size < GM ∧ V7.heap.size = GM + 1 from by have := HS.out; omega))
        refine hK.out _ _ trivial (fun hHeld => ?_)
        clear hK K hA hn hz
        try simp only [Act.put, List.getElem_toArray, List.getElem_cons_zero, List.getElem_cons_succ, List.setIfInBounds_toArray, List.set_cons_zero, List.set_cons_succ]
        refine wpAnyH_take (i := 3) (v := .agg #[.slice (some ⟨GM, 0, none⟩) 3 3, .slice (some ⟨GB, 0, none⟩) C C, .slice none 0 0]) rfl (by kernel_rfl) (by kernel_rfl) (by kernel_rfl) (fun _ _ _ h => h) (Or.inl ⟨by rfl, fun w' hSw => ?_⟩) (by assumption) ?_
        · go_simp
        try simp only [Act.put, List.getElem_toArray, List.getElem_cons_zero, List.getElem_cons_succ, List.setIfInBounds_toArray, List.set_cons_zero, List.set_cons_succ]
        refine wpAnyH_ready (rs := [4]) (by kernel_rfl) (by simp) ?_
        refine (AllReadyH.cons rfl (fun K hK => ?_) AllReadyH.nil)
        · go_simp
          have hA : Below V7.heap.size V7 (V7.alloc (.cells #[.slice none 0 0, .slice none 0 0, .slice none 0 0] 37)) := (Below.refl _ _).alloc (Nat.le_refl _) _
          have hn := heap_alloc_new V7 (.cells #[.slice none 0 0, .slice none 0 0, .slice none 0 0] 37)
          have hz : (V7.alloc (.cells #[.slice none 0 0, .slice none 0 0, .slice none 0 0] 37)).heap.size = V7.heap.size + 1 := by simp
          obtain ⟨NB, hG⟩ : ∃ G, V7.heap.size = G := ⟨_, rfl⟩
          rw [hG] at hn hz ⊢
          generalize (World.alloc _ _) = V8 at hA hn hz ⊢
          have hB := hB.trans (hA.mono hB.size)
          have hres := (hA.block _ (lt_of_block hres)).trans hres
          have lm := lt_of_block hmm
          have hmm := (hA.block _ lm).trans hmm
          have lb := lt_of_block hbf
          have hbf := (hA.block _ lb).trans hbf
          have hbox := hn
          have lr := lt_of_block hres
          have HO : Hid ((w.heap.size < NB ∧ w.heap.size < GM ∧ w.heap.size < GB) ∧ NB ≠ GM ∧ NB ≠ GB ∧ GM ≠ GB) := hide (by have := HS.out; omega)
          have HS := hide (And.intro HS.out (show w.heap.size < NB ∧ V8.heap.size = NB + 1 from by have := HS.out; omega))
          refine hK.out _ _ trivial (fun hHeld => ?_)
          clear hK K hA hn hz
          try simp only [Act.put, List.getElem_toArray, List.getElem_cons_zero, List.getElem_cons_succ, List.setIfInBounds_toArray, List.set_cons_zero, List.set_cons_succ]
          refine wpAnyH_ready (rs := [5]) (by kernel_rfl) (by simp) ?_
          refine AllReadyH.cons rfl (fun K hK => ?_) AllReadyH.nil
          obtain ⟨fr, r0, r1, r2⟩ := row3f hbox
          go_simp
          have hq := new_start hB hres hbox hmm hbf ⟨HO.out, by have := HC.out; omega⟩
          generalize (World.setCell _ _ _) = U at hq ⊢
          refine hK.out _ _ trivial (fun hHeld => ?_)
          clear hK K
          try simp only [Act.put, List.getElem_toArray, List.getElem_cons_zero, List.getElem_cons_succ, List.setIfInBounds_toArray, List.set_cons_zero, List.set_cons_succ]
          refine wpAnyH_done (by kernel_rfl) ?_ _
          try go_wp2_with fail
          go_meet
          exact ⟨NB, GM, GB, _, rfl, hide hq⟩
      · go_simp
        have hA : Below V6.heap.size V6 (V6.alloc (.cells #[.slice none 0 0, .slice none 0 0, .slice none 0 0] 37)) := (Below.refl _ _).alloc (Nat.le_refl _) _
        have hn := heap_alloc_new V6 (.cells #[.slice none 0 0, .slice none 0 0, .slice none 0 0] 37)
        have hz : (V6.alloc (.cells #[.slice none 0 0, .slice none 0 0, .slice none 0 0] 37)).heap.size = V6.heap.size + 1 := by simp
        obtain ⟨NB, hG⟩ : ∃ G, V6.heap.size = G := ⟨_, rfl⟩
        rw [hG] at hn hz ⊢
        generalize (World.alloc _ _) = V9 at hA hn hz ⊢
        have hB := hB.trans (hA.mono hB.size)
        have hres := (hA.block _ (lt_of_block hres)).trans hres
        have lb := lt_of_block hbf
        have hbf := (hA.block _ lb).trans hbf
        have hbox := hn
        have lr := lt_of_block hres
        have HS := hide (And.intro HS.out (show w.heap.size < NB ∧ V9.heap.size = NB + 1 from by have := HS.out; omega))
        refine hK.out _ _ trivial (fun hHeld => ?_)
        clear hK K hA hn hz
        try simp only [Act.put, List.getElem_toArray, List.getElem_cons_zero, List.getElem_cons_succ, List.setIfInBounds_toArray, List.set_cons_zero, List.set_cons_succ]
        refine wpAnyH_ready (rs := [0]) (by kernel_rfl) (by simp) ?_
        refine (AllReadyH.cons rfl (fun K hK => ?_) AllReadyH.nil)
        · go_simp
          have hA : Below V9.heap.size V9 (V9.alloc (.cells #[.int .i64 0, .int .i64 0, .int .i64 0] 2)) := (Below.refl _ _).alloc (Nat.le_refl _) _
          have hn := heap_alloc_new V9 (.cells #[.int .i64 0, .int .i64 0, .int .i64 0] 2)
          have hz : (V9.alloc (.cells #[.int .i64 0, .int .i64 0, .int .i64 0] 2)).heap.size = V9.heap.size + 1 := by simp
          obtain ⟨GM, hG⟩ : ∃ G, V9.heap.size = G := ⟨_, rfl⟩
          rw [hG] at hn hz ⊢
          generalize (World.alloc _ _) = V10 at hA hn hz ⊢
          have hB := hB.trans (hA.mono hB.size)
          have hres := (hA.block _ (lt_of_block hres)).trans hres
          have lb := lt_of_block hbf
          have hbf := (hA.block _ lb).trans hbf
          have lx := lt_of_block hbox
          have hbox := (hA.block _ lx).trans hbox
          have hmm := hn
          have lr := lt_of_block hres
          have HO : Hid ((w.heap.size < NB ∧ w.heap.size < GM ∧ w.heap.size < GB) ∧ NB ≠ GM ∧ NB ≠ GB ∧ GM ≠ GB) := hide (by have := HS.out; omega)
          have HS := hide (And.intro HS.out (show w.heap.size < GM ∧ V10.heap.size = GM + 1 from by have := HS.out; omega))
          refine hK.out _ _ trivial (fun hHeld => ?_)
          clear hK K hA hn hz
          try simp only [Act.put, List.getElem_toArray, List.getElem_cons_zero, List.getElem_cons_succ, List.setIfInBounds_toArray, List.set_cons_zero, List.set_cons_succ]
          refine wpAnyH_take (i := 3) (v := .agg #[.slice (some ⟨GM, 0, none⟩) 3 3, .slice (some ⟨GB, 0, none⟩) C C, .slice none 0 0]) rfl (by kernel_rfl) (by kernel_rfl) (by kernel_rfl) (fun _ _ _ h => h) (Or.inl ⟨by rfl, fun w' hSw => ?_⟩) (by assumption) ?_
          · go_simp
          try simp only [Act.put, List.getElem_toArray, List.getElem_cons_zero, List.getElem_cons_succ, List.setIfInBounds_toArray, List.set_cons_zero, List.set_cons_succ]
          refine wpAnyH_ready (rs := [5]) (by kernel_rfl) (by simp) ?_
          refine AllReadyH.cons rfl (fun K hK => ?_) AllReadyH.nil
          obtain ⟨fr, r0, r1, r2⟩ := row3f hbox
          go_simp
          have hq := new_start hB hres hbox hmm hbf ⟨HO.out, by have := HC.out; omega⟩
          generalize (World.setCell _ _ _) = U at hq ⊢
          refine hK.out _ _ trivial (fun hHeld => ?_)
          clear hK K
          try simp only [Act.put, List.getElem_toArray, List.getElem_cons_zero, List.getElem_cons_succ, List.setIfInBounds_toArray, List.set_cons_zero, List.set_cons_succ]
          refine wpAnyH_done (by kernel_rfl) ?_ _
          try go_wp2_with fail
          go_meet
          exact ⟨NB, GM, GB, _, rfl, hide hq⟩
    · go_simp
      have hA : Below V0.heap.size V0 (V0.alloc (.cells #[.slice none 0 0, .slice none 0 0, .slice none 0 0] 37)) := (Below.refl _ _).alloc (Nat.le_refl _) _
      have hn := heap_alloc_new V0 (.cells #[.slice none 0 0, .slice none 0 0, .slice none 0 0] 37)
      have hz : (V0.alloc (.cells #[.slice none 0 0, .slice none 0 0, .slice none 0 0] 37)).heap.size = V0.heap.size + 1 := by simp
      obtain ⟨NB, hG⟩ : ∃ G, V0.heap.size = G := ⟨_, rfl⟩
      rw [hG] at hn hz ⊢
      generalize (World.alloc _ _) = V11 at hA hn hz ⊢
      have hB := hB.trans (hA.mono hB.size)
      have hres := (hA.block _ (lt_of_block hres)).trans hres
      have hbox := hn
      have lr := lt_of_block hres
      have HS := hide (And.intro HS.out (show w.heap.size < NB ∧ V11.heap.size = NB + 1 from by have := HS.out; omega))
      refine hK.out _ _ trivial (fun hHeld => ?_)
      clear hK K hA hn hz
      try simp only [Act.put, List.getElem_toArray, List.getElem_cons_zero, List.getElem_cons_succ, List.setIfInBounds_toArray, List.set_cons_zero, List.set_cons_succ]
      refine wpAnyH_ready (rs := [0, 2]) (by kernel_rfl) (by simp) ?_
      refine (AllReadyH.cons rfl (fun K hK => ?_) (AllReadyH.cons rfl (fun K hK => ?_) AllReadyH.nil))
      · go_simp
        have hA : Below V11.heap.size V11 (V11.alloc (.cells #[.int .i64 0, .int .i64 0, .int .i64 0] 2)) := (Below.refl _ _).alloc (Nat.le_refl _) _
        have hn := heap_alloc_new V11 (.cells #[.int .i64 0, .int .i64 0, .int .i64 0] 2)
        have hz : (V11.alloc (.cells #[.int .i64 0, .int .i64 0, .int .i64 0] 2)).heap.size = V11.heap.size + 1 := by simp
        obtain ⟨GM, hG⟩ : ∃ G, V11.heap.size = G := ⟨_, rfl⟩
        rw [hG] at hn hz ⊢
        generalize (World.alloc _ _) = V12 at hA hn hz ⊢
        have hB := hB.trans (hA.mono hB.size)
        have hres := (hA.block _ (lt_of_block hres)).trans hres
        have lx := lt_of_block hbox
        have hbox := (hA.block _ lx).trans hbox
        have hmm := hn
        have lr := lt_of_block hres
        have HS := hide (And.intro HS.out (show w.heap.size < GM ∧ V12.heap.size = GM + 1 from by have := HS.out; omega))
        refine hK.out _ _ trivial (fun hHeld => ?_)
        clear hK K hA hn hz
        try simp only [Act.put, List.getElem_toArray, List.getElem_cons_zero, List.getElem_cons_succ, List.setIfInBounds_toArray, List.set_cons_zero, List.set_cons_succ]
        refine wpAnyH_ready (rs := [2]) (by kernel_rfl) (by simp) ?_
        refine (AllReadyH.cons rfl (fun K hK => ?_) AllReadyH.nil)
        · go_simp
          have hA : Below V12.heap.size V12 (V12.alloc (.cells (madeCells #[.slice none 0 0] C) 90)) := (Below.refl _ _).alloc (Nat.le_refl _) _
          have hn := heap_alloc_new V12 (.cells (madeCells #[.slice none 0 0] C) 90)
          have hz : (V12.alloc (.cells (madeCells #[.slice none 0 0] C) 90)).heap.size = V12.heap.size + 1 := by simp
          obtain ⟨GB, hG⟩ : ∃ G, V12.heap.size = G := ⟨_, rfl⟩
          rw [hG] at hn hz ⊢
          generalize (World.alloc _ _) = V13 at hA hn hz ⊢
          have hB := hB.trans (hA.mono hB.size)
          have hres := (hA.block _ (lt_of_block hres)).trans hres
          have lm := lt_of_block hmm
          have hmm := (hA.block _ lm).trans hmm
          have lx := lt_of_block hbox
          have hbox := (hA.block _ lx).trans hbox
          have hbf := hn
          have lr := lt_of_block hres
          have HO : Hid ((w.heap.size < NB ∧ w.heap.size < GM ∧ w.heap.size < GB) ∧ NB ≠ GM ∧ NB ≠ GB ∧ GM ≠ GB) := hide (by have := HS.out; omega)
          have HS := hide (And.intro HS.out (show w.heap.size < GB ∧ V13.heap.size = GB + 1 from by have := HS.out; omega))
          refine hK.out _ _ trivial (fun hHeld => ?_)
          clear hK K hA hn hz
          try simp only [Act.put, List.getElem_toArray, List.getElem_cons_zero, List.getElem_cons_succ, List.setIfInBounds_toArray, List.set_cons_zero, List.set_cons_succ]
          refine wpAnyH_take (i := 3) (v := .agg #[.slice (some ⟨GM, 0, none⟩) 3 3, .slice (some ⟨GB, 0, none⟩) C C, .slice none 0 0]) rfl (by kernel_rfl) (by kernel_rfl) (by kernel_rfl) (fun _ _ _ h => h) (Or.inl ⟨by rfl, fun w' hSw => ?_⟩) (by assumption) ?_
          · go_simp
          try simp only [Act.put, List.getElem_toArray, List.getElem_cons_zero, List.getElem_cons_succ, List.setIfInBounds_toArray, List.set_cons_zero, List.set_cons_succ]
          refine wpAnyH_ready (rs := [5]) (by kernel_rfl) (by simp) ?_
          refine AllReadyH.cons rfl (fun K hK => ?_) AllReadyH.nil
          obtain ⟨fr, r0, r1, r2⟩ := row3f hbox
          go_simp
          have hq := new_start hB hres hbox hmm hbf ⟨HO.out, by have := HC.out; omega⟩
          generalize (World.setCell _ _ _) = U at hq ⊢
          refine hK.out _ _ trivial (fun hHeld => ?_)
          clear hK K
          try simp only [Act.put, List.getElem_toArray, List.getElem_cons_zero, List.getElem_cons_succ, List.setIfInBounds_toArray, List.set_cons_zero, List.set_cons_succ]
          refine wpAnyH_done (by kernel_rfl) ?_ _
          try go_wp2_with fail
          go_meet
          exact ⟨NB, GM, GB, _, rfl, hide hq⟩
      · go_simp
        have hA : Below V11.heap.size V11 (V11.alloc (.cells (madeCells #[.slice none 0 0] C) 90)) := (Below.refl _ _).alloc (Nat.le_refl _) _
        have hn := heap_alloc_new V11 (.cells (madeCells #[.slice none 0 0] C) 90)
        have hz : (V11.alloc (.cells (madeCells #[.slice none 0 0] C) 90)).heap.size = V11.heap.size + 1 := by simp
        obtain ⟨GB, hG⟩ : ∃ G, V11.heap.size = G := ⟨_, rfl⟩
        rw [hG] at hn hz ⊢
        generalize (World.alloc _ _) = V14 at hA hn hz ⊢
        have hB := hB.trans (hA.mono hB.size)
        have hres := (hA.block _ (lt_of_block hres)).trans hres
        have lx := lt_of_block hbox
        have hbox := (hA.block _ lx).trans hbox
        have hbf := hn
        have lr := lt_of_block hres
        have HS := hide (And.intro HS.out (show w.heap.size < GB ∧ V14.heap.size = GB + 1 from by have := HS.out; omega))
        refine hK.out _ _ trivial (fun hHeld => ?_)
        clear hK K hA hn hz
        try simp only [Act.put, List.getElem_toArray, List.getElem_cons_zero, List.getElem_cons_succ, List.setIfInBounds_toArray, List.set_cons_zero, List.set_cons_succ]
        refine wpAnyH_ready (rs := [0]) (by kernel_rfl) (by simp) ?_
        refine (AllReadyH.cons rfl (fun K hK => ?_) AllReadyH.nil)
        · go_simp
          have hA : Below V14.heap.size V14 (V14.alloc (.cells #[.int .i64 0, .int .i64 0, .int .i64 0] 2)) := (Below.refl _ _).alloc (Nat.le_refl _) _
          have hn := heap_alloc_new V14 (.cells #[.int .i64 0, .int .i64 0, .int .i64 0] 2)
          have hz : (V14.alloc (.cells #[.int .i64 0, .int .i64 0, .int .i64 0] 2)).heap.size = V14.heap.size + 1 := by simp
          obtain ⟨GM, hG⟩ : ∃ G, V14.heap.size = G := ⟨_, rfl⟩
          rw [hG] at hn hz ⊢
          generalize (World.alloc _ _) = V15 at hA hn hz ⊢
          have hB := hB.trans (hA.mono hB.size)
          have hres := (hA.block _ (lt_of_block hres)).trans hres
          have lb := lt_of_block hbf
          have hbf := (hA.block _ lb).trans hbf
          have lx := lt_of_block hbox
          have hbox := (hA.block _ lx).trans hbox
          have hmm := hn
          have lr := lt_of_block hres
          have HO : Hid ((w.heap.size < NB ∧ w.heap.size < GM ∧ w.heap.size < GB) ∧ NB ≠ GM ∧ NB ≠ GB ∧ GM ≠ GB) := hide (by have := HS.out; omega)
          have HS := hide (And.intro HS.out (show w.heap.size < GM ∧ V15.heap.size = GM + 1 from by have := HS.out; omega))
          refine hK.out _ _ trivial (fun hHeld => ?_)
          clear hK K hA hn hz
          try simp only [Act.put, List.getElem_toArray, List.getElem_cons_zero, List.getElem_cons_succ, List.setIfInBounds_toArray, List.set_cons_zero, List.set_cons_succ]
          refine wpAnyH_take (i := 3) (v := .agg #[.slice (some ⟨GM, 0, none⟩) 3 3, .slice (some ⟨GB, 0, none⟩) C C, .slice none 0 0]) rfl (by kernel_rfl) (by kernel_rfl) (by kernel_rfl) (fun _ _ _ h => h) (Or.inl ⟨by rfl, fun w' hSw => ?_⟩) (by assumption) ?_
          · go_simp
          try simp only [Act.put, List.getElem_toArray, List.getElem_cons_zero, List.getElem_cons_succ, List.setIfInBounds_toArray, List.set_cons_zero, List.set_cons_succ]
          refine wpAnyH_ready (rs := [5]) (by kernel_rfl) (by simp) ?_
          refine AllReadyH.cons rfl (fun K hK => ?_) AllReadyH.nil
          obtain ⟨fr, r0, r1, r2⟩ := row3f hbox
          go_simp
          have hq := new_start hB hres hbox hmm hbf ⟨HO.out, by have := HC.out; omega⟩
          generalize (World.setCell _ _ _) = U at hq ⊢
          refine hK.out _ _ trivial (fun hHeld => ?_)
          clear hK K
          try simp only [Act.put, List.getElem_toArray, List.getElem_cons_zero, List.getElem_cons_succ, List.setIfInBounds_toArray, List.set_cons_zero, List.set_cons_succ]
          refine wpAnyH_done (by kernel_rfl) ?_ _
          try go_wp2_with fail
          go_meet
          exact ⟨NB, GM, GB, _, rfl, hide hq⟩
  case rest =>
    obtain ⟨NB, GM, GB, tag, rfl, HN⟩ := hcut
    clear HX hmk hmm0
    go_wp2
    go_loopw [14] (fun i wr => ∃ (k : Nat) (r : Value) (vr : Nat → Value) (tag : Nat → Nat), k ≤ C ∧ i = .int .i64 k ∧ Hid (Nq w wr NB (.slice (some ⟨GM, 0, none⟩) 3 3) (.slice (some ⟨GB, 0, none⟩) C C) r C k vr tag)) (fun i _ => C - (intOf i).toNat)
    case atStart => exact ⟨0, .slice none 0 0, z0V, tag, by omega, rfl, HN⟩
    case round =>
      clear HN
      obtain ⟨k, r, vr, tag, hk, rfl, HQ⟩ := hrel
      have cq := HQ.out
      have hC3 := HC.out
      clear HQ
      obtain ⟨_, n0, n1, n2⟩ := row3f cq.box
      by_cases hlt : k < C
      · clear n0 n1
        go_wp2
        refine wp_region_but (z := 6) (S := fun W => W.cell? ⟨NB, 2, none⟩ = some r) (by kernel_rfl) n2 (fun hHeld => ?_)
        replace cq := cq.drew
        replace n2 : wr.drew.cell? ⟨NB, 2, none⟩ = some r := n2
        obtain ⟨V, hV⟩ : ∃ V, wr.drew = V := ⟨_, rfl⟩
        rw [hV] at cq n2 hHeld ⊢
        clear hV
        refine wpAnyK_take (i := 0) (v := .pointer (some ⟨NB, 2, none⟩)) rfl (by kernel_rfl) (by kernel_rfl) (by kernel_rfl) (by kernel_rfl) (fun _ _ _ h => h) (Or.inl ⟨by rfl, fun w' hSw => ?_⟩) (by assumption) ?_
        · (try dsimp only at hSw); go_simp
        try simp only [Act.put, List.getElem_toArray, List.getElem_cons_zero, List.getElem_cons_succ, List.setIfInBounds_toArray, List.set_cons_zero, List.set_cons_succ]
        refine wpAnyK_take (i := 1) (v := r) rfl (by kernel_rfl) (by kernel_rfl) (by kernel_rfl) (by kernel_rfl) (fun _ _ _ h => h) (Or.inl ⟨by rfl, fun w' hSw => ?_⟩) (by assumption) ?_
        · (try dsimp only at hSw); go_simp
        try simp only [Act.put, List.getElem_toArray, List.getElem_cons_zero, List.getElem_cons_succ, List.setIfInBounds_toArray, List.set_cons_zero, List.set_cons_succ]
        refine wpAnyK_one (i := 2) (by kernel_rfl) rfl (fun K hK => ?_)
        have hmr := make_reg
        go_simp
        have hA0 : Below V.heap.size V (V.alloc (.cells #[.int .i64 0, .int .i64 0] 2)) := (Below.refl _ _).alloc (Nat.le_refl _) _
        have hu := reg_own V
        clear hmr
        refine hK.out _ _ (fun _ => keepc hA0 n2) (fun hH => ?_)
        clear hK K hHeld
        have hHeld := hH (by decide)
        clear hH
        try simp only [Act.put, List.getElem_toArray, List.getElem_cons_zero, List.getElem_cons_succ, List.setIfInBounds_toArray, List.set_cons_zero, List.set_cons_succ]
        obtain ⟨w1, hw1⟩ : ∃ w1, V.alloc (.cells #[.int .i64 0, .int .i64 0] 2) = w1 := ⟨_, rfl⟩
        rw [hw1] at hA0 hu hHeld ⊢
        clear hw1
        refine wpAnyK_one (i := 3) (by kernel_rfl) rfl (fun K hK => ?_)
        go_simp
        have hA : Below w1.heap.size w1 (w1.alloc (.cells #[.slice (some ⟨V.heap.size, 0, none⟩) 2 2] 33)) := (Below.refl _ _).alloc (Nat.le_refl _) _
        have hb2 := hA0.trans (hA.mono hA0.size)
        refine hK.out _ _ (fun _ => keepc hb2 n2) (fun hH => ?_)
        clear hK K hHeld
        have hHeld := hH (by decide)
        clear hH
        try simp only [Act.put, List.getElem_toArray, List.getElem_cons_zero, List.getElem_cons_succ, List.setIfInBounds_toArray, List.set_cons_zero, List.set_cons_succ]
        refine wpAnyK_one (i := 4) (by kernel_rfl) rfl (fun K hK => ?_)
        refine step_append_lies _ (by rfl) _ _ 35 (by rfl) (w.heap.size + 1) 33 j0 _ 1 24 Try.underlying35 hj jz0 jz1 jz2 rfl (by omega) r k ((List.range k).map vr) (by rfl) (own_kept cq.or (grown_any (row := none) hb2) (fun _ _ q => by cases q)) ⟨w1.heap.size, 0, none⟩ 1 1 [.slice (some ⟨V.heap.size, 0, none⟩) 2 2] (by rfl) (by rfl) (World.news_of_block (cs := #[.slice (some ⟨V.heap.size, 0, none⟩) 2 2]) (t := 33) (fr := (0, 0)) (heap_alloc_new _ _)) (by intro x hx; simp at hx; subst hx; rfl) (by omega) (by unfold maxLen; omega) (by omega) (by have := hb2.size; have := cq.lo; have := lt_of_block cq.box; omega) _ rfl ?_
        intro g cap w3 hown hgrow hat hlt
        have n3 : w3.cell? ⟨NB, 2, none⟩ = some r := (hgrow.cell_far ⟨NB, 2, none⟩ (by have := hb2.size; have := lt_of_block cq.box; show NB < _; omega) (fun q => by have := cq.tr NB q.symm; rw [cq.tn] at this; omega)).trans (keepc hb2 n2)
        have f3 : w3.frozen? ⟨NB, 2, none⟩ = false := by
          have hbx := (hgrow.block NB (by have := hb2.size; have := lt_of_block cq.box; omega) (fun q => by have := cq.tr NB q.symm; rw [cq.tn] at this; omega)).trans ((hb2.block NB (lt_of_block cq.box)).trans cq.box)
          exact frozen_of_row _ _ 2 _ _ hbx
        obtain ⟨tag2, cq2⟩ := cq.stepR (by omega) (by omega) hb2 (hu.below hA) hown hgrow hat rfl
        refine hK.out _ _ (fun _ => n3) (fun hH => ?_)
        clear hK K hHeld hown hgrow hat hA hb2 hu hA0
        have hHeld := hH (by decide)
        clear hH
        try simp only [Act.put, List.getElem_toArray, List.getElem_cons_zero, List.getElem_cons_succ, List.setIfInBounds_toArray, List.set_cons_zero, List.set_cons_succ]
        refine wpAnyK_take (i := 5) (v := .pointer (some ⟨NB, 2, none⟩)) rfl (by kernel_rfl) (by kernel_rfl) (by kernel_rfl) (by kernel_rfl) (fun _ _ _ h => h) (Or.inl ⟨by rfl, fun w' hSw => ?_⟩) (by assumption) ?_
        · (try dsimp only at hSw); go_simp
        try simp only [Act.put, List.getElem_toArray, List.getElem_cons_zero, List.getElem_cons_succ, List.setIfInBounds_toArray, List.set_cons_zero, List.set_cons_succ]
        refine wpAnyK_one (i := 6) (by kernel_rfl) rfl (fun K hK => ?_)
        go_simp
        refine hK.out _ _ (fun h => absurd rfl h) (fun _ => ?_)
        clear hK K n3 f3
        try simp only [Act.put, List.getElem_toArray, List.getElem_cons_zero, List.getElem_cons_succ, List.setIfInBounds_toArray, List.set_cons_zero, List.set_cons_succ]
        refine wpAnyK_done (by kernel_rfl) ?_
        have HQ := hide cq2
        clear cq cq2 n2
        go_wp2
        go_roundw
        case rel => exact ⟨k + 1, _, _, _, by omega, by go_num, HQ⟩
        case measure => simp [intOf]; omega
      · have ek : k = C := by omega
        subst ek
        obtain ⟨fR, r0, r1, r2⟩ := row3f cq.res
        obtain ⟨xr, yr, er, _⟩ := cq.ta.rs
        subst er
        have HF := hide cq.fin
        clear cq
        go_wp2
        exact bodyPost_ret (v := .tuple #[.agg #[.slice (some ⟨GM, 0, none⟩) 3 3, .slice (some ⟨GB, 0, none⟩) k k, .slice xr k yr], .bool true]) (by simp [results, Try.results52, go_sem, r0, r1, r2]) rfl ⟨_, _, _, vr, tag, rfl, HF.out.1, HF.out.2⟩

set_option maxHeartbeats 2000000 in
theorem implNewT_no (n : Int) (hn : ¬ (1 ≤ n ∧ n ≤ 3)) (w : World) : Calls Try.prog 52 #[.int .i64 n] w (NPost w [] 0 false) := by
  have hA := fun W => buffersOk_any n W
  have e1 : inB n 1 4 = false := by simp [inB]; omega
  rw [e1] at hA
  have hA0 : Below w.heap.size w (w.alloc (.cells #[.slice none 0 0, .slice none 0 0, .slice none 0 0] 37)) := (Below.refl _ _).alloc (Nat.le_refl _) _
  have hr0 := heap_alloc_new w (.cells #[.slice none 0 0, .slice none 0 0, .slice none 0 0] 37)
  clear e1 hn
  go_enter Try.func52, Try.ntmps52
  go_wp2_with fail
  generalize (World.alloc _ _) = W at hA0 hr0 ⊢
  refine (hA W).mono ?_
  rintro e w1 ⟨rfl, rfl⟩
  obtain ⟨fr, r0, r1, r2⟩ := row3f hr0
  clear hA hr0
  go_wp2
  refine bodyPost_ret (v := .tuple #[.agg #[.slice none 0 0, .slice none 0 0, .slice none 0 0], .bool false]) (by simp [results, Try.results52, go_sem, r0, r1, r2]) rfl (NPost.no ?_)
  have hle : w.heap.size ≤ w.heap.size := Nat.le_refl _
  iterate 3 (refine Below.setCell ?_ hle _)
  exact hA0

set_option maxHeartbeats 8000000 in
set_option maxRecDepth 20000 in
theorem specNewT_yes (C : Nat) (h1 : 1 ≤ C) (h3 : C ≤ 3) (w : World) : Calls Try.prog 48 #[.int .i64 C] w (NPost w [0, 0, 0] C true) := by
  obtain ⟨j0, hj, jz0, jz1, jz2⟩ := info_parts infoIs
  have hA := fun W => l1InB (C : Int) 1 3 W
  have e1 : inB (C : Int) 1 (3 + 1) = true := by simp [inB]; omega
  rw [e1] at hA
  have hmk := make_bufs C (by omega)
  have hmm0 := make_mem
  have hA0 : Below w.heap.size w (w.alloc (.cells #[.slice none 0 0, .slice none 0 0, .slice none 0 0] 37)) := (Below.refl _ _).alloc (Nat.le_refl _) _
  have hr0 := heap_alloc_new w (.cells #[.slice none 0 0, .slice none 0 0, .slice none 0 0] 37)
  have hsz : (w.alloc (.cells #[.slice none 0 0, .slice none 0 0, .slice none 0 0] 37)).heap.size = w.heap.size + 1 := by simp
  have HX := hide (And.intro hA0 (And.intro hr0 hsz))
  have HC := hide (And.intro h1 h3)
  clear e1 hA0 hr0 hsz h1 h3
  go_enter Try.func48, Try.ntmps48
  go_wp2_with fail
  generalize (World.alloc _ _) = W at HX ⊢
  refine (hA W).mono ?_
  rintro e w1 ⟨rfl, rfl⟩
  clear hA
  go_wp2
  go_cut [4] (fun p wc => ∃ NB GM GB tag, p = .pointer (some ⟨NB, 0, none⟩) ∧ Hid (Nq w wc NB (.slice (some ⟨GM, 0, none⟩) 3 3) (.slice (some ⟨GB, 0, none⟩) C C) (.slice none 0 0) C 0 z0V tag))
  case first =>
    refine wp_region_held_drew (S := fun _ => True) (by kernel_rfl) trivial (fun hHeld => ?_)
    refine wpAnyH_take (i := 1) (v := .int .i64 C) rfl (by kernel_rfl) (by kernel_rfl) (by kernel_rfl) (fun _ _ _ h => h) (Or.inl ⟨by rfl, fun w' hSw => ?_⟩) (by assumption) ?_
    · go_simp
    try simp only [Act.put, List.getElem_toArray, List.getElem_cons_zero, List.getElem_cons_succ, List.setIfInBounds_toArray, List.set_cons_zero, List.set_cons_succ]
    have hB := HX.out.1.drew
    have hres : w1.drew.heap[w.heap.size]? = _ := HX.out.2.1
    have HS : Hid (w1.drew.heap.size = w.heap.size + 1) := hide HX.out.2.2
    obtain ⟨V0, hV0⟩ : ∃ V, w1.drew = V := ⟨_, rfl⟩
    rw [hV0] at hB hres HS ⊢
    clear hV0 HX
    refine wpAnyH_ready (rs := [0, 2, 4]) (by kernel_rfl) (by simp) ?_
    refine (AllReadyH.cons rfl (fun K hK => ?_) (AllReadyH.cons rfl (fun K hK => ?_) (AllReadyH.cons rfl (fun K hK => ?_) AllReadyH.nil)))
    · go_simp
      have hA : Below V0.heap.size V0 (V0.alloc (.cells #[.int .i64 0, .int .i64 0, .int .i64 0] 2)) := (Below.refl _ _).alloc (Nat.le_refl _) _
      have hn := heap_alloc_new V0 (.cells #[.int .i64 0, .int .i64 0, .int .i64 0] 2)
      have hz : (V0.alloc (.cells #[.int .i64 0, .int .i64 0, .int .i64 0] 2)).heap.size = V0.heap.size + 1 := by simp
      obtain ⟨GM, hG⟩ : ∃ G, V0.heap.size = G := ⟨_, rfl⟩
      rw [hG] at hn hz ⊢
      generalize (World.alloc _ _) = V1 at hA hn hz ⊢
      have hB := hB.trans (hA.mono hB.size)
      have hres := (hA.block _ (lt_of_block hres)).trans hres
      have hmm := hn
      have lr := lt_of_block hres
      have HS := hide (And.intro HS.out (show w.heap.size < GM ∧ V1.heap.size = GM + 1 from by have := HS.out; omega))
      refine hK.out _ _ trivial (fun hHeld => ?_)
      clear hK K hA hn hz
      try simp only [Act.put, List.getElem_toArray, List.getElem_cons_zero, List.getElem_cons_succ, List.setIfInBounds_toArray, List.set_cons_zero, List.set_cons_succ]
      refine wpAnyH_ready (rs := [2, 4]) (by kernel_rfl) (by simp) ?_
      refine (AllReadyH.cons rfl (fun K hK => ?_) (AllReadyH.cons rfl (fun K hK => ?_) AllReadyH.nil))
      · go_simp
        have hA : Below V1.heap.size V1 (V1.alloc (.cells (madeCells #[.slice none 0 0] C) 90)) := (Below.refl _ _).alloc (Nat.le_refl _) _
        have hn := heap_alloc_new V1 (.cells (madeCells #[.slice none 0 0] C) 90)
        have hz : (V1.alloc (.cells (madeCells #[.slice none 0 0] C) 90)).heap.size = V1.heap.size + 1 := by simp
        obtain ⟨GB, hG⟩ : ∃ G, V1.heap.size = G := ⟨_, rfl⟩
        rw [hG] at hn hz ⊢
        generalize (World.alloc _ _) = V2 at hA hn hz ⊢
        have hB := hB.trans (hA.mono hB.size)
        have hres := (hA.block _ (lt_of_block hres)).trans hres
        have lm := lt_of_block hmm
        have hmm := (hA.block _ lm).trans hmm
        have hbf := hn
        have lr := lt_of_block hres
        have HS := hide (And.intro HS.out (show w.heap.size < GB ∧ V2.heap.size = GB + 1 from by have := HS.out; omega))
        refine hK.out _ _ trivial (fun hHeld => ?_)
        clear hK K hA hn hz
        try simp only [Act.put, List.getElem_toArray, List.getElem_cons_zero, List.getElem_cons_succ, List.setIfInBounds_toArray, List.set_cons_zero, List.set_cons_succ]
        refine wpAnyH_take (i := 3) (v := .agg #[.slice (some ⟨GM, 0, none⟩) 3 3, .slice (some ⟨GB, 0, none⟩) C C, .slice none 0 0]) rfl (by kernel_rfl) (by kernel_rfl) (by kernel_rfl) (fun _ _ _ h => h) (Or.inl ⟨by rfl, fun w' hSw => ?_⟩) (by assumption) ?_
        · go_simp
        try simp only [Act.put, List.getElem_toArray, List.getElem_cons_zero, List.getElem_cons_succ, List.setIfInBounds_toArray, List.set_cons_zero, List.set_cons_succ]
        refine wpAnyH_ready (rs := [4]) (by kernel_rfl) (by simp) ?_
        refine (AllReadyH.cons rfl (fun K hK => ?_) AllReadyH.nil)
        · go_simp
          have hA : Below V2.heap.size V2 (V2.alloc (.cells #[.slice none 0 0, .slice none 0 0, .slice none 0 0] 37)) := (Below.refl _ _).alloc (Nat.le_refl _) _
          have hn := heap_alloc_new V2 (.cells #[.slice none 0 0, .slice none 0 0, .slice none 0 0] 37)
          have hz : (V2.alloc (.cells #[.slice none 0 0, .slice none 0 0, .slice none 0 0] 37)).heap.size = V2.heap.size + 1 := by simp
          obtain ⟨NB, hG⟩ : ∃ G, V2.heap.size = G := ⟨_, rfl⟩
          rw [hG] at hn hz ⊢
          generalize (World.alloc _ _) = V3 at hA hn hz ⊢
          have hB := hB.trans (hA.mono hB.size)
          have hres := (hA.block _ (lt_of_block hres)).trans hres
          have lm := lt_of_block hmm
          have hmm := (hA.block _ lm).trans hmm
          have lb := lt_of_block hbf
          have hbf := (hA.block _ lb).trans hbf
          have hbox := hn
          have lr := lt_of_block hres
          have HO : Hid ((w.heap.size < NB ∧ w.heap.size < GM ∧ w.heap.size < GB) ∧ NB ≠ GM ∧ NB ≠ GB ∧ GM ≠ GB) := hide (by have := HS.out; omega)
          have HS := hide (And.intro HS.out (show w.heap.size < NB ∧ V3.heap.size = NB + 1 from by have := HS.out; omega))
          refine hK.out _ _ trivial (fun hHeld => ?_)
          clear hK K hA hn hz
          try simp only [Act.put, List.getElem_toArray, List.getElem_cons_zero, List.getElem_cons_succ, List.setIfInBounds_toArray, List.set_cons_zero, List.set_cons_succ]
          refine wpAnyH_ready (rs := [5]) (by kernel_rfl) (by simp) ?_
          refine AllReadyH.cons rfl (fun K hK => ?_) AllReadyH.nil
          obtain ⟨fr, r0, r1, r2⟩ := row3f hbox
          go_simp
          have hq := new_start hB hres hbox hmm hbf ⟨HO.out, by have := HC.out; omega⟩
          generalize (World.setCell _ _ _) = U at hq ⊢
          refine hK.out _ _ trivial (fun hHeld => ?_)
          clear hK K
          try simp only [Act.put, List.getElem_toArray, List.getElem_cons_zero, List.getElem_cons_succ, List.setIfInBounds_toArray, List.set_cons_zero, List.set_cons_succ]
          refine wpAnyH_done (by kernel_rfl) ?_ _
          try go_wp2_with fail
          go_meet
          exact ⟨NB, GM, GB, _, rfl, hide hq⟩
      · go_simp
        have hA : Below V1.heap.size V1 (V1.alloc (.cells #[.slice none 0 0, .slice none 0 0, .slice none 0 0] 37)) := (Below.refl _ _).alloc (Nat.le_refl _) _
        have hn := heap_alloc_new V1 (.cells #[.slice none 0 0, .slice none 0 0, .slice none 0 0] 37)
        have hz : (V1.alloc (.cells #[.slice none 0 0, .slice none 0 0, .slice none 0 0] 37)).heap.size = V1.heap.size + 1 := by simp
        obtain ⟨NB, hG⟩ : ∃ G, V1.heap.size = G := ⟨_, rfl⟩
        rw [hG] at hn hz ⊢
        generalize (World.alloc _ _) = V4 at hA hn hz ⊢
        have hB := hB.trans (hA.mono hB.size)
        have hres := (hA.block _ (lt_of_block hres)).trans hres
        have lm := lt_of_block hmm
        have hmm := (hA.block _ lm).trans hmm
        have hbox := hn
        have lr := lt_of_block hres
        have HS := hide (And.intro HS.out (show w.heap.size < NB ∧ V4.heap.size = NB + 1 from by have := HS.out; omega))
        refine hK.out _ _ trivial (fun hHeld => ?_)
        clear hK K hA hn hz
        try simp only [Act.put, List.getElem_toArray, List.getElem_cons_zero, List.getElem_cons_succ, List.setIfInBounds_toArray, List.set_cons_zero, List.set_cons_succ]
        refine wpAnyH_ready (rs := [2]) (by kernel_rfl) (by simp) ?_
        refine (AllReadyH.cons rfl (fun K hK => ?_) AllReadyH.nil)
        · go_simp
          have hA : Below V4.heap.size V4 (V4.alloc (.cells (madeCells #[.slice none 0 0] C) 90)) := (Below.refl _ _).alloc (Nat.le_refl _) _
          have hn := heap_alloc_new V4 (.cells (madeCells #[.slice none 0 0] C) 90)
          have hz : (V4.alloc (.cells (madeCells #[.slice none 0 0] C) 90)).heap.size = V4.heap.size + 1 := by simp
          obtain ⟨GB, hG⟩ : ∃ G, V4.heap.size = G := ⟨_, rfl⟩
          rw [hG] at hn hz ⊢
          generalize (World.alloc _ _) = V5 at hA hn hz ⊢
          have hB := hB.trans (hA.mono hB.size)
          have hres := (hA.block _ (lt_of_block hres)).trans hres
          have lm := lt_of_block hmm
          have hmm := (hA.block _ lm).trans hmm
          have lx := lt_of_block hbox
          have hbox := (hA.block _ lx).trans hbox
          have hbf := hn
          have lr := lt_of_block hres
          have HO : Hid ((w.heap.size < NB ∧ w.heap.size < GM ∧ w.heap.size < GB) ∧ NB ≠ GM ∧ NB ≠ GB ∧ GM ≠ GB) := hide (by have := HS.out; omega)
          have HS := hide (And.intro HS.out (show w.heap.size < GB ∧ V5.heap.size = GB + 1 from by have := HS.out; omega))
          refine hK.out _ _ trivial (fun hHeld => ?_)
          clear hK K hA hn hz
          try simp only [Act.put, List.getElem_toArray, List.getElem_cons_zero, List.getElem_cons_succ, List.setIfInBounds_toArray, List.set_cons_zero, List.set_cons_succ]
          refine wpAnyH_take (i := 3) (v := .agg #[.slice (some ⟨GM, 0, none⟩) 3 3, .slice (some ⟨GB, 0, none⟩) C C, .slice none 0 0]) rfl (by kernel_rfl) (by kernel_rfl) (by kernel_rfl) (fun _ _ _ h => h) (Or.inl ⟨by rfl, fun w' hSw => ?_⟩) (by assumption) ?_
          · go_simp
          try simp only [Act.put, List.getElem_toArray, List.getElem_cons_zero, List.getElem_cons_succ, List.setIfInBounds_toArray, List.set_cons_zero, List.set_cons_succ]
          refine wpAnyH_ready (rs := [5]) (by kernel_rfl) (by simp) ?_
          refine AllReadyH.cons rfl (fun K hK => ?_) AllReadyH.nil
          obtain ⟨fr, r0, r1, r2⟩ := row3f hbox
          go_simp
          have hq := new_start hB hres hbox hmm hbf ⟨HO.out, by have := HC.out; omega⟩
          generalize (World.setCell _ _ _) = U at hq ⊢
          refine hK.out _ _ trivial (fun hHeld => ?_)
          clear hK K
          try simp only [Act.put, List.getElem_toArray, List.getElem_cons_zero, List.getElem_cons_succ, List.setIfInBounds_toArray, List.set_cons_zero, List.set_cons_succ]
          refine wpAnyH_done (by kernel_rfl) ?_ _
          try go_wp2_with fail
          go_meet
          exact ⟨NB, GM, GB, _, rfl, hide hq⟩
    · go_simp
      have hA : Below V0.heap.size V0 (V0.alloc (.cells (madeCells #[.slice none 0 0] C) 90)) := (Below.refl _ _).alloc (Nat.le_refl _) _
      have hn := heap_alloc_new V0 (.cells (madeCells #[.slice none 0 0] C) 90)
      have hz : (V0.alloc (.cells (madeCells #[.slice none 0 0] C) 90)).heap.size = V0.heap.size + 1 := by simp
      obtain ⟨GB, hG⟩ : ∃ G, V0.heap.size = G := ⟨_, rfl⟩
      rw [hG] at hn hz ⊢
      generalize (World.alloc _ _) = V6 at hA hn hz ⊢
      have hB := hB.trans (hA.mono hB.size)
      have hres := (hA.block _ (lt_of_block hres)).trans hres
      have hbf := hn
      have lr := lt_of_block hres
      have HS := hide (And.intro HS.out (show w.heap.size < GB ∧ V6.heap.size = GB + 1 from by have := HS.out; omega))
      refine hK.out _ _ trivial (fun hHeld => ?_)
      clear hK K hA hn hz
      try simp only [Act.put, List.getElem_toArray, List.getElem_cons_zero, List.getElem_cons_succ, List.setIfInBounds_toArray, List.set_cons_zero, List.set_cons_succ]
      refine wpAnyH_ready (rs := [0, 4]) (by kernel_rfl) (by simp) ?_
      refine (AllReadyH.cons rfl (fun K hK => ?_) (AllReadyH.cons rfl (fun K hK => ?_) AllReadyH.nil))
      · go_simp
        have hA : Below V6.heap.size V6 (V6.alloc (.cells #[.int .i64 0, .int .i64 0, .int .i64 0] 2)) := (Below.refl _ _).alloc (Nat.le_refl _) _
        have hn := heap_alloc_new V6 (.cells #[.int .i64 0, .int .i64 0, .int .i64 0] 2)
        have hz : (V6.alloc (.cells #[.int .i64 0, .int .i64 0, .int .i64 0] 2)).heap.size = V6.heap.size + 1 := by simp
        obtain ⟨GM, hG⟩ : ∃ G, V6.heap.size = G := ⟨_, rfl⟩
        rw [hG] at hn hz ⊢
        generalize (World.alloc _ _) = V7 at hA hn hz ⊢
        have hB := hB.trans (hA.mono hB.size)
        have hres := (hA.block _ (lt_of_block hres)).trans hres
        have lb := lt_of_block hbf
        have hbf := (hA.block _ lb).trans hbf
        have hmm := hn
        have lr := lt_of_block hres
        have HS := hide (And.intro HS.out (show w.heap.size < GM ∧ V7.heap.size = GM + 1 from by have := HS.out; omega))
        refine hK.out _ _ trivial (fun hHeld => ?_)
        clear hK K hA hn hz
        try simp only [Act.put, List.getElem_toArray, List.getElem_cons_zero, List.getElem_cons_succ, List.setIfInBounds_toArray, List.set_cons_zero, List.set_cons_succ]
        refine wpAnyH_take (i := 3) (v := .agg #[.slice (some ⟨GM, 0, none⟩) 3 3, .slice (some ⟨GB, 0, none⟩) C C, .slice none 0 0]) rfl (by kernel_rfl) (by kernel_rfl) (by kernel_rfl) (fun _ _ _ h => h) (Or.inl ⟨by rfl, fun w' hSw => ?_⟩) (by assumption) ?_
        · go_simp
        try simp only [Act.put, List.getElem_toArray, List.getElem_cons_zero, List.getElem_cons_succ, List.setIfInBounds_toArray, List.set_cons_zero, List.set_cons_succ]
        refine wpAnyH_ready (rs := [4]) (by kernel_rfl) (by simp) ?_
        refine (AllReadyH.cons rfl (fun K hK => ?_) AllReadyH.nil)
        · go_simp
          have hA : Below V7.heap.size V7 (V7.alloc (.cells #[.slice none 0 0, .slice none 0 0, .slice none 0 0] 37)) := (Below.refl _ _).alloc (Nat.le_refl _) _
          have hn := heap_alloc_new V7 (.cells #[.slice none 0 0, .slice none 0 0, .slice none 0 0] 37)
          have hz : (V7.alloc (.cells #[.slice none 0 0, .slice none 0 0, .slice none 0 0] 37)).heap.size = V7.heap.size + 1 := by simp
          obtain ⟨NB, hG⟩ : ∃ G, V7.heap.size = G := ⟨_, rfl⟩
          rw [hG] at hn hz ⊢
          generalize (World.alloc _ _) = V8 at hA hn hz ⊢
          have hB := hB.trans (hA.mono hB.size)
          have hres := (hA.block _ (lt_of_block hres)).trans hres
          have lm := lt_of_block hmm
          have hmm := (hA.block _ lm).trans hmm
          have lb := lt_of_block hbf
          have hbf := (hA.block _ lb).trans hbf
          have hbox := hn
          have lr := lt_of_block hres
          have HO : Hid ((w.heap.size < NB ∧ w.heap.size < GM ∧ w.heap.size < GB) ∧ NB ≠ GM ∧ NB ≠ GB ∧ GM ≠ GB) := hide (by have := HS.out; omega)
          have HS := hide (And.intro HS.out (show w.heap.size < NB ∧ V8.heap.size = NB + 1 from by have := HS.out; omega))
          refine hK.out _ _ trivial (fun hHeld => ?_)
          clear hK K hA hn hz
          try simp only [Act.put, List.getElem_toArray, List.getElem_cons_zero, List.getElem_cons_succ, List.setIfInBounds_toArray, List.set_cons_zero, List.set_cons_succ]
          refine wpAnyH_ready (rs := [5]) (by kernel_rfl) (by simp) ?_
          refine AllReadyH.cons rfl (fun K hK => ?_) AllReadyH.nil
          obtain ⟨fr, r0, r1, r2⟩ := row3f hbox
          go_simp
          have hq := new_start hB hres hbox hmm hbf ⟨HO.out, by have := HC.out; omega⟩
          generalize (World.setCell _ _ _) = U at hq ⊢
          refine hK.out _ _ trivial (fun hHeld => ?_)
          clear hK K
          try simp only [Act.put, List.getElem_toArray, List.getElem_cons_zero, List.getElem_cons_succ, List.setIfInBounds_toArray, List.set_cons_zero, List.set_cons_succ]
          refine wpAnyH_done (by kernel_rfl) ?_ _
          try go_wp2_with fail
          go_meet
          exact ⟨NB, GM, GB, _, rfl, hide hq⟩
      · go_simp
        have hA : Below V6.heap.size V6 (V6.alloc (.cells #[.slice none 0 0, .slice none 0 0, .slice none 0 0] 37)) := (Below.refl _ _).alloc (Nat.le_refl _) _
        have hn := heap_alloc_new V6 (.cells #[.slice none 0 0, .slice none 0 0, .slice none 0 0] 37)
        have hz : (V6.alloc (.cells #[.slice none 0 0, .slice none 0 0, .slice none 0 0] 37)).heap.size = V6.heap.size + 1 := by simp
        obtain ⟨NB, hG⟩ : ∃ G, V6.heap.size = G := ⟨_, rfl⟩
        rw [hG] at hn hz ⊢
        generalize (World.alloc _ _) = V9 at hA hn hz ⊢
        have hB := hB.trans (hA.mono hB.size)
        have hres := (hA.block _ (lt_of_block hres)).trans hres
        have lb := lt_of_block hbf
        have hbf := (hA.block _ lb).trans hbf
        have hbox := hn
        have lr := lt_of_block hres
        have HS := hide (And.intro HS.out (show w.heap.size < NB ∧ V9.heap.size = NB + 1 from by have := HS.out; omega))
        refine hK.out _ _ trivial (fun hHeld => ?_)
        clear hK K hA hn hz
        try simp only [Act.put, List.getElem_toArray, List.getElem_cons_zero, List.getElem_cons_succ, List.setIfInBounds_toArray, List.set_cons_zero, List.set_cons_succ]
        refine wpAnyH_ready (rs := [0]) (by kernel_rfl) (by simp) ?_
        refine (AllReadyH.cons rfl (fun K hK => ?_) AllReadyH.nil)
        · go_simp
          have hA : Below V9.heap.size V9 (V9.alloc (.cells #[.int .i64 0, .int .i64 0, .int .i64 0] 2)) := (Below.refl _ _).alloc (Nat.le_refl _) _
          have hn := heap_alloc_new V9 (.cells #[.int .i64 0, .int .i64 0, .int .i64 0] 2)
          have hz : (V9.alloc (.cells #[.int .i64 0, .int .i64 0, .int .i64 0] 2)).heap.size = V9.heap.size + 1 := by simp
          obtain ⟨GM, hG⟩ : ∃ G, V9.heap.size = G := ⟨_, rfl⟩
          rw [hG] at hn hz ⊢
          generalize (World.alloc _ _) = V10 at hA hn hz ⊢
          have hB := hB.trans (hA.mono hB.size)
          have hres := (hA.block _ (lt_of_block hres)).trans hres
          have lb := lt_of_block hbf
          have hbf := (hA.block _ lb).trans hbf
          have lx := lt_of_block hbox
          have hbox := (hA.block _ lx).trans hbox
          have hmm := hn
          have lr := lt_of_block hres
          have HO : Hid ((w.heap.size < NB ∧ w.heap.size < GM ∧ w.heap.size < GB) ∧ NB ≠ GM ∧ NB ≠ GB ∧ GM ≠ GB) := hide (by have := HS.out; omega)
          have HS := hide (And.intro HS.out (show w.heap.size < GM ∧ V10.heap.size = GM + 1 from by have := HS.out; omega))
          refine hK.out _ _ trivial (fun hHeld => ?_)
          clear hK K hA hn hz
          try simp only [Act.put, List.getElem_toArray, List.getElem_cons_zero, List.getElem_cons_succ, List.setIfInBounds_toArray, List.set_cons_zero, List.set_cons_succ]
          refine wpAnyH_take (i := 3) (v := .agg #[.slice (some ⟨GM, 0, none⟩) 3 3, .slice (some ⟨GB, 0, none⟩) C C, .slice none 0 0]) rfl (by kernel_rfl) (by kernel_rfl) (by kernel_rfl) (fun _ _ _ h => h) (Or.inl ⟨by rfl, fun w' hSw => ?_⟩) (by assumption) ?_
          · go_simp
          try simp only [Act.put, List.getElem_toArray, List.getElem_cons_zero, List.getElem_cons_succ, List.setIfInBounds_toArray, List.set_cons_zero, List.set_cons_succ]
          refine wpAnyH_ready (rs := [5]) (by kernel_rfl) (by simp) ?_
          refine AllReadyH.cons rfl (fun K hK => ?_) AllReadyH.nil
          obtain ⟨fr, r0, r1, r2⟩ := row3f hbox
          go_simp
          have hq := new_start hB hres hbox hmm hbf ⟨HO.out, by have := HC.out; omega⟩
          generalize (World.setCell _ _ _) = U at hq ⊢
          refine hK.out _ _ trivial (fun hHeld => ?_)
          clear hK K
          try simp only [Act.put, List.getElem_toArray, List.getElem_cons_zero, List.getElem_cons_succ, List.setIfInBounds_toArray, List.set_cons_zero, List.set_cons_succ]
          refine wpAnyH_done (by kernel_rfl) ?_ _
          try go_wp2_with fail
          go_meet
          exact ⟨NB, GM, GB, _, rfl, hide hq⟩
    · go_simp
      have hA : Below V0.heap.size V0 (V0.alloc (.cells #[.slice none 0 0, .slice none 0 0, .slice none 0 0] 37)) := (Below.refl _ _).alloc (Nat.le_refl _) _
      have hn := heap_alloc_new V0 (.cells #[.slice none 0 0, .slice none 0 0, .slice none 0 0] 37)
      have hz : (V0.alloc (.cells #[.slice none 0 0, .slice none 0 0, .slice none 0 0] 37)).heap.size = V0.heap.size + 1 := by simp
      obtain ⟨NB, hG⟩ : ∃ G, V0.heap.size = G := ⟨_, rfl⟩
      rw [hG] at hn hz ⊢
      generalize (World.alloc _ _) = V11 at hA hn hz ⊢
      have hB := hB.trans (hA.mono hB.size)
      have hres := (hA.block _ (lt_of_block hres)).trans hres
      have hbox := hn
      have lr := lt_of_block hres
      have HS := hide (And.intro HS.out (show w.heap.size < NB ∧ V11.heap.size = NB + 1 from by have := HS.out; omega))
      refine hK.out _ _ trivial (fun hHeld => ?_)
      clear hK K hA hn hz
      try simp only [Act.put, List.getElem_toArray, List.getElem_cons_zero, List.getElem_cons_succ, List.setIfInBounds_toArray, List.set_cons_zero, List.set_cons_succ]
      refine wpAnyH_ready (rs := [0, 2]) (by kernel_rfl) (by simp) ?_
      refine (AllReadyH.cons rfl (fun K hK => ?_) (AllReadyH.cons rfl (fun K hK => ?_) AllReadyH.nil))
      · go_simp
        have hA : Below V11.heap.size V11 (V11.alloc (.cells #[.int .i64 0, .int .i64 0, .int .i64 0] 2)) := (Below.refl _ _).alloc (Nat.le_refl _) _
        have hn := heap_alloc_new V11 (.cells #[.int .i64 0, .int .i64 0, .int .i64 0] 2)
        have hz : (V11.alloc (.cells #[.int .i64 0, .int .i64 0, .int .i64 0] 2)).heap.size = V11.heap.size + 1 := by simp
        obtain ⟨GM, hG⟩ : ∃ G, V11.heap.size = G := ⟨_, rfl⟩
        rw [hG] at hn hz ⊢
        generalize (World.alloc _ _) = V12 at hA hn hz ⊢
        have hB := hB.trans (hA.mono hB.size)
        have hres := (hA.block _ (lt_of_block hres)).trans hres
        have lx := lt_of_block hbox
        have hbox := (hA.block _ lx).trans hbox
        have hmm := hn
        have lr := lt_of_block hres
        have HS := hide (And.intro HS.out (show w.heap.size < GM ∧ V12.heap.size = GM + 1 from by have := HS.out; omega))
        refine hK.out _ _ trivial (fun hHeld => ?_)
        clear hK K hA hn hz
        try simp only [Act.put, List.getElem_toArray, List.getElem_cons_zero, List.getElem_cons_succ, List.setIfInBounds_toArray, List.set_cons_zero, List.set_cons_succ]
        refine wpAnyH_ready (rs := [2]) (by kernel_rfl) (by simp) ?_
        refine (AllReadyH.cons rfl (fun K hK => ?_) AllReadyH.nil)
        · go_simp
          have hA : Below V12.heap.size V12 (V12.alloc (.cells (madeCells #[.slice none 0 0] C) 90)) := (Below.refl _ _).alloc (Nat.le_refl _) _
          have hn := heap_alloc_new V12 (.cells (madeCells #[.slice none 0 0] C) 90)
          have hz : (V12.alloc (.cells (madeCells #[.slice none 0 0] C) 90)).heap.size = V12.heap.size + 1 := by simp
          obtain ⟨GB, hG⟩ : ∃ G, V12.heap.size = G := ⟨_, rfl⟩
          rw [hG] at hn hz ⊢
          generalize (World.alloc _ _) = V13 at hA hn hz ⊢
          have hB := hB.trans (hA.mono hB.size)
          have hres := (hA.block _ (lt_of_block hres)).trans hres
          have lm := lt_of_block hmm
          have hmm := (hA.block _ lm).trans hmm
          have lx := lt_of_block hbox
          have hbox := (hA.block _ lx).trans hbox
          have hbf := hn
          have lr := lt_of_block hres
          have HO : Hid ((w.heap.size < NB ∧ w.heap.size < GM ∧ w.heap.size < GB) ∧ NB ≠ GM ∧ NB ≠ GB ∧ GM ≠ GB) := hide (by have := HS.out; omega)
          have HS := hide (And.intro HS.out (show w.heap.size < GB ∧ V13.heap.size = GB + 1 from by have := HS.out; omega))
          refine hK.out _ _ trivial (fun hHeld => ?_)
          clear hK K hA hn hz
          try simp only [Act.put, List.getElem_toArray, List.getElem_cons_zero, List.getElem_cons_succ, List.setIfInBounds_toArray, List.set_cons_zero, List.set_cons_succ]
          refine wpAnyH_take (i := 3) (v := .agg #[.slice (some ⟨GM, 0, none⟩) 3 3, .slice (some ⟨GB, 0, none⟩) C C, .slice none 0 0]) rfl (by kernel_rfl) (by kernel_rfl) (by kernel_rfl) (fun _ _ _ h => h) (Or.inl ⟨by rfl, fun w' hSw => ?_⟩) (by assumption) ?_
          · go_simp
          try simp only [Act.put, List.getElem_toArray, List.getElem_cons_zero, List.getElem_cons_succ, List.setIfInBounds_toArray, List.set_cons_zero, List.set_cons_succ]
          refine wpAnyH_ready (rs := [5]) (by kernel_rfl) (by simp) ?_
          refine AllReadyH.cons rfl (fun K hK => ?_) AllReadyH.nil
          obtain ⟨fr, r0, r1, r2⟩ := row3f hbox
          go_simp
          have hq := new_start hB hres hbox hmm hbf ⟨HO.out, by have := HC.out; omega⟩
          generalize (World.setCell _ _ _) = U at hq ⊢
          refine hK.out _ _ trivial (fun hHeld => ?_)
          clear hK K
          try simp only [Act.put, List.getElem_toArray, List.getElem_cons_zero, List.getElem_cons_succ, List.setIfInBounds_toArray, List.set_cons_zero, List.set_cons_succ]
          refine wpAnyH_done (by kernel_rfl) ?_ _
          try go_wp2_with fail
          go_meet
          exact ⟨NB, GM, GB, _, rfl, hide hq⟩
      · go_simp
        have hA : Below V11.heap.size V11 (V11.alloc (.cells (madeCells #[.slice none 0 0] C) 90)) := (Below.refl _ _).alloc (Nat.le_refl _) _
        have hn := heap_alloc_new V11 (.cells (madeCells #[.slice none 0 0] C) 90)
        have hz : (V11.alloc (.cells (madeCells #[.slice none 0 0] C) 90)).heap.size = V11.heap.size + 1 := by simp
        obtain ⟨GB, hG⟩ : ∃ G, V11.heap.size = G := ⟨_, rfl⟩
        rw [hG] at hn hz ⊢
        generalize (World.alloc _ _) = V14 at hA hn hz ⊢
        have hB := hB.trans (hA.mono hB.size)
        have hres := (hA.block _ (lt_of_block hres)).trans hres
        have lx := lt_of_block hbox
        have hbox := (hA.block _ lx).trans hbox
        have hbf := hn
        have lr := lt_of_block hres
        have HS := hide (And.intro HS.out (show w.heap.size < GB ∧ V14.heap.size = GB + 1 from by have := HS.out; omega))
        refine hK.out _ _ trivial (fun hHeld => ?_)
        clear hK K hA hn hz
        try simp only [Act.put, List.getElem_toArray, List.getElem_cons_zero, List.getElem_cons_succ, List.setIfInBounds_toArray, List.set_cons_zero, List.set_cons_succ]
        refine wpAnyH_ready (rs := [0]) (by kernel_rfl) (by simp) ?_
        refine (AllReadyH.cons rfl (fun K hK => ?_) AllReadyH.nil)
        · go_simp
          have hA : Below V14.heap.size V14 (V14.alloc (.cells #[.int .i64 0, .int .i64 0, .int .i64 0] 2)) := (Below.refl _ _).alloc (Nat.le_refl _) _
          have hn := heap_alloc_new V14 (.cells #[.int .i64 0, .int .i64 0, .int .i64 0] 2)
          have hz : (V14.alloc (.cells #[.int .i64 0, .int .i64 0, .int .i64 0] 2)).heap.size = V14.heap.size + 1 := by simp
          obtain ⟨GM, hG⟩ : ∃ G, V14.heap.size = G := ⟨_, rfl⟩
          rw [hG] at hn hz ⊢
          generalize (World.alloc _ _) = V15 at hA hn hz ⊢
          have hB := hB.trans (hA.mono hB.size)
          have hres := (hA.block _ (lt_of_block hres)).trans hres
          have lb := lt_of_block hbf
          have hbf := (hA.block _ lb).trans hbf
          have lx := lt_of_block hbox
          have hbox := (hA.block _ lx).trans hbox
          have hmm := hn
          have lr := lt_of_block hres
          have HO : Hid ((w.heap.size < NB ∧ w.heap.size < GM ∧ w.heap.size < GB) ∧ NB ≠ GM ∧ NB ≠ GB ∧ GM ≠ GB) := hide (by have := HS.out; omega)
          have HS := hide (And.intro HS.out (show w.heap.size < GM ∧ V15.heap.size = GM + 1 from by have := HS.out; omega))
          refine hK.out _ _ trivial (fun hHeld => ?_)
          clear hK K hA hn hz
          try simp only [Act.put, List.getElem_toArray, List.getElem_cons_zero, List.getElem_cons_succ, List.setIfInBounds_toArray, List.set_cons_zero, List.set_cons_succ]
          refine wpAnyH_take (i := 3) (v := .agg #[.slice (some ⟨GM, 0, none⟩) 3 3, .slice (some ⟨GB, 0, none⟩) C C, .slice none 0 0]) rfl (by kernel_rfl) (by kernel_rfl) (by kernel_rfl) (fun _ _ _ h => h) (Or.inl ⟨by rfl, fun w' hSw => ?_⟩) (by assumption) ?_
          · go_simp
          try simp only [Act.put, List.getElem_toArray, List.getElem_cons_zero, List.getElem_cons_succ, List.setIfInBounds_toArray, List.set_cons_zero, List.set_cons_succ]
          refine wpAnyH_ready (rs := [5]) (by kernel_rfl) (by simp) ?_
          refine AllReadyH.cons rfl (fun K hK => ?_) AllReadyH.nil
          obtain ⟨fr, r0, r1, r2⟩ := row3f hbox
          go_simp
          have hq := new_start hB hres hbox hmm hbf ⟨HO.out, by have := HC.out; omega⟩
          generalize (World.setCell _ _ _) = U at hq ⊢
          refine hK.out _ _ trivial (fun hHeld => ?_)
          clear hK K
          try simp only [Act.put, List.getElem_toArray, List.getElem_cons_zero, List.getElem_cons_succ, List.setIfInBounds_toArray, List.set_cons_zero, List.set_cons_succ]
          refine wpAnyH_done (by kernel_rfl) ?_ _
          try go_wp2_with fail
          go_meet
          exact ⟨NB, GM, GB, _, rfl, hide hq⟩
  case rest =>
    obtain ⟨NB, GM, GB, tag, rfl, HN⟩ := hcut
    clear HX hmk hmm0
    go_wp2
    go_loopw [5] (fun i wr => ∃ (k : Nat) (r : Value) (vr : Nat → Value) (tag : Nat → Nat), k ≤ C ∧ i = .int .i64 k ∧ Hid (Nq w wr NB (.slice (some ⟨GM, 0, none⟩) 3 3) (.slice (some ⟨GB, 0, none⟩) C C) r C k vr tag)) (fun i _ => C - (intOf i).toNat)
    case atStart => exact ⟨0, .slice none 0 0, z0V, tag, by omega, rfl, HN⟩
    case round =>
      clear HN
      obtain ⟨k, r, vr, tag, hk, rfl, HQ⟩ := hrel
      have cq := HQ.out
      have hC3 := HC.out
      clear HQ
      obtain ⟨_, n0, n1, n2⟩ := row3f cq.box
      by_cases hlt : k < C
      · clear n0 n1
        go_wp2
        refine wp_region_but (z := 6) (S := fun W => W.cell? ⟨NB, 2, none⟩ = some r) (by kernel_rfl) n2 (fun hHeld => ?_)
        replace cq := cq.drew
        replace n2 : wr.drew.cell? ⟨NB, 2, none⟩ = some r := n2
        obtain ⟨V, hV⟩ : ∃ V, wr.drew = V := ⟨_, rfl⟩
        rw [hV] at cq n2 hHeld ⊢
        clear hV
        refine wpAnyK_take (i := 0) (v := .pointer (some ⟨NB, 2, none⟩)) rfl (by kernel_rfl) (by kernel_rfl) (by kernel_rfl) (by kernel_rfl) (fun _ _ _ h => h) (Or.inl ⟨by rfl, fun w' hSw => ?_⟩) (by assumption) ?_
        · (try dsimp only at hSw); go_simp
        try simp only [Act.put, List.getElem_toArray, List.getElem_cons_zero, List.getElem_cons_succ, List.setIfInBounds_toArray, List.set_cons_zero, List.set_cons_succ]
        refine wpAnyK_take (i := 1) (v := r) rfl (by kernel_rfl) (by kernel_rfl) (by kernel_rfl) (by kernel_rfl) (fun _ _ _ h => h) (Or.inl ⟨by rfl, fun w' hSw => ?_⟩) (by assumption) ?_
        · (try dsimp only at hSw); go_simp
        try simp only [Act.put, List.getElem_toArray, List.getElem_cons_zero, List.getElem_cons_succ, List.setIfInBounds_toArray, List.set_cons_zero, List.set_cons_succ]
        refine wpAnyK_one (i := 2) (by kernel_rfl) rfl (fun K hK => ?_)
        have hmr := make_reg
        go_simp
        have hA0 : Below V.heap.size V (V.alloc (.cells #[.int .i64 0, .int .i64 0] 2)) := (Below.refl _ _).alloc (Nat.le_refl _) _
        have hu := reg_own V
        clear hmr
        refine hK.out _ _ (fun _ => keepc hA0 n2) (fun hH => ?_)
        clear hK K hHeld
        have hHeld := hH (by decide)
        clear hH
        try simp only [Act.put, List.getElem_toArray, List.getElem_cons_zero, List.getElem_cons_succ, List.setIfInBounds_toArray, List.set_cons_zero, List.set_cons_succ]
        obtain ⟨w1, hw1⟩ : ∃ w1, V.alloc (.cells #[.int .i64 0, .int .i64 0] 2) = w1 := ⟨_, rfl⟩
        rw [hw1] at hA0 hu hHeld ⊢
        clear hw1
        refine wpAnyK_one (i := 3) (by kernel_rfl) rfl (fun K hK => ?_)
        go_simp
        have hA : Below w1.heap.size w1 (w1.alloc (.cells #[.slice (some ⟨V.heap.size, 0, none⟩) 2 2] 33)) := (Below.refl _ _).alloc (Nat.le_refl _) _
        have hb2 := hA0.trans (hA.mono hA0.size)
        refine hK.out _ _ (fun _ => keepc hb2 n2) (fun hH => ?_)
        clear hK K hHeld
        have hHeld := hH (by decide)
        clear hH
        try simp only [Act.put, List.getElem_toArray, List.getElem_cons_zero, List.getElem_cons_succ, List.setIfInBounds_toArray, List.set_cons_zero, List.set_cons_succ]
        refine wpAnyK_one (i := 4) (by kernel_rfl) rfl (fun K hK => ?_)
        refine step_append_lies _ (by rfl) _ _ 35 (by rfl) (w.heap.size + 1) 33 j0 _ 1 24 Try.underlying35 hj jz0 jz1 jz2 rfl (by omega) r k ((List.range k).map vr) (by rfl) (own_kept cq.or (grown_any (row := none) hb2) (fun _ _ q => by cases q)) ⟨w1.heap.size, 0, none⟩ 1 1 [.slice (some ⟨V.heap.size, 0, none⟩) 2 2] (by rfl) (by rfl) (World.news_of_block (cs := #[.slice (some ⟨V.heap.size, 0, none⟩) 2 2]) (t := 33) (fr := (0, 0)) (heap_alloc_new _ _)) (by intro x hx; simp at hx; subst hx; rfl) (by omega) (by unfold maxLen; omega) (by omega) (by have := hb2.size; have := cq.lo; have := lt_of_block cq.box; omega) _ rfl ?_
        intro g cap w3 hown hgrow hat hlt
        have n3 : w3.cell? ⟨NB, 2, none⟩ = some r := (hgrow.cell_far ⟨NB, 2, none⟩ (by have := hb2.size; have := lt_of_block cq.box; show NB < _; omega) (fun q => by have := cq.tr NB q.symm; rw [cq.tn] at this; omega)).trans (keepc hb2 n2)
        have f3 : w3.frozen? ⟨NB, 2, none⟩ = false := by
          have hbx := (hgrow.block NB (by have := hb2.size; have := lt_of_block cq.box; omega) (fun q => by have := cq.tr NB q.symm; rw [cq.tn] at this; omega)).trans ((hb2.block NB (lt_of_block cq.box)).trans cq.box)
          exact frozen_of_row _ _ 2 _ _ hbx
        obtain ⟨tag2, cq2⟩ := cq.stepR (by omega) (by omega) hb2 (hu.below hA) hown hgrow hat rfl
        refine hK.out _ _ (fun _ => n3) (fun hH => ?_)
        clear hK K hHeld hown hgrow hat hA hb2 hu hA0
        have hHeld := hH (by decide)
        clear hH
        try simp only [Act.put, List.getElem_toArray, List.getElem_cons_zero, List.getElem_cons_succ, List.setIfInBounds_toArray, List.set_cons_zero, List.set_cons_succ]
        refine wpAnyK_take (i := 5) (v := .pointer (some ⟨NB, 2, none⟩)) rfl (by kernel_rfl) (by kernel_rfl) (by kernel_rfl) (by kernel_rfl) (fun _ _ _ h => h) (Or.inl ⟨by rfl, fun w' hSw => ?_⟩) (by assumption) ?_
        · (try dsimp only at hSw); go_simp
        try simp only [Act.put, List.getElem_toArray, List.getElem_cons_zero, List.getElem_cons_succ, List.setIfInBounds_toArray, List.set_cons_zero, List.set_cons_succ]
        refine wpAnyK_one (i := 6) (by kernel_rfl) rfl (fun K hK => ?_)
        go_simp
        refine hK.out _ _ (fun h => absurd rfl h) (fun _ => ?_)
        clear hK K n3 f3
        try simp only [Act.put, List.getElem_toArray, List.getElem_cons_zero, List.getElem_cons_succ, List.setIfInBounds_toArray, List.set_cons_zero, List.set_cons_succ]
        refine wpAnyK_done (by kernel_rfl) ?_
        have HQ := hide cq2
        clear cq cq2 n2
        go_wp2
        go_roundw
        case rel => exact ⟨k + 1, _, _, _, by omega, by go_num, HQ⟩
        case measure => simp [intOf]; omega
      · have ek : k = C := by omega
        subst ek
        obtain ⟨fR, r0, r1, r2⟩ := row3f cq.res
        obtain ⟨xr, yr, er, _⟩ := cq.ta.rs
        subst er
        have HF := hide cq.fin
        clear cq
        go_wp2
        exact bodyPost_ret (v := .tuple #[.agg #[.slice (some ⟨GM, 0, none⟩) 3 3, .slice (some ⟨GB, 0, none⟩) k k, .slice xr k yr], .bool true]) (by simp [results, Try.results48, go_sem, r0, r1, r2]) rfl ⟨_, _, _, vr, tag, rfl, HF.out.1, HF.out.2⟩

set_option maxHeartbeats 2000000 in
theorem specNewT_no (n : Int) (hn : ¬ (1 ≤ n ∧ n ≤ 3)) (w : World) : Calls Try.prog 48 #[.int .i64 n] w (NPost w [] 0 false) := by
  have hA := fun W => l1InB n 1 3 W
  have e1 : inB n 1 (3 + 1) = false := by simp [inB]; omega
  rw [e1] at hA
  have hA0 : Below w.heap.size w (w.alloc (.cells #[.slice none 0 0, .slice none 0 0, .slice none 0 0] 37)) := (Below.refl _ _).alloc (Nat.le_refl _) _
  have hr0 := heap_alloc_new w (.cells #[.slice none 0 0, .slice none 0 0, .slice none 0 0] 37)
  clear e1 hn
  go_enter Try.func48, Try.ntmps48
  go_wp2_with fail
  generalize (World.alloc _ _) = W at hA0 hr0 ⊢
  refine (hA W).mono ?_
  rintro e w1 ⟨rfl, rfl⟩
  obtain ⟨fr, r0, r1, r2⟩ := row3f hr0
  clear hA hr0
  go_wp2
  refine bodyPost_ret (v := .tuple #[.agg #[.slice none 0 0, .slice none 0 0, .slice none 0 0], .bool false]) (by simp [results, Try.results48, go_sem, r0, r1, r2]) rfl (NPost.no ?_)
  have hle : w.heap.size ≤ w.heap.size := Nat.le_refl _
  iterate 3 (refine Below.setCell ?_ hle _)
  exact hA0

end Go.Proofs.Ytcocobmanlmjdaa
