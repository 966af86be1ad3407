/- spec.MachineNew (written by mkMnC.py) -/
import Derived.Test.YtelknolcneiikaaDoorOzA
import Derived.Deep.RegionHeld
namespace Go.Proofs.YtelknolcneiikaaDoor
open Go.RowKit
set_option linter.unusedVariables false
set_option linter.unusedSimpArgs false

theorem slots_own (V : World) {N : Nat} {RW : Array Value} (hN : N ≤ 4) (hW : madeCells #[.int .i64 0, .int .i64 0, .int .i64 0, .int .i64 0] (N * 4) = RW) : (V.alloc (.cells RW 47)).ownsRow V.heap.size 47 4 (full V.heap.size N) N RW.toList := by
  have s4 : RW.size = N * 4 := by rw [← hW]; simp [madeCells]
  refine ⟨by simp [s4], .inr ⟨V.heap.size, N, RW, rfl, Nat.le_refl _, heap_alloc_new _ _, Nat.le_refl _, by unfold maxLen; omega, by rw [s4], ?_⟩⟩
  rw [List.take_of_length_le (by simp [s4])]
theorem slots_zero {N : Nat} {RW : Array Value} (hW : madeCells #[.int .i64 0, .int .i64 0, .int .i64 0, .int .i64 0] (N * 4) = RW) : RW.toList = List.replicate (N * 4) (.int .i64 0) := by
  have s4 : RW.size = N * 4 := by rw [← hW]; simp [madeCells]
  apply List.ext_getElem?
  intro x
  by_cases hx : x < N * 4
  · rw [Array.getElem?_toList, ← hW, made_at (m := 4) (show (#[Value.int .i64 0, .int .i64 0, .int .i64 0, .int .i64 0] : Array Value).size = 4 from rfl) hx]
    have e : x % 4 = 0 ∨ x % 4 = 1 ∨ x % 4 = 2 ∨ x % 4 = 3 := by omega
    rw [List.getElem?_replicate, if_pos hx]
    rcases e with e | e | e | e <;> rw [e] <;> rfl
  · rw [List.getElem?_eq_none (by simp [s4]; omega), List.getElem?_eq_none (by simp; omega)]

set_option maxHeartbeats 2000000 in
theorem specNew_no (c l : Int) (w : World) (h : sizeB c l = false) : Calls Tryd.prog 7 #[.int .i64 c, .int .i64 l] w fun e w' => e = .returned (.tuple #[.agg (mc3 (.slice none 0 0) (.slice none 0 0) (.slice none 0 0)), .bool false]) ∧ Below w.heap.size w w' := by
  have h1 := fun W => in_any c 2 5 W
  have h2 := fun W => in_any l 1 4 W
  have hA : Below w.heap.size w (w.alloc (.cells (mc3 (.slice none 0 0) (.slice none 0 0) (.slice none 0 0)) 30)) := (Below.refl _ _).alloc (Nat.le_refl _) _
  have hr := heap_alloc_new w (.cells (mc3 (.slice none 0 0) (.slice none 0 0) (.slice none 0 0)) 30)
  unfold sizeB at h
  cases e1 : inB c 2 5 with
  | false =>
    rw [e1] at h1
    clear h e1 h2
    go_enter Tryd.func7, Tryd.ntmps7
    go_wp2_with fail
    generalize (World.alloc _ _) = W at hA hr ⊢
    refine (h1 _).mono ?_
    rintro e w1 ⟨rfl, rfl⟩
    obtain ⟨fr, r0, r1, r2⟩ := row3_facts hr
    clear h1 hr
    go_wp2
    refine bodyPost_ret (v := .tuple #[.agg (mc3 (.slice none 0 0) (.slice none 0 0) (.slice none 0 0)), .bool false]) (by simp [results, Tryd.results7, go_sem, r0, r1, r2]) rfl ⟨rfl, ?_⟩
    have hle : w.heap.size ≤ w.heap.size := Nat.le_refl _
    iterate 3 (refine Below.setCell ?_ hle _)
    exact hA
  | true =>
    rw [e1, Bool.true_and] at h
    rw [e1] at h1
    rw [h] at h2
    clear h e1
    go_enter Tryd.func7, Tryd.ntmps7
    go_wp2_with fail
    generalize (World.alloc _ _) = W at hA hr ⊢
    refine (h1 _).mono ?_
    rintro e w1 ⟨rfl, rfl⟩
    go_wp2_with fail
    refine (h2 _).mono ?_
    rintro e w1 ⟨rfl, rfl⟩
    obtain ⟨fr, r0, r1, r2⟩ := row3_facts hr
    clear h1 h2 hr
    go_wp2
    refine bodyPost_ret (v := .tuple #[.agg (mc3 (.slice none 0 0) (.slice none 0 0) (.slice none 0 0)), .bool false]) (by simp [results, Tryd.results7, go_sem, r0, r1, r2]) rfl ⟨rfl, ?_⟩
    have hle : w.heap.size ≤ w.heap.size := Nat.le_refl _
    iterate 3 (refine Below.setCell ?_ hle _)
    exact hA

theorem Mq.start (w : World) (N : Nat) (RL : Array Value) (ZS : List Value) (W : World) (hW : ((w.alloc (.cells (mc3 (.slice none 0 0) (.slice none 0 0) (.slice none 0 0)) 30)).alloc (.cells RL 51)).alloc (.cells (mc3 (.slice none 0 0) (full (w.heap.size + 1) N) (.slice none 0 0)) 30) = W) :
    Mq w W (w.heap.size + 1 + 1) (w.heap.size + 1) N 0 (.slice none 0 0) RL ZS (fun _ => .slice none 0 0) := by
  subst hW
  refine ⟨(((Below.refl _ _).alloc (Nat.le_refl _) _).alloc (by simp) _).alloc (by simp; omega) _, ?_, ?_, ?_, ⟨by simp, .inl ⟨rfl, rfl⟩⟩, fun c hc => absurd hc (by omega), (fun g hg => nomatch hg), fun c hc => absurd hc (by omega), ⟨by omega, by omega, by omega⟩⟩
  · rw [Below.heap_alloc _ _ _ (by simp; omega), Below.heap_alloc _ _ _ (by simp)]; exact heap_alloc_new _ _
  · have := heap_alloc_new ((w.alloc (.cells (mc3 (.slice none 0 0) (.slice none 0 0) (.slice none 0 0)) 30)).alloc (.cells RL 51)) (.cells (mc3 (.slice none 0 0) (full (w.heap.size + 1) N) (.slice none 0 0)) 30); simpa only [World.size_alloc] using this
  · rw [Below.heap_alloc _ _ _ (by simp)]; have := heap_alloc_new (w.alloc (.cells (mc3 (.slice none 0 0) (.slice none 0 0) (.slice none 0 0)) 30)) (.cells RL 51); simpa only [World.size_alloc] using this

set_option maxHeartbeats 8000000 in
set_option maxRecDepth 20000 in
theorem specNew_yes (C N : Nat) (w : World) (hC : C ≤ 5) (hN : N ≤ 4) (h : sizeB (C : Int) (N : Int) = true) : Calls Tryd.prog 7 #[.int .i64 C, .int .i64 N] w fun e w' => ∃ xa ya g2, e = .returned (.tuple #[.agg (mc3 (.slice xa C ya) (full g2 N) (.slice none 0 0)), .bool true]) ∧ NewS w w' C N (.slice xa C ya) (full g2 N) := by
  obtain ⟨j0, hj, jz0, jz1, jz2⟩ := info_parts infoSlots
  unfold sizeB at h
  rw [Bool.and_eq_true] at h
  have h1 := fun W => in_any (C : Int) 2 5 W
  have h2 := fun W => in_any (N : Int) 1 4 W
  rw [h.1] at h1
  rw [h.2] at h2
  have hm2 := make_lines N hN
  have hm3 := make_slots N hN
  obtain ⟨RL, hRL⟩ : ∃ RL, madeCells zln (N * 7) = RL := ⟨_, rfl⟩
  rw [hRL] at hm2
  have HRL := hide hRL
  obtain ⟨RW, hRW⟩ : ∃ RW, madeCells #[.int .i64 0, .int .i64 0, .int .i64 0, .int .i64 0] (N * 4) = RW := ⟨_, rfl⟩
  rw [hRW] at hm3
  have HRW := hide hRW
  have HN := hide hN
  have HS := hide (Mq.start w N RL RW.toList)
  clear hRL hRW h
  go_enter Tryd.func7, Tryd.ntmps7
  go_wp2_with fail
  refine (h1 _).mono ?_
  rintro e w1 ⟨rfl, rfl⟩
  go_wp2_with fail
  refine (h2 _).mono ?_
  rintro e w1 ⟨rfl, rfl⟩
  clear h1 h2
  go_wp2
  generalize hWW : (World.alloc (World.alloc (World.alloc _ _) _) _) = WW
  have HM := hide (HS.out WW hWW)
  clear HS hWW hm2
  generalize w.heap.size + 1 + 1 = NB at HM ⊢
  generalize w.heap.size + 1 = g2 at HM ⊢
  go_loopw [7] (fun i wr => ∃ (k : Nat) (r : Value) (vr : Nat → Value), k ≤ C ∧ i = .int .i64 k ∧ Hid (Mq w wr NB g2 N k r RL RW.toList vr)) (fun i _ => C - (intOf i).toNat)
  case atStart => exact ⟨0, _, _, by omega, rfl, HM⟩
  case round =>
    clear HM
    obtain ⟨k, r, vr, hk, rfl, HQ⟩ := hrel
    have cq := HQ.out
    clear HQ
    obtain ⟨_, n0, n1, n2⟩ := row3_facts cq.box
    by_cases hlt : k < C
    · clear n1 n2
      go_wp2
      refine wp_region_but (z := 7) (S := fun W => W.cell? ⟨NB, 0, none⟩ = some r) (by kernel_rfl) n0 (fun hHeld => ?_)
      replace cq := cq.drew
      replace n0 : wr.drew.cell? ⟨NB, 0, none⟩ = some r := n0
      obtain ⟨V, hV⟩ : ∃ V, wr.drew = V := ⟨_, rfl⟩
      rw [hV] at cq n0 hHeld ⊢
      clear hV
      refine wpAnyK_take (i := 0) (v := .pointer (some ⟨NB, 0, none⟩)) rfl (by kernel_rfl) (by kernel_rfl) (by kernel_rfl) (by kernel_rfl) (fun _ _ _ h => h) (Or.inl ⟨by rfl, fun w' hSw => ?_⟩) (by assumption) ?_
      · (try dsimp only at hSw); go_simp
      try simp only [Act.put, List.getElem_toArray, List.getElem_cons_zero, List.getElem_cons_succ, List.setIfInBounds_toArray, List.set_cons_zero, List.set_cons_succ]
      refine wpAnyK_take (i := 1) (v := r) rfl (by kernel_rfl) (by kernel_rfl) (by kernel_rfl) (by kernel_rfl) (fun _ _ _ h => h) (Or.inl ⟨by rfl, fun w' hSw => ?_⟩) (by assumption) ?_
      · (try dsimp only at hSw); go_simp
      try simp only [Act.put, List.getElem_toArray, List.getElem_cons_zero, List.getElem_cons_succ, List.setIfInBounds_toArray, List.set_cons_zero, List.set_cons_succ]
      refine wpAnyK_take (i := 2) (v := .int .i64 N) rfl (by kernel_rfl) (by kernel_rfl) (by kernel_rfl) (by kernel_rfl) (fun _ _ _ h => h) (Or.inl ⟨by rfl, fun w' hSw => ?_⟩) (by assumption) ?_
      · (try dsimp only at hSw); go_simp
      try simp only [Act.put, List.getElem_toArray, List.getElem_cons_zero, List.getElem_cons_succ, List.setIfInBounds_toArray, List.set_cons_zero, List.set_cons_succ]
      refine wpAnyK_one (i := 3) (by kernel_rfl) rfl (fun K hK => ?_)
      go_simp
      have hA0 : Below V.heap.size V (V.alloc (.cells RW 47)) := (Below.refl _ _).alloc (Nat.le_refl _) _
      have hu : (V.alloc (.cells RW 47)).ownsRow V.heap.size 47 4 (full V.heap.size N) N RW.toList := slots_own V HN.out HRW.out
      refine hK.out _ _ (fun _ => keepc hA0 n0) (fun hH => ?_)
      clear hK K hHeld
      have hHeld := hH (by decide)
      clear hH
      try simp only [Act.put, List.getElem_toArray, List.getElem_cons_zero, List.getElem_cons_succ, List.setIfInBounds_toArray, List.set_cons_zero, List.set_cons_succ]
      obtain ⟨w1, hw1⟩ : ∃ w1, V.alloc (.cells RW 47) = w1 := ⟨_, rfl⟩
      rw [hw1] at hA0 hu hHeld ⊢
      clear hw1
      refine wpAnyK_one (i := 4) (by kernel_rfl) rfl (fun K hK => ?_)
      go_simp
      have hA : Below w1.heap.size w1 (w1.alloc (.cells #[full V.heap.size N] 43)) := (Below.refl _ _).alloc (Nat.le_refl _) _
      have hb2 := hA0.trans (hA.mono hA0.size)
      refine hK.out _ _ (fun _ => keepc hb2 n0) (fun hH => ?_)
      clear hK K hHeld
      have hHeld := hH (by decide)
      clear hH
      try simp only [Act.put, List.getElem_toArray, List.getElem_cons_zero, List.getElem_cons_succ, List.setIfInBounds_toArray, List.set_cons_zero, List.set_cons_succ]
      refine wpAnyK_one (i := 5) (by kernel_rfl) rfl (fun K hK => ?_)
      refine step_append_lies _ (by rfl) _ _ 26 (by rfl) (w.heap.size + 1) 43 j0 _ 1 24 Tryd.underlying26 hj jz0 jz1 jz2 rfl (by omega) r k ((List.range k).map vr) (by rfl) (own_stay cq.or (grown_of (row := none) hb2) (fun _ _ q => by cases q)) ⟨w1.heap.size, 0, none⟩ 1 1 [full V.heap.size N] (by rfl) (by rfl) (World.news_of_block (cs := #[full V.heap.size N]) (t := 43) (fr := (0, 0)) (heap_alloc_new _ _)) (by intro x hx; simp at hx; subst hx; rfl) (by omega) (by unfold maxLen; omega) (by omega) (by have := hb2.size; have := cq.lo; have := lt_of_block cq.box; omega) _ rfl ?_
      intro g cap w3 hown hgrow hat hlt
      have hbx := (hgrow.block NB (by have := hb2.size; have := lt_of_block cq.box; omega) (fun q => (cq.n1 NB q.symm).1 rfl)).trans ((hb2.block NB (lt_of_block cq.box)).trans cq.box)
      obtain ⟨f3, n3, _, _⟩ := row3_facts hbx
      have cq2 := cq.step hb2 (own_stay hu (grown_of (row := none) hA) (fun _ _ q => by cases q)) hown hgrow hat rfl
      refine hK.out _ _ (fun _ => n3) (fun hH => ?_)
      clear hK K hHeld hown hgrow hat hA hb2 hu hA0 hbx
      have hHeld := hH (by decide)
      clear hH
      try simp only [Act.put, List.getElem_toArray, List.getElem_cons_zero, List.getElem_cons_succ, List.setIfInBounds_toArray, List.set_cons_zero, List.set_cons_succ]
      refine wpAnyK_take (i := 6) (v := .pointer (some ⟨NB, 0, none⟩)) rfl (by kernel_rfl) (by kernel_rfl) (by kernel_rfl) (by kernel_rfl) (fun _ _ _ h => h) (Or.inl ⟨by rfl, fun w' hSw => ?_⟩) (by assumption) ?_
      · (try dsimp only at hSw); go_simp
      try simp only [Act.put, List.getElem_toArray, List.getElem_cons_zero, List.getElem_cons_succ, List.setIfInBounds_toArray, List.set_cons_zero, List.set_cons_succ]
      refine wpAnyK_one (i := 7) (by kernel_rfl) rfl (fun K hK => ?_)
      go_simp
      refine hK.out _ _ (fun h => absurd rfl h) (fun _ => ?_)
      clear hK K n3 f3
      try simp only [Act.put, List.getElem_toArray, List.getElem_cons_zero, List.getElem_cons_succ, List.setIfInBounds_toArray, List.set_cons_zero, List.set_cons_succ]
      refine wpAnyK_done (by kernel_rfl) ?_
      have HQ := hide cq2
      clear cq cq2 n0
      go_wp2
      go_roundw
      case rel => exact ⟨k + 1, _, _, by omega, by go_num, HQ⟩
      case measure => simp [intOf]; omega
    · have ek : k = C := by omega
      subst ek
      obtain ⟨fR, r0, r1, r2⟩ := row3_facts cq.res
      obtain ⟨xr, yr, er⟩ : ∃ a c, r = .slice a k c := by
        rcases cq.or.2 with ⟨h', hn⟩ | ⟨g, cap, cur, h', _⟩
        · exact ⟨none, 0, by rw [hn]; exact h'⟩
        · exact ⟨_, cap, h'⟩
      subst er
      have HF := hide (cq.fin HRL.out (slots_zero HRW.out))
      clear cq
      go_wp2
      exact bodyPost_ret (v := .tuple #[.agg (mc3 (.slice xr k yr) (full g2 N) (.slice none 0 0)), .bool true]) (by simp [results, Tryd.results7, go_sem, r0, r1, r2]) rfl ⟨xr, yr, g2, rfl, HF.out⟩

end Go.Proofs.YtelknolcneiikaaDoor
