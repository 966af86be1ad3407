/- LqdM, LqdN, LqdO, RpX, in one text -/
import Derived.Test.YtcocobmanlmjdaaZLqdL
import Derived.Test.YtcocobmanlmjdaaTmG
/- spec.l11Step: a drain; whatever is picked (written by mkLqdL.py) -/
namespace Go.Proofs.Ytcocobmanlmjdaa
open Go.RowKit
set_option linter.unusedVariables false
set_option linter.unusedSimpArgs false

theorem mod_sub {p n : Nat} (h : n ≤ p) (h2 : p < 2 * n) : p % n = p - n := by rw [Nat.mod_eq_sub_mod h, Nat.mod_eq_of_lt (by omega)]

set_option maxHeartbeats 8000000 in
set_option maxRecDepth 20000 in
theorem step_drain (ta : Option Addr) (tn tc : Nat) (L : Nat → Nat) (F : Nat → Nat → Nat → Int) (s : Rs) (mv bv rv av : Value) (p : Nat) (w : World) (hs : Sa w (.slice ta tn tc) tn L F) (h : St w mv bv rv av s tn) (hr : Rok tn L s) (h1 : 1 ≤ tn) (htn : tn ≤ 2) (hL : ∀ c, c < tn → L c ≤ 3) (hp : tn ≤ p) (hp2 : p < 2 * tn) :
    Calls Try.prog 27 #[.agg #[.slice ta tn tc], .agg #[mv, bv, rv, av], .int .i64 p, .bool true] w (StQ w tn mv bv rv av (drn tn s (p - tn))) := by
  obtain ⟨⟨ma, mc, rfl⟩, ⟨ba, bc, rfl⟩, ⟨ra, rc, rfl⟩⟩ := three_of h.tv
  obtain ⟨pa, po, ac, rfl, hat⟩ := h.ar
  have HST := hide h
  have HSA := hide hs
  have HRK := hide hr
  obtain ⟨W, hW⟩ : ∃ W, ((w.alloc (.cells #[.slice ta tn tc] 29)).alloc (.cells #[.slice ma s.d.zs.length mc, .slice ba tn bc, .slice ra tn rc, .slice (some ⟨pa, po, none⟩) tn ac] 59)).alloc (.cells #[nil3, nil3, nil3, nil3] 59) = W := ⟨_, rfl⟩
  have hWs : W.heap.size = w.heap.size + 1 + 1 + 1 := by rw [← hW]; simp
  have hB0 : Below w.heap.size w W := by rw [← hW]; exact (((Below.refl _ _).alloc (Nat.le_refl _) _).alloc (by simp) _).alloc (by simp; omega) _
  have gl : W.heap[w.heap.size]? = some (.cells #[.slice ta tn tc] 29 (0, 0)) := by rw [← hW, Below.heap_alloc _ _ _ (by simp; omega), Below.heap_alloc _ _ _ (by simp)]; exact heap_alloc_new _ _
  have gs : W.heap[w.heap.size + 1]? = some (.cells #[.slice ma s.d.zs.length mc, .slice ba tn bc, .slice ra tn rc, .slice (some ⟨pa, po, none⟩) tn ac] 59 (0, 0)) := by
    rw [← hW, Below.heap_alloc _ _ _ (by simp)]
    have := heap_alloc_new (w.alloc (.cells #[.slice ta tn tc] 29)) (.cells #[.slice ma s.d.zs.length mc, .slice ba tn bc, .slice ra tn rc, .slice (some ⟨pa, po, none⟩) tn ac] 59)
    simpa only [World.size_alloc] using this
  have ga : W.heap[w.heap.size + 1 + 1]? = some (.cells #[nil3, nil3, nil3, nil3] 59 (0, 0)) := by
    rw [← hW]
    have := heap_alloc_new ((w.alloc (.cells #[.slice ta tn tc] 29)).alloc (.cells #[.slice ma s.d.zs.length mc, .slice ba tn bc, .slice ra tn rc, .slice (some ⟨pa, po, none⟩) tn ac] 59)) (.cells #[nil3, nil3, nil3, nil3] 59)
    simpa only [World.size_alloc] using this
  obtain ⟨co, hco⟩ : ∃ co, p % tn = co := ⟨_, rfl⟩
  have hcl : co < tn := hco ▸ Nat.mod_lt _ (by omega)
  have hm1 : ((p : Int) % (tn : Int)) = (co : Int) := by rw [← hco]; simp
  have hm2 : ((p : Int).tmod (tn : Int)) = (co : Int) := by rw [Int.tmod_eq_emod_of_nonneg (by omega), hm1]
  have hm3 : wrap64 (co : Int) = (co : Int) := Go.IntWalk.wrap64_in _ (by omega)
  have hz0 : ((tn : Int) == 0) = false := by simp; omega
  have hA12 : Below W.heap.size W (W.alloc (.cells (five 4 (co : Int) 0 0 0) 51)) := (Below.refl _ _).alloc (Nat.le_refl _) _
  have g12 : (W.alloc (.cells (five 4 (co : Int) 0 0 0) 51)).heap[W.heap.size]? = some (.cells (five 4 (co : Int) 0 0 0) 51 (0, 0)) := heap_alloc_new _ _
  obtain ⟨V, hV⟩ : ∃ V, W.alloc (.cells (five 4 (co : Int) 0 0 0) 51) = V := ⟨_, rfl⟩
  rw [hV] at hA12 g12
  have hVs : V.heap.size = w.heap.size + 1 + 1 + 1 + 1 := by rw [← hV]; simp [hWs]
  have gl2 := heap_b gl hA12
  have gs2 := heap_b gs hA12
  have ga2 := heap_b ga hA12
  have hBV := hB0.trans (hA12.mono hB0.size)
  rw [hWs] at g12
  have x0 : V.cell? ⟨w.heap.size, 0, none⟩ = some (.slice ta tn tc) := (cell_of_row _ _ 0 _ _ _ gl2).trans rfl
  have xl : W.cell? ⟨w.heap.size, 0, none⟩ = some (.slice ta tn tc) := (cell_of_row _ _ 0 _ _ _ gl).trans rfl
  obtain ⟨fs, s0, s1, s2, s3⟩ := row4_facts gs2
  obtain ⟨fa, z0, z1, z2, z3⟩ := row4_facts ga2
  have HG := hide (And.intro gs2 (And.intro ga2 (And.intro g12 hBV)))
  have HSZ := hide (And.intro hWs hVs)
  clear gl gs ga gl2 gs2 ga2 hB0 hA12 g12 hs h hr hWs hVs xl
  subst hW
  have HV := hide hV
  clear hV
  have hpg : ¬ (p < tn) := by omega
  have hco2 : co = p - tn := by rw [← hco]; exact mod_sub hp hp2
  have hi1 : ¬ ((p : Int) < (tn : Int)) := by omega
  have hi2 : decide ((p : Int) < (tn : Int)) = false := by simp; omega
  have hi3 : decide (p < tn) = false := by simp; omega
  have DRNEQ : Hid (drn tn s (p - tn) = (if okc s.d tn 4 (co : Int) 0 0 0 = 0 then some ⟨nxt s.d tn 4 (co : Int) 0 0 0, s.a⟩ else none)) := hide (by rw [← hco2]; rfl)
  have HCO := hide (And.intro hco2 hco)
  clear hco2 hco hat
  go_enter Try.func27, Try.ntmps27
  go_upto_region 8 with fail
  rw [HV.out]
  obtain ⟨V8, hV8⟩ : ∃ V8, V = V8 := ⟨_, rfl⟩
  subst hV8
  have HG8 := HG
  obtain ⟨c120, c121, c122, c123, c124⟩ := row5_facts HG8.out.2.2.1
  have hl8 := lt_of_block HG8.out.2.2.1
  clear HG HV
  have hdo := fun W (h : St W (.slice ma s.d.zs.length mc) (.slice ba tn bc) (.slice ra tn rc) (.slice (some ⟨pa, po, none⟩) tn ac) s tn) => l10Do_any (.slice ma s.d.zs.length mc) (.slice ba tn bc) (.slice ra tn rc) s.d tn 4 (co : Int) 0 0 0 W (St.tv h) HRK.out.tok (St.cap h)
  go_wp2_with fail
  refine (hdo _ (HST.out.below HG8.out.2.2.2)).mono ?_
  rintro e w5 ⟨m5, b5, r5, vb5, vr5, tag5, rfl, ta5, hb5, hcp5⟩
  obtain ⟨⟨xm, ym, rfl⟩, ⟨xb, yb5, rfl⟩, ⟨xr, yr5, rfl⟩⟩ := three_of (Ta.tv ta5)
  have gs5 := heap_b HG8.out.1 hb5
  have ga5 := heap_b HG8.out.2.1 hb5
  have HB5 := hide (HG8.out.2.2.2.trans (hb5.mono HG8.out.2.2.2.size))
  have hV8s := HG8.out.2.2.2.size
  have hz5 := hb5.size
  have fr5 := Frc.of ta5 hcp5
  generalize hd5 : nxt s.d tn 4 (co : Int) 0 0 0 = d5 at *
  have hA13 : Below w5.heap.size w5 (w5.alloc (.cells #[.slice xm d5.zs.length ym, .slice xb tn yb5, .slice xr tn yr5] 37)) := (Below.refl _ _).alloc (Nat.le_refl _) _
  obtain ⟨t0, t1, t2⟩ := box3 w5 (.slice xm d5.zs.length ym) (.slice xb tn yb5) (.slice xr tn yr5) 37
  have gs6 := heap_b gs5 hA13
  have ga6 := heap_b ga5 hA13
  have fr6 := fr5.below hA13
  have HB6 := hide (HB5.out.trans (hA13.mono HB5.out.size))
  have har6 := (HST.out.below HB6.out).ar
  clear ta5 hb5 hcp5 HG8 hdo s0 s1 s2 s3 z0 z1 z2 z3 fs fa gs5 ga5 fr5 HB5
  obtain ⟨fs, s0, s1, s2, s3⟩ := row4_facts gs6
  obtain ⟨fa, z0, z1, z2, z3⟩ := row4_facts ga6
  obtain ⟨V6, hV6⟩ : ∃ V, w5.alloc (.cells #[.slice xm d5.zs.length ym, .slice xb tn yb5, .slice xr tn yr5] 37) = V := ⟨_, rfl⟩
  have hV6s : V6.heap.size = w5.heap.size + 1 := by rw [← hV6]; simp
  rw [hV6] at t0 t1 t2 s0 s1 s2 s3 z0 z1 z2 z3 fs fa gs6 ga6 fr6 HB6 hA13 har6
  by_cases ho : okc s.d tn 4 (co : Int) 0 0 0 = 0
  · have HEO : Hid (drn tn s (p - tn) = some ⟨d5, s.a⟩) := hide (by rw [DRNEQ.out, if_pos ho])
    rw [ho]
    clear ho
    go_wp2
    clear hV6
    go_cut [15] (fun pp wc => ∃ b15 g gc, pp = .pointer (some ⟨b15, 0, none⟩) ∧ Hid (wc.heap[b15]? = some (.cells #[.slice xm d5.zs.length ym, .slice xb tn yb5, .slice xr tn yr5, .slice (some ⟨g, 0, none⟩) tn gc] 59 (0, 0)) ∧ wc.heap[w.heap.size + 1 + 1]? = some (.cells #[nil3, nil3, nil3, nil3] 59 (0, 0)) ∧ Frc wc V.heap.size w5.heap.size (.slice xm d5.zs.length ym) (.slice xb tn yb5) (.slice xr tn yr5) d5 tn ∧ On wc V6.heap.size (.slice (some ⟨g, 0, none⟩) tn gc) tn s.a ∧ Below w.heap.size w wc ∧ V6.heap.size ≤ b15 ∧ b15 ≠ g))
    case first =>
      refine wp_region_held_drew (S := fun w' => Below V6.heap.size V6 w') (by kernel_rfl) ((Below.refl _ _).drew) (fun hHeld => ?_)
      refine wpAnyH_take (i := 0) (v := .agg #[.slice xm d5.zs.length ym, .slice xb tn yb5, .slice xr tn yr5]) rfl (by kernel_rfl) (by kernel_rfl) (by kernel_rfl) (fun _ _ _ h => h) (Or.inl ⟨by rfl, fun w' hSw => ?_⟩) (by assumption) ?_
      · (try dsimp only at hSw); have t0 := keepc hSw t0; have t1 := keepc hSw t1; have t2 := keepc hSw t2; go_simp
      try simp only [Act.put, List.getElem_toArray, List.getElem_cons_zero, List.getElem_cons_succ, List.setIfInBounds_toArray, List.set_cons_zero, List.set_cons_succ]
      refine wpAnyH_take (i := 2) (v := .pointer (some ⟨w.heap.size + 1, 3, none⟩)) rfl (by kernel_rfl) (by kernel_rfl) (by kernel_rfl) (fun _ _ _ h => h) (Or.inl ⟨by rfl, fun w' hSw => ?_⟩) (by assumption) ?_
      · (try dsimp only at hSw); skip; go_simp
      try simp only [Act.put, List.getElem_toArray, List.getElem_cons_zero, List.getElem_cons_succ, List.setIfInBounds_toArray, List.set_cons_zero, List.set_cons_succ]
      refine wpAnyH_take (i := 3) (v := .slice (some ⟨pa, po, none⟩) tn ac) rfl (by kernel_rfl) (by kernel_rfl) (by kernel_rfl) (fun _ _ _ h => h) (Or.inl ⟨by rfl, fun w' hSw => ?_⟩) (by assumption) ?_
      · (try dsimp only at hSw); have s3 := keepc hSw s3; go_simp
      try simp only [Act.put, List.getElem_toArray, List.getElem_cons_zero, List.getElem_cons_succ, List.setIfInBounds_toArray, List.set_cons_zero, List.set_cons_succ]
      obtain ⟨V0, hV0⟩ : ∃ V, V6.drew = V := ⟨_, rfl⟩
      rw [hV0] at hHeld ⊢
      clear hV0 t0 t1 t2 s0 s1 s2 s3
      have sz0 := hHeld.size
      have hHe0 := hHeld
      refine wpAnyH_ready (rs := [1, 6]) (by kernel_rfl) (by simp) ?_
      refine AllReadyH.cons rfl (fun K hK => ?_) (AllReadyH.cons rfl (fun K hK => ?_) AllReadyH.nil)
      · go_simp
        have hA1 : Below V0.heap.size V0 (V0.alloc (.cells #[] 3)) := (Below.refl _ _).alloc (Nat.le_refl _) _
        have hH1 := hHe0.trans (hA1.mono hHe0.size)
        refine hK.out _ _ hH1 (fun hHeld => ?_)
        clear hK K
        try simp only [Act.put, List.getElem_toArray, List.getElem_cons_zero, List.getElem_cons_succ, List.setIfInBounds_toArray, List.set_cons_zero, List.set_cons_succ]
        refine wpAnyH_ready (rs := [4, 6]) (by kernel_rfl) (by simp) ?_
        refine AllReadyH.cons rfl (fun K hK => ?_) (AllReadyH.cons rfl (fun K hK => ?_) AllReadyH.nil)
        · obtain ⟨g, gc, w7, hrun, hon7, hgr7, hg7⟩ := appN (V0.alloc (.cells #[] 3)) V0.heap.size V0.heap.size (.slice (some ⟨pa, po, none⟩) tn ac) tn s.a 57 (empty_own V0 3 1) (har6.below hH1) (by omega) (by omega) (by simp)
          have hb7 : Below V0.heap.size V0 w7 := hA1.grown hgr7 hA1.size (fun x e => by simp only [Option.some.injEq] at e; omega)
          have hH7 := hHe0.trans (hb7.mono sz0)
          refine step_append_run (by rfl) _ _ 57 (by rfl) (by rfl) (by rfl) hrun ?_
          refine hK.out _ _ hH7 (fun hHeld => ?_)
          clear hK K
          try simp only [Act.put, List.getElem_toArray, List.getElem_cons_zero, List.getElem_cons_succ, List.setIfInBounds_toArray, List.set_cons_zero, List.set_cons_succ]
          clear hrun
          refine wpAnyH_take (i := 5) (v := .agg #[.slice xm d5.zs.length ym, .slice xb tn yb5, .slice xr tn yr5, .slice (some ⟨g, 0, none⟩) tn gc]) rfl (by kernel_rfl) (by kernel_rfl) (by kernel_rfl) (fun _ _ _ h => h) (Or.inl ⟨by rfl, fun w' hSw => ?_⟩) (by assumption) ?_
          · (try dsimp only at hSw); skip; go_simp
          try simp only [Act.put, List.getElem_toArray, List.getElem_cons_zero, List.getElem_cons_succ, List.setIfInBounds_toArray, List.set_cons_zero, List.set_cons_succ]
          refine wpAnyH_ready (rs := [6]) (by kernel_rfl) (by simp) ?_
          refine AllReadyH.cons rfl (fun K hK => ?_) AllReadyH.nil
          go_simp
          have hA9 : Below w7.heap.size w7 (w7.alloc (.cells #[.slice none 0 0, .slice none 0 0, .slice none 0 0, .slice none 0 0] 59)) := (Below.refl _ _).alloc (Nat.le_refl _) _
          refine hK.out _ _ (hHeld.trans (hA9.mono hHeld.size)) (fun hHeld => ?_)
          clear hK K
          try simp only [Act.put, List.getElem_toArray, List.getElem_cons_zero, List.getElem_cons_succ, List.setIfInBounds_toArray, List.set_cons_zero, List.set_cons_succ]
          have hA10 : Below w7.heap.size w7 (w7.alloc (.cells #[.slice xm d5.zs.length ym, .slice xb tn yb5, .slice xr tn yr5, .slice (some ⟨g, 0, none⟩) tn gc] 59)) := (Below.refl _ _).alloc (Nat.le_refl _) _
          have hb9 := hH7.trans (hA10.mono hH7.size)
          have hs7 := hH7.size
          have hgl := World.ownsRow.lt hon7 g rfl
          have HZ : Hid ((w7.alloc (.cells #[.slice xm d5.zs.length ym, .slice xb tn yb5, .slice xr tn yr5, .slice (some ⟨g, 0, none⟩) tn gc] 59)).heap[w7.heap.size]? = some (.cells #[.slice xm d5.zs.length ym, .slice xb tn yb5, .slice xr tn yr5, .slice (some ⟨g, 0, none⟩) tn gc] 59 (0, 0)) ∧ (w7.alloc (.cells #[.slice xm d5.zs.length ym, .slice xb tn yb5, .slice xr tn yr5, .slice (some ⟨g, 0, none⟩) tn gc] 59)).heap[w.heap.size + 1 + 1]? = some (.cells #[nil3, nil3, nil3, nil3] 59 (0, 0)) ∧ Frc (w7.alloc (.cells #[.slice xm d5.zs.length ym, .slice xb tn yb5, .slice xr tn yr5, .slice (some ⟨g, 0, none⟩) tn gc] 59)) V.heap.size w5.heap.size (.slice xm d5.zs.length ym) (.slice xb tn yb5) (.slice xr tn yr5) d5 tn ∧ On (w7.alloc (.cells #[.slice xm d5.zs.length ym, .slice xb tn yb5, .slice xr tn yr5, .slice (some ⟨g, 0, none⟩) tn gc] 59)) V6.heap.size (.slice (some ⟨g, 0, none⟩) tn gc) tn s.a ∧ Below w.heap.size w (w7.alloc (.cells #[.slice xm d5.zs.length ym, .slice xb tn yb5, .slice xr tn yr5, .slice (some ⟨g, 0, none⟩) tn gc] 59)) ∧ V6.heap.size ≤ w7.heap.size ∧ w7.heap.size ≠ g) := hide ⟨heap_alloc_new _ _, heap_b ga6 hb9, fr6.below hb9, (hon7.below hA10).mono sz0, HB6.out.trans (hb9.mono HB6.out.size), by omega, by omega⟩
          clear hon7 hb7 hA9 hA10 hH7 hH1 hA1 hgr7
          refine wpAnyH_ready (rs := [7]) (by kernel_rfl) (by simp) ?_
          refine AllReadyH.cons rfl (fun K hK => ?_) AllReadyH.nil
          go_simp
          refine hK.out _ _ hb9 (fun hHeld => ?_)
          clear hK K
          try simp only [Act.put, List.getElem_toArray, List.getElem_cons_zero, List.getElem_cons_succ, List.setIfInBounds_toArray, List.set_cons_zero, List.set_cons_succ]
          refine wpAnyH_done (by kernel_rfl) ?_ _
          try go_wp2_with fail
          go_meet
          exact ⟨_, _, _, rfl, HZ⟩
        · go_simp
          have hA9 : Below (V0.alloc (.cells #[] 3)).heap.size (V0.alloc (.cells #[] 3)) ((V0.alloc (.cells #[] 3)).alloc (.cells #[.slice none 0 0, .slice none 0 0, .slice none 0 0, .slice none 0 0] 59)) := (Below.refl _ _).alloc (Nat.le_refl _) _
          have hH2 := hH1.trans (hA9.mono hH1.size)
          refine hK.out _ _ hH2 (fun hHeld => ?_)
          clear hK K
          try simp only [Act.put, List.getElem_toArray, List.getElem_cons_zero, List.getElem_cons_succ, List.setIfInBounds_toArray, List.set_cons_zero, List.set_cons_succ]
          have hq15 : ((V0.alloc (.cells #[] 3)).alloc (.cells #[.slice none 0 0, .slice none 0 0, .slice none 0 0, .slice none 0 0] 59)).heap[V0.heap.size + 1]? = some (.cells #[.slice none 0 0, .slice none 0 0, .slice none 0 0, .slice none 0 0] 59 (0, 0)) := by have := heap_alloc_new (V0.alloc (.cells #[] 3)) (.cells #[.slice none 0 0, .slice none 0 0, .slice none 0 0, .slice none 0 0] 59); simpa only [World.size_alloc] using this
          refine wpAnyH_ready (rs := [4]) (by kernel_rfl) (by simp) ?_
          refine AllReadyH.cons rfl (fun K hK => ?_) AllReadyH.nil
          obtain ⟨g, gc, w7, hrun, hon7, hgr7, hg7⟩ := appN ((V0.alloc (.cells #[] 3)).alloc (.cells #[.slice none 0 0, .slice none 0 0, .slice none 0 0, .slice none 0 0] 59)) V0.heap.size V0.heap.size (.slice (some ⟨pa, po, none⟩) tn ac) tn s.a 57 (World.ownsRow.alloc (empty_own V0 3 1) _) (har6.below hH2) (by omega) (by omega) (by simp <;> omega)
          have hH7 : Below V6.heap.size V6 w7 := hH2.grown hgr7 hH2.size (fun x e => by simp only [Option.some.injEq] at e; omega)
          refine step_append_run (by rfl) _ _ 57 (by rfl) (by rfl) (by rfl) hrun ?_
          refine hK.out _ _ hH7 (fun hHeld => ?_)
          clear hK K
          try simp only [Act.put, List.getElem_toArray, List.getElem_cons_zero, List.getElem_cons_succ, List.setIfInBounds_toArray, List.set_cons_zero, List.set_cons_succ]
          clear hrun
          refine wpAnyH_take (i := 5) (v := .agg #[.slice xm d5.zs.length ym, .slice xb tn yb5, .slice xr tn yr5, .slice (some ⟨g, 0, none⟩) tn gc]) rfl (by kernel_rfl) (by kernel_rfl) (by kernel_rfl) (fun _ _ _ h => h) (Or.inl ⟨by rfl, fun w' hSw => ?_⟩) (by assumption) ?_
          · (try dsimp only at hSw); skip; go_simp
          try simp only [Act.put, List.getElem_toArray, List.getElem_cons_zero, List.getElem_cons_succ, List.setIfInBounds_toArray, List.set_cons_zero, List.set_cons_succ]
          have q15 : w7.heap[(V0.heap.size + 1)]? = some (.cells #[.slice none 0 0, .slice none 0 0, .slice none 0 0, .slice none 0 0] 59 (0, 0)) := (hgr7.block _ (lt_of_block hq15) (by simp)).trans hq15
          obtain ⟨fz9, c90, c91, c92, c93⟩ := row4_facts q15
          have hgl := World.ownsRow.lt hon7 g rfl
          simp only [World.size_alloc] at hg7
          have hb9 : Below V6.heap.size V6 ((((w7.setCell ⟨(V0.heap.size + 1), 0, none⟩ (.slice xm d5.zs.length ym)).setCell ⟨(V0.heap.size + 1), 1, none⟩ (.slice xb tn yb5)).setCell ⟨(V0.heap.size + 1), 2, none⟩ (.slice xr tn yr5)).setCell ⟨(V0.heap.size + 1), 3, none⟩ (.slice (some ⟨g, 0, none⟩) tn gc)) := four_below hH7 (by omega)
          have HZ : Hid (((((w7.setCell ⟨(V0.heap.size + 1), 0, none⟩ (.slice xm d5.zs.length ym)).setCell ⟨(V0.heap.size + 1), 1, none⟩ (.slice xb tn yb5)).setCell ⟨(V0.heap.size + 1), 2, none⟩ (.slice xr tn yr5)).setCell ⟨(V0.heap.size + 1), 3, none⟩ (.slice (some ⟨g, 0, none⟩) tn gc)).heap[(V0.heap.size + 1)]? = some (.cells #[.slice xm d5.zs.length ym, .slice xb tn yb5, .slice xr tn yr5, .slice (some ⟨g, 0, none⟩) tn gc] 59 (0, 0)) ∧ ((((w7.setCell ⟨(V0.heap.size + 1), 0, none⟩ (.slice xm d5.zs.length ym)).setCell ⟨(V0.heap.size + 1), 1, none⟩ (.slice xb tn yb5)).setCell ⟨(V0.heap.size + 1), 2, none⟩ (.slice xr tn yr5)).setCell ⟨(V0.heap.size + 1), 3, none⟩ (.slice (some ⟨g, 0, none⟩) tn gc)).heap[w.heap.size + 1 + 1]? = some (.cells #[nil3, nil3, nil3, nil3] 59 (0, 0)) ∧ Frc ((((w7.setCell ⟨(V0.heap.size + 1), 0, none⟩ (.slice xm d5.zs.length ym)).setCell ⟨(V0.heap.size + 1), 1, none⟩ (.slice xb tn yb5)).setCell ⟨(V0.heap.size + 1), 2, none⟩ (.slice xr tn yr5)).setCell ⟨(V0.heap.size + 1), 3, none⟩ (.slice (some ⟨g, 0, none⟩) tn gc)) V.heap.size w5.heap.size (.slice xm d5.zs.length ym) (.slice xb tn yb5) (.slice xr tn yr5) d5 tn ∧ On ((((w7.setCell ⟨(V0.heap.size + 1), 0, none⟩ (.slice xm d5.zs.length ym)).setCell ⟨(V0.heap.size + 1), 1, none⟩ (.slice xb tn yb5)).setCell ⟨(V0.heap.size + 1), 2, none⟩ (.slice xr tn yr5)).setCell ⟨(V0.heap.size + 1), 3, none⟩ (.slice (some ⟨g, 0, none⟩) tn gc)) V6.heap.size (.slice (some ⟨g, 0, none⟩) tn gc) tn s.a ∧ Below w.heap.size w ((((w7.setCell ⟨(V0.heap.size + 1), 0, none⟩ (.slice xm d5.zs.length ym)).setCell ⟨(V0.heap.size + 1), 1, none⟩ (.slice xb tn yb5)).setCell ⟨(V0.heap.size + 1), 2, none⟩ (.slice xr tn yr5)).setCell ⟨(V0.heap.size + 1), 3, none⟩ (.slice (some ⟨g, 0, none⟩) tn gc)) ∧ V6.heap.size ≤ (V0.heap.size + 1) ∧ (V0.heap.size + 1) ≠ g) := hide ⟨four_row q15, four_heap (heap_b ga6 hH7) (by have := lt_of_block ga6; omega), (fr6.below hH7).four (by omega) (.inr (by omega)), (hon7.four (by simp [Value.ownBlock]; omega)).mono (by omega), four_below (HB6.out.trans (hH7.mono HB6.out.size)) (by have := HB6.out.size; omega), by omega, by omega⟩
          clear hon7 hH7 hgr7
          refine wpAnyH_ready (rs := [7]) (by kernel_rfl) (by simp) ?_
          refine AllReadyH.cons rfl (fun K hK => ?_) AllReadyH.nil
          go_simp
          refine hK.out _ _ hb9 (fun hHeld => ?_)
          clear hK K
          try simp only [Act.put, List.getElem_toArray, List.getElem_cons_zero, List.getElem_cons_succ, List.setIfInBounds_toArray, List.set_cons_zero, List.set_cons_succ]
          refine wpAnyH_done (by kernel_rfl) ?_ _
          try go_wp2_with fail
          go_meet
          exact ⟨_, _, _, rfl, HZ⟩
      · go_simp
        have hA9 : Below V0.heap.size V0 (V0.alloc (.cells #[.slice none 0 0, .slice none 0 0, .slice none 0 0, .slice none 0 0] 59)) := (Below.refl _ _).alloc (Nat.le_refl _) _
        have hH1 := hHe0.trans (hA9.mono hHe0.size)
        refine hK.out _ _ hH1 (fun hHeld => ?_)
        clear hK K
        try simp only [Act.put, List.getElem_toArray, List.getElem_cons_zero, List.getElem_cons_succ, List.setIfInBounds_toArray, List.set_cons_zero, List.set_cons_succ]
        refine wpAnyH_ready (rs := [1]) (by kernel_rfl) (by simp) ?_
        refine AllReadyH.cons rfl (fun K hK => ?_) AllReadyH.nil
        go_simp
        have hA1 : Below (V0.alloc (.cells #[.slice none 0 0, .slice none 0 0, .slice none 0 0, .slice none 0 0] 59)).heap.size (V0.alloc (.cells #[.slice none 0 0, .slice none 0 0, .slice none 0 0, .slice none 0 0] 59)) ((V0.alloc (.cells #[.slice none 0 0, .slice none 0 0, .slice none 0 0, .slice none 0 0] 59)).alloc (.cells #[] 3)) := (Below.refl _ _).alloc (Nat.le_refl _) _
        have hH2 := hH1.trans (hA1.mono hH1.size)
        refine hK.out _ _ hH2 (fun hHeld => ?_)
        clear hK K
        try simp only [Act.put, List.getElem_toArray, List.getElem_cons_zero, List.getElem_cons_succ, List.setIfInBounds_toArray, List.set_cons_zero, List.set_cons_succ]
        have hq15 : ((V0.alloc (.cells #[.slice none 0 0, .slice none 0 0, .slice none 0 0, .slice none 0 0] 59)).alloc (.cells #[] 3)).heap[V0.heap.size]? = some (.cells #[.slice none 0 0, .slice none 0 0, .slice none 0 0, .slice none 0 0] 59 (0, 0)) := heap_b (heap_alloc_new V0 (.cells #[.slice none 0 0, .slice none 0 0, .slice none 0 0, .slice none 0 0] 59)) hA1
        have hemp := empty_own (V0.alloc (.cells #[.slice none 0 0, .slice none 0 0, .slice none 0 0, .slice none 0 0] 59)) 3 1
        simp only [World.size_alloc] at hemp
        refine wpAnyH_ready (rs := [4]) (by kernel_rfl) (by simp) ?_
        refine AllReadyH.cons rfl (fun K hK => ?_) AllReadyH.nil
        obtain ⟨g, gc, w7, hrun, hon7, hgr7, hg7⟩ := appN ((V0.alloc (.cells #[.slice none 0 0, .slice none 0 0, .slice none 0 0, .slice none 0 0] 59)).alloc (.cells #[] 3)) (V0.heap.size + 1) (V0.heap.size + 1) (.slice (some ⟨pa, po, none⟩) tn ac) tn s.a 57 hemp (har6.below hH2) (by omega) (by omega) (by simp <;> omega)
        have hH7 : Below V6.heap.size V6 w7 := hH2.grown hgr7 hH2.size (fun x e => by simp only [Option.some.injEq] at e; omega)
        refine step_append_run (by rfl) _ _ 57 (by rfl) (by rfl) (by rfl) hrun ?_
        refine hK.out _ _ hH7 (fun hHeld => ?_)
        clear hK K
        try simp only [Act.put, List.getElem_toArray, List.getElem_cons_zero, List.getElem_cons_succ, List.setIfInBounds_toArray, List.set_cons_zero, List.set_cons_succ]
        clear hrun
        refine wpAnyH_take (i := 5) (v := .agg #[.slice xm d5.zs.length ym, .slice xb tn yb5, .slice xr tn yr5, .slice (some ⟨g, 0, none⟩) tn gc]) rfl (by kernel_rfl) (by kernel_rfl) (by kernel_rfl) (fun _ _ _ h => h) (Or.inl ⟨by rfl, fun w' hSw => ?_⟩) (by assumption) ?_
        · (try dsimp only at hSw); skip; go_simp
        try simp only [Act.put, List.getElem_toArray, List.getElem_cons_zero, List.getElem_cons_succ, List.setIfInBounds_toArray, List.set_cons_zero, List.set_cons_succ]
        have q15 : w7.heap[V0.heap.size]? = some (.cells #[.slice none 0 0, .slice none 0 0, .slice none 0 0, .slice none 0 0] 59 (0, 0)) := (hgr7.block _ (lt_of_block hq15) (by simp)).trans hq15
        obtain ⟨fz9, c90, c91, c92, c93⟩ := row4_facts q15
        have hgl := World.ownsRow.lt hon7 g rfl
        simp only [World.size_alloc] at hg7
        have hb9 : Below V6.heap.size V6 ((((w7.setCell ⟨V0.heap.size, 0, none⟩ (.slice xm d5.zs.length ym)).setCell ⟨V0.heap.size, 1, none⟩ (.slice xb tn yb5)).setCell ⟨V0.heap.size, 2, none⟩ (.slice xr tn yr5)).setCell ⟨V0.heap.size, 3, none⟩ (.slice (some ⟨g, 0, none⟩) tn gc)) := four_below hH7 (by omega)
        have HZ : Hid (((((w7.setCell ⟨V0.heap.size, 0, none⟩ (.slice xm d5.zs.length ym)).setCell ⟨V0.heap.size, 1, none⟩ (.slice xb tn yb5)).setCell ⟨V0.heap.size, 2, none⟩ (.slice xr tn yr5)).setCell ⟨V0.heap.size, 3, none⟩ (.slice (some ⟨g, 0, none⟩) tn gc)).heap[V0.heap.size]? = some (.cells #[.slice xm d5.zs.length ym, .slice xb tn yb5, .slice xr tn yr5, .slice (some ⟨g, 0, none⟩) tn gc] 59 (0, 0)) ∧ ((((w7.setCell ⟨V0.heap.size, 0, none⟩ (.slice xm d5.zs.length ym)).setCell ⟨V0.heap.size, 1, none⟩ (.slice xb tn yb5)).setCell ⟨V0.heap.size, 2, none⟩ (.slice xr tn yr5)).setCell ⟨V0.heap.size, 3, none⟩ (.slice (some ⟨g, 0, none⟩) tn gc)).heap[w.heap.size + 1 + 1]? = some (.cells #[nil3, nil3, nil3, nil3] 59 (0, 0)) ∧ Frc ((((w7.setCell ⟨V0.heap.size, 0, none⟩ (.slice xm d5.zs.length ym)).setCell ⟨V0.heap.size, 1, none⟩ (.slice xb tn yb5)).setCell ⟨V0.heap.size, 2, none⟩ (.slice xr tn yr5)).setCell ⟨V0.heap.size, 3, none⟩ (.slice (some ⟨g, 0, none⟩) tn gc)) V.heap.size w5.heap.size (.slice xm d5.zs.length ym) (.slice xb tn yb5) (.slice xr tn yr5) d5 tn ∧ On ((((w7.setCell ⟨V0.heap.size, 0, none⟩ (.slice xm d5.zs.length ym)).setCell ⟨V0.heap.size, 1, none⟩ (.slice xb tn yb5)).setCell ⟨V0.heap.size, 2, none⟩ (.slice xr tn yr5)).setCell ⟨V0.heap.size, 3, none⟩ (.slice (some ⟨g, 0, none⟩) tn gc)) V6.heap.size (.slice (some ⟨g, 0, none⟩) tn gc) tn s.a ∧ Below w.heap.size w ((((w7.setCell ⟨V0.heap.size, 0, none⟩ (.slice xm d5.zs.length ym)).setCell ⟨V0.heap.size, 1, none⟩ (.slice xb tn yb5)).setCell ⟨V0.heap.size, 2, none⟩ (.slice xr tn yr5)).setCell ⟨V0.heap.size, 3, none⟩ (.slice (some ⟨g, 0, none⟩) tn gc)) ∧ V6.heap.size ≤ V0.heap.size ∧ V0.heap.size ≠ g) := hide ⟨four_row q15, four_heap (heap_b ga6 hH7) (by have := lt_of_block ga6; omega), (fr6.below hH7).four (by omega) (.inr (by omega)), (hon7.four (by simp [Value.ownBlock]; omega)).mono (by omega), four_below (HB6.out.trans (hH7.mono HB6.out.size)) (by have := HB6.out.size; omega), by omega, by omega⟩
        clear hon7 hH7 hgr7
        refine wpAnyH_ready (rs := [7]) (by kernel_rfl) (by simp) ?_
        refine AllReadyH.cons rfl (fun K hK => ?_) AllReadyH.nil
        go_simp
        refine hK.out _ _ hb9 (fun hHeld => ?_)
        clear hK K
        try simp only [Act.put, List.getElem_toArray, List.getElem_cons_zero, List.getElem_cons_succ, List.setIfInBounds_toArray, List.set_cons_zero, List.set_cons_succ]
        refine wpAnyH_done (by kernel_rfl) ?_ _
        try go_wp2_with fail
        go_meet
        exact ⟨_, _, _, rfl, HZ⟩
    case rest =>
      obtain ⟨b15, g, gc, rfl, HZ⟩ := hcut
      obtain ⟨g15, ga7, fr7, on7, hb7, hb15, hne15⟩ := HZ.out
      obtain ⟨f15, q0, q1, q2, q3⟩ := row4_facts g15
      clear s0 s1 s2 s3 z0 z1 z2 z3 fs fa t0 t1 t2
      obtain ⟨fa, z0, z1, z2, z3⟩ := row4_facts ga7
      have hgl := World.ownsRow.lt on7 g rfl
      have hne17 : b15 ≠ w.heap.size + 1 + 1 := by omega
      have HF : Hid (Below w.heap.size w ((((wc.setCell ⟨w.heap.size + 1 + 1, 0, none⟩ (.slice xm d5.zs.length ym)).setCell ⟨w.heap.size + 1 + 1, 1, none⟩ (.slice xb tn yb5)).setCell ⟨w.heap.size + 1 + 1, 2, none⟩ (.slice xr tn yr5)).setCell ⟨w.heap.size + 1 + 1, 3, none⟩ (.slice (some ⟨g, 0, none⟩) tn gc)) ∧ So ((((wc.setCell ⟨w.heap.size + 1 + 1, 0, none⟩ (.slice xm d5.zs.length ym)).setCell ⟨w.heap.size + 1 + 1, 1, none⟩ (.slice xb tn yb5)).setCell ⟨w.heap.size + 1 + 1, 2, none⟩ (.slice xr tn yr5)).setCell ⟨w.heap.size + 1 + 1, 3, none⟩ (.slice (some ⟨g, 0, none⟩) tn gc)) w.heap.size ((((wc.setCell ⟨w.heap.size + 1 + 1, 0, none⟩ (.slice xm d5.zs.length ym)).setCell ⟨w.heap.size + 1 + 1, 1, none⟩ (.slice xb tn yb5)).setCell ⟨w.heap.size + 1 + 1, 2, none⟩ (.slice xr tn yr5)).setCell ⟨w.heap.size + 1 + 1, 3, none⟩ (.slice (some ⟨g, 0, none⟩) tn gc)).heap.size (.slice xm d5.zs.length ym) (.slice xb tn yb5) (.slice xr tn yr5) (.slice (some ⟨g, 0, none⟩) tn gc) ⟨d5, s.a⟩ tn) := hide (by
        refine ⟨four_below hb7 (by omega), ?_⟩
        rw [four_size]
        have hso : So wc V.heap.size wc.heap.size (.slice xm d5.zs.length ym) (.slice xb tn yb5) (.slice xr tn yr5) (.slice (some ⟨g, 0, none⟩) tn gc) ⟨d5, s.a⟩ tn := ⟨w5.heap.size, by omega, by omega, fr7, on7.mono (by omega), fun x e => by simp only [Value.ownBlock, Option.some.injEq] at e; omega⟩
        exact (hso.four (by omega) (.inl (by omega))).lower (by omega))
      clear HZ g15 ga7 fr7 on7 hb7 gs6 ga6 fr6 har6 HB6 hA13
      go_wp2
      rw [HEO.out]
      refine bodyPost_ret (v := .tuple #[.agg #[.slice xm d5.zs.length ym, .slice xb tn yb5, .slice xr tn yr5, .slice (some ⟨g, 0, none⟩) tn gc], .bool true]) (by simp [results, Try.results27, go_sem, z0, z1, z2, z3]) rfl ⟨HF.out.1, ?_⟩
      exact ⟨_, _, _, _, _, _, _, _, rfl, HF.out.2⟩
  · have HEO : Hid (drn tn s (p - tn) = none) := hide (by rw [DRNEQ.out, if_neg ho])
    generalize okc s.d tn 4 (co : Int) 0 0 0 = code at ho ⊢
    have hcd : (code == 0) = false := by simpa using ho
    have hcn : (code != 0) = true := by simpa using ho
    have HBF := hide HB6.out
    clear ho fr6 har6 gs6 ga6 hA13
    go_wp2
    rw [HEO.out]
    refine bodyPost_ret (v := .tuple #[.agg #[.slice ma s.d.zs.length mc, .slice ba tn bc, .slice ra tn rc, .slice (some ⟨pa, po, none⟩) tn ac], .bool false]) (by simp [results, Try.results27, go_sem, z0, z1, z2, z3]) rfl ⟨four_below HBF.out (by omega), ?_⟩
    rfl

/-- a step, whatever is picked -/
theorem step_all (ta : Option Addr) (tn tc : Nat) (L : Nat → Nat) (F : Nat → Nat → Nat → Int) (s : Rs) (mv bv rv av : Value) (p : Nat) (w : World) (hs : Sa w (.slice ta tn tc) tn L F) (h : St w mv bv rv av s tn) (hr : Rok tn L s) (h1 : 1 ≤ tn) (htn : tn ≤ 2) (hL : ∀ c, c < tn → L c ≤ 3) (hp : p < 2 * tn) :
    Calls Try.prog 27 #[.agg #[.slice ta tn tc], .agg #[mv, bv, rv, av], .int .i64 p, .bool true] w (StQ w tn mv bv rv av (pck tn L F s p)) := by
  unfold pck
  by_cases hpt : p < tn
  · rw [if_pos hpt]
    by_cases he : s.a p = L p
    · have e : stp tn L F s p = none := by unfold stp; rw [if_pos he]
      rw [e]
      exact step_end ta tn tc L F s mv bv rv av p w hs h hr h1 htn hL hpt he
    · exact step_act ta tn tc L F s mv bv rv av p w hs h hr h1 htn hL hpt he
  · rw [if_neg hpt]
    exact step_drain ta tn tc L F s mv bv rv av p w hs h hr h1 htn hL (by omega) hp

end Go.Proofs.Ytcocobmanlmjdaa

/- a state apart from a call's boxes; spec.l11Start (written by mkLqdN.py) -/
namespace Go.Proofs.Ytcocobmanlmjdaa
open Go.RowKit
set_option linter.unusedVariables false
set_option linter.unusedSimpArgs false

/-- a state apart from the first N blocks behind w: the one t that was there in w, or one in blocks of its own up to H -/
abbrev T1 := Value × Value × Value × Value × Rs
def Sw (N H : Nat) (w wr : World) (t : T1) (m b r v : Value) (s : Rs) (C : Nat) : Prop :=
  (t = (m, b, r, v, s) ∧ St w m b r v s C ∧ Below w.heap.size w wr) ∨ ∃ lo hi, So wr lo hi m b r v s C ∧ w.heap.size + N ≤ lo ∧ hi ≤ H
theorem Sw.st {N H : Nat} {w wr : World} {t : T1} {m b r v : Value} {s : Rs} {C : Nat} (h : Sw N H w wr t m b r v s C) (hC : 0 < C) : St wr m b r v s C := by
  rcases h with ⟨_, h1, h2⟩ | ⟨_, _, h, _⟩
  · exact h1.below h2
  · exact h.st hC
theorem Sw.below {N H : Nat} {w wr wr' : World} {t : T1} {m b r v : Value} {s : Rs} {C : Nat} (h : Sw N H w wr t m b r v s C) (hb : Below wr.heap.size wr wr') : Sw N H w wr' t m b r v s C := by
  rcases h with ⟨h0, h1, h2⟩ | ⟨lo, hi, h, q⟩
  · exact .inl ⟨h0, h1, h2.trans (hb.mono h2.size)⟩
  · exact .inr ⟨lo, hi, h.below hb, q⟩
theorem Sw.mono {N H H' : Nat} {w wr : World} {t : T1} {m b r v : Value} {s : Rs} {C : Nat} (h : Sw N H w wr t m b r v s C) (hH : H ≤ H') : Sw N H' w wr t m b r v s C := by
  rcases h with h | ⟨lo, hi, h, q1, q2⟩
  · exact .inl h
  · exact .inr ⟨lo, hi, h, q1, by omega⟩
theorem Sw.four {N H : Nat} {w V : World} {t : T1} {m b r v : Value} {s : Rs} {C : Nat} {B : Nat} {v0 v1 v2 v3 : Value} (h : Sw N H w V t m b r v s C) (hC : C ≤ 40) (hw : w.heap.size ≤ B) (hB : B < w.heap.size + N ∨ H ≤ B) : Sw N H w ((((V.setCell ⟨B, 0, none⟩ v0).setCell ⟨B, 1, none⟩ v1).setCell ⟨B, 2, none⟩ v2).setCell ⟨B, 3, none⟩ v3) t m b r v s C := by
  rcases h with ⟨h0, h1, h2⟩ | ⟨lo, hi, h, q1, q2⟩
  · exact .inl ⟨h0, h1, four_below h2 hw⟩
  · exact .inr ⟨lo, hi, h.four hC (by omega), q1, q2⟩
/-- what a step hands back: a state of its own, or what was handed in -/
def Svq (w' : World) (lo hi : Nat) (m b r v : Value) (s' : Rs) (C : Nat) (ok : Bool) (m' b' r' v' : Value) : Prop := (ok = true ∧ So w' lo hi m' b' r' v' s' C) ∨ (ok = false ∧ m' = m ∧ b' = b ∧ r' = r ∧ v' = v)
theorem Svq.below {w w' : World} {lo hi : Nat} {m b r v m' b' r' v' : Value} {s' : Rs} {C : Nat} {ok : Bool} (h : Svq w lo hi m b r v s' C ok m' b' r' v') (hb : Below w.heap.size w w') : Svq w' lo hi m b r v s' C ok m' b' r' v' := by
  rcases h with ⟨h1, h2⟩ | h
  · exact .inl ⟨h1, h2.below hb⟩
  · exact .inr h
theorem Svq.four {V : World} {lo hi : Nat} {m b r v m' b' r' v' : Value} {s' : Rs} {C : Nat} {ok : Bool} {B : Nat} {v0 v1 v2 v3 : Value} (h : Svq V lo hi m b r v s' C ok m' b' r' v') (hC : C ≤ 40) (hB : B < lo ∨ hi ≤ B) : Svq ((((V.setCell ⟨B, 0, none⟩ v0).setCell ⟨B, 1, none⟩ v1).setCell ⟨B, 2, none⟩ v2).setCell ⟨B, 3, none⟩ v3) lo hi m b r v s' C ok m' b' r' v' := by
  rcases h with ⟨h1, h2⟩ | h
  · exact .inl ⟨h1, h2.four hC hB⟩
  · exact .inr h
theorem Sw.did {N H lo hi : Nat} {w wr w' : World} {t : T1} {m b r v m' b' r' v' : Value} {s s' : Rs} {C : Nat} {ok : Bool} (h : Sw N H w wr t m b r v s C) (hb : Below wr.heap.size wr w') (hd : Svq w' lo hi m b r v s' C ok m' b' r' v') (he : ok = false → s' = s) (hlo : w.heap.size + N ≤ lo) (hH : H ≤ hi) : Sw N hi w w' t m' b' r' v' s' C := by
  rcases hd with ⟨rfl, hf⟩ | ⟨q, rfl, rfl, rfl, rfl⟩
  · exact .inr ⟨lo, hi, hf, hlo, Nat.le_refl _⟩
  · rw [he q]; exact (h.below hb).mono hH
/-- a step's answer, told alike -/
theorem StQ.u {w : World} {C : Nat} {ma ba ra : Option Addr} {mn mc bc rc pa po ac : Nat} {s : Rs} {o : Option Rs} {e : Ending} {w' : World} (h : StQ w C (.slice ma mn mc) (.slice ba C bc) (.slice ra C rc) (.slice (some ⟨pa, po, none⟩) C ac) o e w') :
    ∃ ma' ba' ra' : Option Addr, ∃ mn' mc' bc' rc' g go gc : Nat, e = .returned (.tuple #[.agg #[.slice ma' mn' mc', .slice ba' C bc', .slice ra' C rc', .slice (some ⟨g, go, none⟩) C gc], .bool o.isSome]) ∧ Below w.heap.size w w' ∧ Svq w' w.heap.size w'.heap.size (.slice ma mn mc) (.slice ba C bc) (.slice ra C rc) (.slice (some ⟨pa, po, none⟩) C ac) (o.getD s) C o.isSome (.slice ma' mn' mc') (.slice ba' C bc') (.slice ra' C rc') (.slice (some ⟨g, go, none⟩) C gc) := by
  obtain ⟨hb, h⟩ := h
  cases o with
  | none => exact ⟨_, _, _, _, _, _, _, _, _, _, h, hb, .inr ⟨rfl, rfl, rfl, rfl, rfl⟩⟩
  | some s' =>
    obtain ⟨x1, x2, x3, x4, x5, x6, x7, x8, rfl, hso⟩ := h
    exact ⟨_, _, _, _, _, _, _, _, _, _, rfl, hb, .inl ⟨rfl, hso⟩⟩
theorem step_u (ta : Option Addr) (tn tc : Nat) (L : Nat → Nat) (F : Nat → Nat → Nat → Int) (s : Rs) (ma ba ra : Option Addr) (mn mc bc rc pa po ac : Nat) (p : Nat) (w : World) (hs : Sa w (.slice ta tn tc) tn L F) (h : St w (.slice ma mn mc) (.slice ba tn bc) (.slice ra tn rc) (.slice (some ⟨pa, po, none⟩) tn ac) s tn) (hr : Rok tn L s) (h1 : 1 ≤ tn) (htn : tn ≤ 2) (hL : ∀ c, c < tn → L c ≤ 3) (hp : p < 2 * tn) :
    Calls Try.prog 27 #[.agg #[.slice ta tn tc], .agg #[.slice ma mn mc, .slice ba tn bc, .slice ra tn rc, .slice (some ⟨pa, po, none⟩) tn ac], .int .i64 p, .bool true] w fun e w' => ∃ ma' ba' ra' : Option Addr, ∃ mn' mc' bc' rc' g go gc : Nat, e = .returned (.tuple #[.agg #[.slice ma' mn' mc', .slice ba' tn bc', .slice ra' tn rc', .slice (some ⟨g, go, none⟩) tn gc], .bool (pck tn L F s p).isSome]) ∧ Below w.heap.size w w' ∧ Svq w' w.heap.size w'.heap.size (.slice ma mn mc) (.slice ba tn bc) (.slice ra tn rc) (.slice (some ⟨pa, po, none⟩) tn ac) ((pck tn L F s p).getD s) tn (pck tn L F s p).isSome (.slice ma' mn' mc') (.slice ba' tn bc') (.slice ra' tn rc') (.slice (some ⟨g, go, none⟩) tn gc) :=
  (step_all ta tn tc L F s _ _ _ _ p w hs h hr h1 htn hL hp).mono fun e w' q => q.u

theorem madeN (n : Nat) (h1 : 1 ≤ n) (h2 : n ≤ 2) (W : World) : ∃ cs : Array Value, (Instr.makeSlice 57 (.int .i64 (n : Int)) (.int .i64 (n : Int))).run Try.prog W = .ok (.slice (some ⟨W.heap.size, 0, none⟩) n n) (W.alloc (.cells cs 3)) ∧ On (W.alloc (.cells cs 3)) W.heap.size (.slice (some ⟨W.heap.size, 0, none⟩) n n) n (fun _ => 0) := by
  obtain ⟨i0, hi, hz0, hz1, hz2⟩ := info_parts infoN
  have h := run_make (P := Try.prog) (w := W) 57 3 i0 (.int .i64 0) Try.underlying57 hi hz0 .i64 .i64 (n : Int) (n : Int) (by omega) (by omega) (by rw [hz2]; omega) (by omega)
  rw [hz1] at h
  rcases (show n = 1 ∨ n = 2 by omega) with rfl | rfl
  · have e : madeCells (Value.int .i64 0).cells ((((1 : Nat) : Int)).toNat * 1) = #[.int .i64 0] := by kernel_rfl
    rw [e] at h
    exact ⟨_, h, ⟨rfl, .inr ⟨W.heap.size, 1, _, rfl, Nat.le_refl _, heap_alloc_new _ _, Nat.le_refl _, by unfold maxLen; omega, rfl, rfl⟩⟩⟩
  · have e : madeCells (Value.int .i64 0).cells ((((2 : Nat) : Int)).toNat * 1) = #[.int .i64 0, .int .i64 0] := by kernel_rfl
    rw [e] at h
    exact ⟨_, h, ⟨rfl, .inr ⟨W.heap.size, 2, _, rfl, Nat.le_refl _, heap_alloc_new _ _, Nat.le_refl _, by unfold maxLen; omega, rfl, rfl⟩⟩⟩

set_option maxHeartbeats 4000000 in
set_option maxRecDepth 20000 in
theorem l11Start_any (ta : Option Addr) (tn tc : Nat) (h1 : 1 ≤ tn) (h2 : tn ≤ 2) (w : World) :
    Calls Try.prog 26 #[.agg #[.slice ta tn tc]] w fun e w' => ∃ ma ba ra : Option Addr, ∃ mn mc bc rc g gc : Nat, e = .returned (.agg #[.slice ma mn mc, .slice ba tn bc, .slice ra tn rc, .slice (some ⟨g, 0, none⟩) tn gc]) ∧ St w' (.slice ma mn mc) (.slice ba tn bc) (.slice ra tn rc) (.slice (some ⟨g, 0, none⟩) tn gc) s00 tn ∧ Below w.heap.size w w' := by
  obtain ⟨W, hW⟩ : ∃ W, (w.alloc (.cells #[.slice ta tn tc] 29)).alloc (.cells #[nil3, nil3, nil3, nil3] 59) = W := ⟨_, rfl⟩
  have hB0 : Below w.heap.size w W := by rw [← hW]; exact ((Below.refl _ _).alloc (Nat.le_refl _) _).alloc (by simp) _
  have g1 : W.heap[w.heap.size]? = some (.cells #[.slice ta tn tc] 29 (0, 0)) := by rw [← hW, Below.heap_alloc _ _ _ (by simp)]; exact heap_alloc_new _ _
  have g2 : W.heap[w.heap.size + 1]? = some (.cells #[nil3, nil3, nil3, nil3] 59 (0, 0)) := by
    rw [← hW]
    have := heap_alloc_new (w.alloc (.cells #[.slice ta tn tc] 29)) (.cells #[nil3, nil3, nil3, nil3] 59)
    simpa only [World.size_alloc] using this
  have x0 : W.cell? ⟨w.heap.size, 0, none⟩ = some (.slice ta tn tc) := (cell_of_row _ _ 0 _ _ _ g1).trans rfl
  have hWs : w.heap.size + 1 + 1 = W.heap.size := by rw [← hW]; simp
  subst hW
  go_enter Try.func26, Try.ntmps26
  go_wp2_with fail
  refine (specNewT_yes tn h1 (by omega) _).mono ?_
  rintro e w2 ⟨m, b, r, vr, tag, rfl, hta, hb2⟩
  obtain ⟨xa, ya, xb, yb, xc, yc, rfl, rfl, rfl⟩ := Ta.three (n := 3) hta rfl
  have hA3 : Below w2.heap.size w2 (w2.alloc (.cells #[.slice xa 3 ya, .slice xb tn yb, .slice xc tn yc] 37)) := (Below.refl _ _).alloc (Nat.le_refl _) _
  have hc2 := hb2.trans (hA3.mono hb2.size)
  have x1 := keepc hc2 x0
  have g3 := heap_b g2 hc2
  obtain ⟨t0, t1, t2⟩ := box3 w2 (.slice xa 3 ya) (.slice xb tn yb) (.slice xc tn yc) 37
  have hcp : Cpd z0V tn := fun c hc a n k e => by
    have e' : Value.slice none 0 0 = Value.slice a n k := e
    simp only [Value.slice.injEq] at e'
    omega
  have hfr : Frc w2 _ w2.heap.size (.slice xa 3 ya) (.slice xb tn yb) (.slice xc tn yc) s00.d tn := Frc.of (d := s00.d) hta hcp
  have fr3 := hfr.below hA3
  have hB3 := hB0.trans (hc2.mono hB0.size)
  have hs2 := hb2.size
  rw [← hWs] at hs2
  clear hta hfr hb2 hA3 hc2 g1 g2 x0 hB0
  obtain ⟨V, hV⟩ : ∃ V, w2.alloc (.cells #[.slice xa 3 ya, .slice xb tn yb, .slice xc tn yc] 37) = V := ⟨_, rfl⟩
  have hVs : V.heap.size = w2.heap.size + 1 := by rw [← hV]; simp
  rw [hV] at x1 g3 t0 t1 t2 fr3 hB3
  have HWS := hide hWs
  clear hWs
  go_wp2
  clear hV
  refine wp_region_held_drew (S := fun w' => w'.cell? ⟨w.heap.size, 0, none⟩ = some (.slice ta tn tc) ∧ w'.cell? ⟨w2.heap.size, 0, none⟩ = some (.slice xa 3 ya) ∧ w'.cell? ⟨w2.heap.size, 1, none⟩ = some (.slice xb tn yb) ∧ w'.cell? ⟨w2.heap.size, 2, none⟩ = some (.slice xc tn yc)) (by kernel_rfl) ⟨x1, t0, t1, t2⟩ (fun hHeld => ?_)
  refine wpAnyH_take (i := 0) (v := .agg #[.slice xa 3 ya, .slice xb tn yb, .slice xc tn yc]) rfl (by kernel_rfl) (by kernel_rfl) (by kernel_rfl) (fun _ _ _ h => h) (Or.inl ⟨by rfl, fun w' hSw => ?_⟩) (by assumption) ?_
  · (try dsimp only at hSw); obtain ⟨e0, e1, e2, e3⟩ := hSw; go_simp
  try simp only [Act.put, List.getElem_toArray, List.getElem_cons_zero, List.getElem_cons_succ, List.setIfInBounds_toArray, List.set_cons_zero, List.set_cons_succ]
  refine wpAnyH_take (i := 1) (v := .pointer (some ⟨w.heap.size, 0, none⟩)) rfl (by kernel_rfl) (by kernel_rfl) (by kernel_rfl) (fun _ _ _ h => h) (Or.inl ⟨by rfl, fun w' hSw => ?_⟩) (by assumption) ?_
  · (try dsimp only at hSw); skip; go_simp
  try simp only [Act.put, List.getElem_toArray, List.getElem_cons_zero, List.getElem_cons_succ, List.setIfInBounds_toArray, List.set_cons_zero, List.set_cons_succ]
  refine wpAnyH_take (i := 2) (v := .slice ta tn tc) rfl (by kernel_rfl) (by kernel_rfl) (by kernel_rfl) (fun _ _ _ h => h) (Or.inl ⟨by rfl, fun w' hSw => ?_⟩) (by assumption) ?_
  · (try dsimp only at hSw); obtain ⟨e0, e1, e2, e3⟩ := hSw; go_simp
  try simp only [Act.put, List.getElem_toArray, List.getElem_cons_zero, List.getElem_cons_succ, List.setIfInBounds_toArray, List.set_cons_zero, List.set_cons_succ]
  refine wpAnyH_take (i := 3) (v := .int .i64 tn) rfl (by kernel_rfl) (by kernel_rfl) (by kernel_rfl) (fun _ _ _ h => h) (Or.inl ⟨by rfl, fun w' hSw => ?_⟩) (by assumption) ?_
  · (try dsimp only at hSw); skip; go_simp
  try simp only [Act.put, List.getElem_toArray, List.getElem_cons_zero, List.getElem_cons_succ, List.setIfInBounds_toArray, List.set_cons_zero, List.set_cons_succ]
  obtain ⟨V0, hV0⟩ : ∃ V0, V.drew = V0 := ⟨_, rfl⟩
  have hD0 : Below V.heap.size V V0 := by rw [← hV0]; exact (Below.refl _ _).drew
  rw [hV0] at hHeld ⊢
  have hs0 : V0.heap.size = V.heap.size := by rw [← hV0]; rfl
  have q9 : w.heap.size + 1 + 1 + 1 ≤ V0.heap.size := by (rw [hs0, hVs]; omega)
  have q8 : w.heap.size + 1 < w2.heap.size := by omega
  clear hV0 hs0 hVs
  obtain ⟨cs, hmk, hon⟩ := madeN tn h1 h2 V0
  have hA9 : Below V0.heap.size V0 (V0.alloc (.cells cs 3)) := (Below.refl _ _).alloc (Nat.le_refl _) _
  have hS9 : (fun w' => w'.cell? ⟨w.heap.size, 0, none⟩ = some (.slice ta tn tc) ∧ w'.cell? ⟨w2.heap.size, 0, none⟩ = some (.slice xa 3 ya) ∧ w'.cell? ⟨w2.heap.size, 1, none⟩ = some (.slice xb tn yb) ∧ w'.cell? ⟨w2.heap.size, 2, none⟩ = some (.slice xc tn yc)) (V0.alloc (.cells cs 3)) := ⟨keepc hA9 hHeld.1, keepc hA9 hHeld.2.1, keepc hA9 hHeld.2.2.1, keepc hA9 hHeld.2.2.2⟩
  have hc9 := hD0.trans (hA9.mono hD0.size)
  have g9 := heap_b g3 hc9
  have fr9 := fr3.below hc9
  have hB9 := hB3.trans (hc9.mono hB3.size)
  obtain ⟨V9, hV9⟩ : ∃ V9, V0.alloc (.cells cs 3) = V9 := ⟨_, rfl⟩
  rw [hV9] at hmk hon hS9 g9 fr9 hB9
  refine wpAnyH_ready (rs := [4]) (by kernel_rfl) (by simp) ?_
  refine AllReadyH.cons rfl (fun K hK => ?_) AllReadyH.nil
  go_simp
  refine hK.out _ _ hS9 (fun hHeld => ?_)
  clear hK K hmk
  try simp only [Act.put, List.getElem_toArray, List.getElem_cons_zero, List.getElem_cons_succ, List.setIfInBounds_toArray, List.set_cons_zero, List.set_cons_succ]
  refine wpAnyH_take (i := 5) (v := .agg #[.slice xa 3 ya, .slice xb tn yb, .slice xc tn yc, .slice (some ⟨V0.heap.size, 0, none⟩) tn tn]) rfl (by kernel_rfl) (by kernel_rfl) (by kernel_rfl) (fun _ _ _ h => h) (Or.inl ⟨by rfl, fun w' hSw => ?_⟩) (by assumption) ?_
  · (try dsimp only at hSw); skip; go_simp
  try simp only [Act.put, List.getElem_toArray, List.getElem_cons_zero, List.getElem_cons_succ, List.setIfInBounds_toArray, List.set_cons_zero, List.set_cons_succ]
  obtain ⟨fz, z0, z1, z2, z3⟩ := row4_facts g9
  have hS10 : (fun w' => w'.cell? ⟨w.heap.size, 0, none⟩ = some (.slice ta tn tc) ∧ w'.cell? ⟨w2.heap.size, 0, none⟩ = some (.slice xa 3 ya) ∧ w'.cell? ⟨w2.heap.size, 1, none⟩ = some (.slice xb tn yb) ∧ w'.cell? ⟨w2.heap.size, 2, none⟩ = some (.slice xc tn yc)) ((((V9.setCell ⟨w.heap.size + 1, 0, none⟩ (.slice xa 3 ya)).setCell ⟨w.heap.size + 1, 1, none⟩ (.slice xb tn yb)).setCell ⟨w.heap.size + 1, 2, none⟩ (.slice xc tn yc)).setCell ⟨w.heap.size + 1, 3, none⟩ (.slice (some ⟨V0.heap.size, 0, none⟩) tn tn)) := by
    obtain ⟨q0, q1, q2, q3⟩ := hS9
    refine ⟨?_, ?_, ?_, ?_⟩
    · rw [other_set (by omega), other_set (by omega), other_set (by omega), other_set (by omega)]; exact q0
    · rw [other_set (by omega), other_set (by omega), other_set (by omega), other_set (by omega)]; exact q1
    · rw [other_set (by omega), other_set (by omega), other_set (by omega), other_set (by omega)]; exact q2
    · rw [other_set (by omega), other_set (by omega), other_set (by omega), other_set (by omega)]; exact q3
  have HF : Hid (St ((((V9.setCell ⟨w.heap.size + 1, 0, none⟩ (.slice xa 3 ya)).setCell ⟨w.heap.size + 1, 1, none⟩ (.slice xb tn yb)).setCell ⟨w.heap.size + 1, 2, none⟩ (.slice xc tn yc)).setCell ⟨w.heap.size + 1, 3, none⟩ (.slice (some ⟨V0.heap.size, 0, none⟩) tn tn)) (.slice xa 3 ya) (.slice xb tn yb) (.slice xc tn yc) (.slice (some ⟨V0.heap.size, 0, none⟩) tn tn) s00 tn ∧ Below w.heap.size w ((((V9.setCell ⟨w.heap.size + 1, 0, none⟩ (.slice xa 3 ya)).setCell ⟨w.heap.size + 1, 1, none⟩ (.slice xb tn yb)).setCell ⟨w.heap.size + 1, 2, none⟩ (.slice xc tn yc)).setCell ⟨w.heap.size + 1, 3, none⟩ (.slice (some ⟨V0.heap.size, 0, none⟩) tn tn))) := hide ⟨⟨(fr9.four (by omega) (.inl (by simp))).tv, (fr9.four (by omega) (.inl (by simp))).cap, ((hon.four (by simp [Value.ownBlock]; omega)).ar (by omega))⟩, four_below hB9 (by omega)⟩
  refine wpAnyH_ready (rs := [6]) (by kernel_rfl) (by simp) ?_
  refine AllReadyH.cons rfl (fun K hK => ?_) AllReadyH.nil
  go_simp
  refine hK.out _ _ hS10 (fun hHeld => ?_)
  clear hK K hHeld hS10 hS9
  try simp only [Act.put, List.getElem_toArray, List.getElem_cons_zero, List.getElem_cons_succ, List.setIfInBounds_toArray, List.set_cons_zero, List.set_cons_succ]
  refine wpAnyH_done (by kernel_rfl) ?_ _
  clear hon fr9 hB9 g9 hc9 hA9 hD0 fr3 g3 x1 t0 t1 t2 hB3 hV9
  go_wp2
  refine bodyPost_ret (v := .agg #[.slice xa 3 ya, .slice xb tn yb, .slice xc tn yc, .slice (some ⟨V0.heap.size, 0, none⟩) tn tn]) (by simp [results, Try.results26, go_sem, z0, z1, z2, z3]) rfl ⟨_, _, _, _, _, _, _, _, _, rfl, HF.out.1, HF.out.2⟩

/-- a state in its box, off memory: what a turn brings down -/
def sml (w : World) (B i Li : Nat) : Nat :=
  10 * (Li - (match w.cell? ⟨B, 3, none⟩ with
    | some (.slice (some ⟨p, o, none⟩) _ _) => (match w.cell? ⟨p, o + i, none⟩ with | some (.int _ z) => z.toNat | _ => 0)
    | _ => 0)) +
  (match w.cell? ⟨B, 1, none⟩ with
  | some (.slice (some ⟨p, o, none⟩) _ _) => (match w.cell? ⟨p, o + i, none⟩ with | some (.slice _ n _) => n | _ => 0)
  | _ => 0)
theorem sml_eq {wr : World} {B : Nat} {T : TypeId} {m b r v : Value} {s : Rs} {C : Nat} (hb : wr.heap[B]? = some (.cells #[m, b, r, v] T (0, 0))) (h : St wr m b r v s C) (L : Nat → Nat) {i : Nat} (hi : i < C) : sml wr B i (L i) = msr L s i := by
  obtain ⟨_, _, x1, _, x3⟩ := row4_facts hb
  obtain ⟨ad, cap, e, hs⟩ := h.tv.buf
  obtain ⟨p, o, e2, hs2⟩ := hs (by omega)
  obtain ⟨ia, ic, q, _⟩ := hs2 i hi
  obtain ⟨pa, po, pc, e3, ha⟩ := h.ar
  have qa := ha i hi
  subst e e2 e3
  unfold sml msr
  rw [x1, x3]
  simp only [q, qa]
  rfl

/-- between two steps -/
structure Rv (w3 wr : World) (t : T1) (s : Rs) (C : Nat) (L : Nat → Nat) (m b r v : Value) : Prop where
  box : wr.heap[w3.heap.size]? = some (.cells #[m, b, r, v] 59 (0, 0))
  sw : Sw 1 wr.heap.size w3 wr t m b r v s C
  ok : Rok C L s
  bel : Below w3.heap.size w3 wr

end Go.Proofs.Ytcocobmanlmjdaa

/- spec.RunPicks (written by mkLqdO.py) -/
namespace Go.Proofs.Ytcocobmanlmjdaa
open Go.RowKit
set_option linter.unusedVariables false
set_option linter.unusedSimpArgs false

set_option maxHeartbeats 8000000 in
set_option maxRecDepth 20000 in
theorem specRun_any (v va : Value) (C : Nat) (L : Nat → Nat) (F : Nat → Nat → Nat → Int) (zs : List Int) (w : World) (hs : Sa w v C L F) (hz : Sl w va zs) (hbC : C ≤ 1048576) (hbL : ∀ c, c < C → L c ≤ 1048576) :
    Calls Try.prog 10 #[.agg #[v], va] w fun e w' => RpPost C L F zs w e w' := by
  have HS := hide hs
  have HZ := hide hz
  obtain ⟨ta, tc, rfl, _⟩ := hs
  obtain ⟨za, zc, rfl, _⟩ := hz
  obtain ⟨N, hN⟩ : ∃ N, zs.length = N := ⟨_, rfl⟩
  rw [hN] at HZ ⊢
  have HN := hide hN
  clear hN
  obtain ⟨W, hW⟩ : ∃ W, (w.alloc (.cells #[.slice ta C tc] 29)).alloc (.cells #[nil3, nil3, nil3] 37) = W := ⟨_, rfl⟩
  have hB0 : Below w.heap.size w W := by rw [← hW]; exact ((Below.refl _ _).alloc (Nat.le_refl _) _).alloc (by simp) _
  have g1 : W.heap[w.heap.size]? = some (.cells #[.slice ta C tc] 29 (0, 0)) := by rw [← hW, Below.heap_alloc _ _ _ (by simp)]; exact heap_alloc_new _ _
  have g2 : W.heap[w.heap.size + 1]? = some (.cells #[nil3, nil3, nil3] 37 (0, 0)) := by
    rw [← hW]
    have := heap_alloc_new (w.alloc (.cells #[.slice ta C tc] 29)) (.cells #[nil3, nil3, nil3] 37)
    simpa only [World.size_alloc] using this
  have hws : W.heap.size = w.heap.size + 1 + 1 := by rw [← hW]; simp
  have x0 : W.cell? ⟨w.heap.size, 0, none⟩ = some (.slice ta C tc) := (cell_of_row _ _ 0 _ _ _ g1).trans rfl
  have hok := fun W h => specLitmusOk_any (.slice ta C tc) C L F W h hbC hbL
  have hne : w.heap.size ≠ w.heap.size + 1 := by omega
  subst hW
  cases hl : litB C L F
  · have HO : Hid (rpB C L F zs = false) := hide (by unfold rpB; rw [hl]; rfl)
    rw [hl] at hok
    go_enter Try.func10, Try.ntmps10
    go_wp2_with fail
    refine (hok _ (HS.out.below hB0)).mono ?_
    rintro e w1 ⟨rfl, hb1⟩
    have g2' := heap_b g2 hb1
    obtain ⟨fz, z0, z1, z2⟩ := row3_facts g2'
    have HB := hide (hB0.trans (hb1.mono hB0.size))
    clear hb1 g1 g2 g2' x0 hB0
    go_wp2
    refine bodyPost_ret (v := .tuple #[.agg #[nil3, nil3, nil3], .bool false]) (by simp [results, Try.results10, go_sem, z0, z1, z2]) rfl (.inl ⟨HO.out, rfl, ?_⟩)
    exact ((HB.out.setCell (p := ⟨w.heap.size + 1, 0, none⟩) (by show w.heap.size ≤ w.heap.size + 1; omega) _).setCell (p := ⟨w.heap.size + 1, 1, none⟩) (by show w.heap.size ≤ w.heap.size + 1; omega) _).setCell (p := ⟨w.heap.size + 1, 2, none⟩) (by show w.heap.size ≤ w.heap.size + 1; omega) _
  obtain ⟨⟨hC1, hC2⟩, hL3, hrg⟩ := lit_rgt hl
  have HL3 := hide hL3
  have HRG := hide hrg
  rw [hl] at hok
  by_cases hz50 : N ≤ 50
  case neg =>
    have HO : Hid (rpB C L F zs = false) := hide (by unfold rpB; rw [pkB_len (by rw [HN.out]; exact hz50), Bool.and_false])
    have h50 : (50 : Int) < (N : Int) := by omega
    have h51 : decide ((50 : Int) < (N : Int)) = true := by simp; omega
    have h52 : decide (50 < N) = true := by simp; omega
    clear hL3 hrg
    go_enter Try.func10, Try.ntmps10
    go_wp2_with fail
    refine (hok _ (HS.out.below hB0)).mono ?_
    rintro e w1 ⟨rfl, hb1⟩
    have g2' := heap_b g2 hb1
    obtain ⟨fz, z0, z1, z2⟩ := row3_facts g2'
    have HB := hide (hB0.trans (hb1.mono hB0.size))
    clear hb1 g1 g2 g2' x0 hB0
    go_wp2
    refine bodyPost_ret (v := .tuple #[.agg #[nil3, nil3, nil3], .bool false]) (by simp [results, Try.results10, go_sem, z0, z1, z2]) rfl (.inl ⟨HO.out, rfl, ?_⟩)
    exact ((HB.out.setCell (p := ⟨w.heap.size + 1, 0, none⟩) (by show w.heap.size ≤ w.heap.size + 1; omega) _).setCell (p := ⟨w.heap.size + 1, 1, none⟩) (by show w.heap.size ≤ w.heap.size + 1; omega) _).setCell (p := ⟨w.heap.size + 1, 2, none⟩) (by show w.heap.size ≤ w.heap.size + 1; omega) _
  have h51 : decide ((50 : Int) < (N : Int)) = false := by simp; omega
  have h52 : decide (50 < N) = false := by simp; omega
  have h53 : ¬ ((50 : Int) < (N : Int)) := by omega
  have HLT := hide hl
  clear hL3 hrg hl
  go_enter Try.func10, Try.ntmps10
  go_wp2_with fail
  refine (hok _ (HS.out.below hB0)).mono ?_
  rintro e w1 ⟨rfl, hb1⟩
  have x1 := keepc hb1 x0
  go_wp2_with fail
  refine (l11Start_any ta C tc hC1 hC2 _).mono ?_
  rintro e w3 ⟨ma0, ba0, ra0, mn0, mc0, bc0, rc0, g0, gc0, rfl, hst, hb3⟩
  have hc3 := hb1.trans (hb3.mono hb1.size)
  have hB3 := hB0.trans (hc3.mono hB0.size)
  have gl := heap_b g1 hc3
  have ga := heap_b g2 hc3
  have hsz3 := hc3.size
  simp only [World.size_alloc] at hsz3
  obtain ⟨t, ht⟩ : ∃ t : T1, (Value.slice ma0 mn0 mc0, Value.slice ba0 C bc0, Value.slice ra0 C rc0, Value.slice (some ⟨g0, 0, none⟩) C gc0, s00) = t := ⟨_, rfl⟩
  have hA4 : Below w3.heap.size w3 (w3.alloc (.cells #[.slice ma0 mn0 mc0, .slice ba0 C bc0, .slice ra0 C rc0, .slice (some ⟨g0, 0, none⟩) C gc0] 59)) := (Below.refl _ _).alloc (Nat.le_refl _) _
  have HS0 : Hid (Rv w3 (w3.alloc (.cells #[.slice ma0 mn0 mc0, .slice ba0 C bc0, .slice ra0 C rc0, .slice (some ⟨g0, 0, none⟩) C gc0] 59)) t (pks C L F (fun j => (zs.getD j 0).toNat) s00 0) C L (.slice ma0 mn0 mc0) (.slice ba0 C bc0) (.slice ra0 C rc0) (.slice (some ⟨g0, 0, none⟩) C gc0)) := hide ⟨heap_alloc_new _ _, .inl ⟨ht.symm, hst, hA4⟩, s00_ok hC1 hC2, hA4⟩
  have HB3 := hide hB3
  have HGL := hide gl
  have HGA := hide ga
  have hm2 : wrap64 (2 * (C : Int)) = 2 * (C : Int) := Go.IntWalk.wrap64_in _ (by omega)
  have hm1 : wrap64 (2 * (C : Int) - 1) = 2 * (C : Int) - 1 := Go.IntWalk.wrap64_in _ (by omega)
  clear hb1 hb3 hc3 g1 g2 x0 x1 hB0 hst hA4 hB3 gl ga ht hok
  go_wp2
  go_loopw [8] (fun i wr => ∃ k : Nat, k ≤ N ∧ i = .int .i64 k ∧ (∃ (ma ba ra : Option Addr) (mn mc bc rc g go gc : Nat), Hid (Rv w3 wr t (pks C L F (fun j => (zs.getD j 0).toNat) s00 k) C L (.slice ma mn mc) (.slice ba C bc) (.slice ra C rc) (.slice (some ⟨g, go, none⟩) C gc))) ∧ Hid (∀ j, j < k → inB (zs.getD j 0) 0 (2 * (C : Int)) = true)) (fun i _ => N - (intOf i).toNat)
  case atStart => exact ⟨0, Nat.zero_le _, rfl, ⟨ma0, ba0, ra0, mn0, mc0, bc0, rc0, g0, 0, gc0, HS0⟩, hide (fun j hj => by omega)⟩
  case round =>
    clear HS0
    obtain ⟨k, hk, rfl, ⟨ma, ba, ra, mn, mc, bc, rc, g, go, gc, HR⟩, HA⟩ := hrel
    obtain ⟨wo, hwo⟩ : ∃ wo, wo = wr := ⟨_, rfl⟩
    subst hwo
    by_cases hlt : k < N
    · have hB := HB3.out.trans (HR.out.bel.mono HB3.out.size)
      obtain ⟨za', zc', ez, hzz⟩ := HZ.out
      rw [HN.out] at hzz ez
      obtain ⟨p, po, rfl, hcz⟩ := hzz (by omega)
      obtain ⟨rfl, rfl⟩ : za = some ⟨p, po, none⟩ ∧ zc = zc' := by simp only [Value.slice.injEq] at ez; exact ⟨ez.1, ez.2.2⟩
      have ck := Below.keep hB _ _ (hcz k hlt)
      have hin := fun W => l1InB (zs.getD k 0) 0 (2 * (C : Int) - 1) W
      have e2 : 2 * (C : Int) - 1 + 1 = 2 * (C : Int) := by omega
      rw [e2] at hin
      clear e2 hzz hcz ez
      cases hx : inB (zs.getD k 0) 0 (2 * (C : Int))
      · have HO : Hid (rpB C L F zs = false) := hide (by unfold rpB; rw [pkB_at (by rw [HN.out]; exact hlt) hx, Bool.and_false])
        have ga' := heap_b HGA.out HR.out.bel
        obtain ⟨fz, z0, z1, z2⟩ := row3_facts ga'
        have HB := hide hB
        rw [hx] at hin
        generalize zs.getD k 0 = z at ck hin
        clear hx HA HR ga' hB
        go_wp2_with fail
        refine (hin _).mono ?_
        rintro e w4 ⟨rfl, rfl⟩
        go_wp2
        refine bodyPost_ret (v := .tuple #[.agg #[nil3, nil3, nil3], .bool false]) (by simp [results, Try.results10, go_sem, z0, z1, z2]) rfl (.inl ⟨HO.out, rfl, ?_⟩)
        exact ((HB.out.setCell (p := ⟨w.heap.size + 1, 0, none⟩) (by show w.heap.size ≤ w.heap.size + 1; omega) _).setCell (p := ⟨w.heap.size + 1, 1, none⟩) (by show w.heap.size ≤ w.heap.size + 1; omega) _).setCell (p := ⟨w.heap.size + 1, 2, none⟩) (by show w.heap.size ≤ w.heap.size + 1; omega) _
      · have HA2 : Hid (∀ j, j < k + 1 → inB (zs.getD j 0) 0 (2 * (C : Int)) = true) := hide (fun j hj => by
          by_cases e : j = k
          · rw [e]; exact hx
          · exact HA.out j (by omega))
        obtain ⟨hz0, hz1⟩ : 0 ≤ zs.getD k 0 ∧ zs.getD k 0 < 2 * (C : Int) := by simp only [inB, Bool.and_eq_true, decide_eq_true_eq] at hx; exact hx
        obtain ⟨q, hq⟩ := Int.eq_ofNat_of_zero_le hz0
        have HNX : Hid (pks C L F (fun j => (zs.getD j 0).toNat) s00 (k + 1) = (pck C L F (pks C L F (fun j => (zs.getD j 0).toNat) s00 k) q).getD (pks C L F (fun j => (zs.getD j 0).toNat) s00 k)) := hide (by
          show (pck C L F _ ((zs.getD k 0).toNat)).getD _ = _
          rw [hq]; rfl)
        rw [hx] at hin
        rw [hq] at ck hz1 hin
        have hq2 : q < 2 * C := by omega
        generalize pks C L F (fun j => (zs.getD j 0).toNat) s00 k = s at HR HNX
        obtain ⟨s', hs'⟩ : ∃ s', pks C L F (fun j => (zs.getD j 0).toNat) s00 (k + 1) = s' := ⟨_, rfl⟩
        rw [hs'] at HNX
        have HSE := hide hs'
        have hpc := fun W hsa hst => step_u ta C tc L F s ma ba ra mn mc bc rc g go gc q W hsa hst HR.out.ok hC1 hC2 HL3.out hq2
        have HOK : Hid (Rok C L s') := hide (by
          rw [HNX.out]
          cases e : pck C L F s q with
          | none => exact HR.out.ok
          | some t => exact pck_ok HR.out.ok e)
        have HSM : Hid ((pck C L F s q).isSome = false → s' = s) := hide (fun e => by rw [HNX.out]; exact getD_none e)
        rw [← HNX.out] at hpc
        generalize (pck C L F s q).isSome = ok at hpc HSM
        obtain ⟨fr, y0, y1, y2, y3⟩ := row4_facts HR.out.box
        have x0 : wo.cell? ⟨w.heap.size, 0, none⟩ = some (.slice ta C tc) := keepc HR.out.bel ((cell_of_row _ _ 0 _ _ _ HGL.out).trans rfl)
        have HBB := hide hB
        clear hz0 hz1 hq HNX hB hs' HA hx
        go_wp2_with fail
        refine (hin _).mono ?_
        rintro e w4 ⟨rfl, h4⟩
        have h4' := h4.symm
        clear h4
        subst h4'
        go_wp2
        go_cut [9, 10] (fun pp hb wc => ∃ (b9 hi9 : Nat) (ma9 ba9 ra9 : Option Addr) (mn9 mc9 bc9 rc9 g9 go9 gc9 : Nat), pp = .pointer (some ⟨b9, 0, none⟩) ∧ hb = .bool ok ∧ Hid (wc.heap[b9]? = some (.cells #[.slice ma9 mn9 mc9, .slice ba9 C bc9, .slice ra9 C rc9, .slice (some ⟨g9, go9, none⟩) C gc9] 59 (0, 0)) ∧ wc.heap[w3.heap.size]? = some (.cells #[.slice ma mn mc, .slice ba C bc, .slice ra C rc, .slice (some ⟨g, go, none⟩) C gc] 59 (0, 0)) ∧ Sw 1 hi9 w3 wc t (.slice ma9 mn9 mc9) (.slice ba9 C bc9) (.slice ra9 C rc9) (.slice (some ⟨g9, go9, none⟩) C gc9) s' C ∧ hi9 ≤ wc.heap.size ∧ Below w3.heap.size w3 wc ∧ b9 ≠ w3.heap.size ∧ Below wo.heap.size wo wc))
        case first =>
          refine wp_region_held_drew (S := fun w' => Below wo.heap.size wo w') (by kernel_rfl) ((Below.refl _ _).drew) (fun hHeld => ?_)
          refine wpAnyH_take (i := 0) (v := .agg #[.slice ta C tc]) rfl (by kernel_rfl) (by kernel_rfl) (by kernel_rfl) (fun _ _ _ h => h) (Or.inl ⟨by rfl, fun w' hSw => ?_⟩) (by assumption) ?_
          · (try dsimp only at hSw); have x0 := keepc hSw x0; go_simp
          try simp only [Act.put, List.getElem_toArray, List.getElem_cons_zero, List.getElem_cons_succ, List.setIfInBounds_toArray, List.set_cons_zero, List.set_cons_succ]
          refine wpAnyH_take (i := 1) (v := .agg #[.slice ma mn mc, .slice ba C bc, .slice ra C rc, .slice (some ⟨g, go, none⟩) C gc]) rfl (by kernel_rfl) (by kernel_rfl) (by kernel_rfl) (fun _ _ _ h => h) (Or.inl ⟨by rfl, fun w' hSw => ?_⟩) (by assumption) ?_
          · (try dsimp only at hSw); have y0 := keepc hSw y0; have y1 := keepc hSw y1; have y2 := keepc hSw y2; have y3 := keepc hSw y3; go_simp
          try simp only [Act.put, List.getElem_toArray, List.getElem_cons_zero, List.getElem_cons_succ, List.setIfInBounds_toArray, List.set_cons_zero, List.set_cons_succ]
          refine wpAnyH_take (i := 2) (v := .slice (some ⟨p, po, none⟩) N zc) rfl (by kernel_rfl) (by kernel_rfl) (by kernel_rfl) (fun _ _ _ h => h) (Or.inl ⟨by rfl, fun w' hSw => ?_⟩) (by assumption) ?_
          · (try dsimp only at hSw); skip; go_simp
          try simp only [Act.put, List.getElem_toArray, List.getElem_cons_zero, List.getElem_cons_succ, List.setIfInBounds_toArray, List.set_cons_zero, List.set_cons_succ]
          refine wpAnyH_take (i := 3) (v := .int .i64 k) rfl (by kernel_rfl) (by kernel_rfl) (by kernel_rfl) (fun _ _ _ h => h) (Or.inl ⟨by rfl, fun w' hSw => ?_⟩) (by assumption) ?_
          · (try dsimp only at hSw); skip; go_simp
          try simp only [Act.put, List.getElem_toArray, List.getElem_cons_zero, List.getElem_cons_succ, List.setIfInBounds_toArray, List.set_cons_zero, List.set_cons_succ]
          refine wpAnyH_take (i := 4) (v := .pointer (some ⟨p, po + k, none⟩)) rfl (by kernel_rfl) (by kernel_rfl) (by kernel_rfl) (fun _ _ _ h => h) (Or.inl ⟨by rfl, fun w' hSw => ?_⟩) (by assumption) ?_
          · (try dsimp only at hSw); skip; go_simp
          try simp only [Act.put, List.getElem_toArray, List.getElem_cons_zero, List.getElem_cons_succ, List.setIfInBounds_toArray, List.set_cons_zero, List.set_cons_succ]
          refine wpAnyH_take (i := 5) (v := .int .i64 q) rfl (by kernel_rfl) (by kernel_rfl) (by kernel_rfl) (fun _ _ _ h => h) (Or.inl ⟨by rfl, fun w' hSw => ?_⟩) (by assumption) ?_
          · (try dsimp only at hSw); have ck := keepc hSw ck; go_simp
          try simp only [Act.put, List.getElem_toArray, List.getElem_cons_zero, List.getElem_cons_succ, List.setIfInBounds_toArray, List.set_cons_zero, List.set_cons_succ]
          obtain ⟨V0, hV0⟩ : ∃ V, wo.drew = V := ⟨_, rfl⟩
          rw [hV0] at hHeld ⊢
          clear hV0
          have hHe0 := hHeld
          have sz0 := hHeld.size
          have hbx := lt_of_block HR.out.box
          refine wpAnyH_ready (rs := [6, 10]) (by kernel_rfl) (by simp) ?_
          refine AllReadyH.cons rfl (fun K hK => ?_) (AllReadyH.cons rfl (fun K hK => ?_) AllReadyH.nil)
          · go_simp
            refine (hpc _ (HS.out.below (HBB.out.trans (hHeld.mono HBB.out.size))) ((HR.out.sw.below hHeld).st (by omega))).mono ?_
            rintro e w5 ⟨ma9, ba9, ra9, mn9, mc9, bc9, rc9, g9, go9, gc9, rfl, hb5, hd5⟩
            have hHe2 := hHeld.trans (hb5.mono hHeld.size)
            have hz5 := hb5.size
            refine hK.out _ _ hHe2 (fun hHeld => ?_)
            clear hK K
            try simp only [Act.put, List.getElem_toArray, List.getElem_cons_zero, List.getElem_cons_succ, List.setIfInBounds_toArray, List.set_cons_zero, List.set_cons_succ]
            refine wpAnyH_take (i := 7) (v := .tuple #[.agg #[.slice ma9 mn9 mc9, .slice ba9 C bc9, .slice ra9 C rc9, .slice (some ⟨g9, go9, none⟩) C gc9], .bool ok]) rfl (by kernel_rfl) (by kernel_rfl) (by kernel_rfl) (fun _ _ _ h => h) (Or.inl ⟨by rfl, fun w' hSw => ?_⟩) (by assumption) ?_
            · (try dsimp only at hSw); skip; go_simp
            try simp only [Act.put, List.getElem_toArray, List.getElem_cons_zero, List.getElem_cons_succ, List.setIfInBounds_toArray, List.set_cons_zero, List.set_cons_succ]
            refine wpAnyH_take (i := 8) (v := .agg #[.slice ma9 mn9 mc9, .slice ba9 C bc9, .slice ra9 C rc9, .slice (some ⟨g9, go9, none⟩) C gc9]) rfl (by kernel_rfl) (by kernel_rfl) (by kernel_rfl) (fun _ _ _ h => h) (Or.inl ⟨by rfl, fun w' hSw => ?_⟩) (by assumption) ?_
            · (try dsimp only at hSw); skip; go_simp
            try simp only [Act.put, List.getElem_toArray, List.getElem_cons_zero, List.getElem_cons_succ, List.setIfInBounds_toArray, List.set_cons_zero, List.set_cons_succ]
            refine wpAnyH_take (i := 9) (v := .bool ok) rfl (by kernel_rfl) (by kernel_rfl) (by kernel_rfl) (fun _ _ _ h => h) (Or.inl ⟨by rfl, fun w' hSw => ?_⟩) (by assumption) ?_
            · (try dsimp only at hSw); skip; go_simp
            try simp only [Act.put, List.getElem_toArray, List.getElem_cons_zero, List.getElem_cons_succ, List.setIfInBounds_toArray, List.set_cons_zero, List.set_cons_succ]
            refine wpAnyH_ready (rs := [10]) (by kernel_rfl) (by simp) ?_
            refine AllReadyH.cons rfl (fun K hK => ?_) AllReadyH.nil
            go_simp
            have hA9 : Below w5.heap.size w5 (w5.alloc (.cells #[.slice none 0 0, .slice none 0 0, .slice none 0 0, .slice none 0 0] 59)) := (Below.refl _ _).alloc (Nat.le_refl _) _
            refine hK.out _ _ (hHeld.trans (hA9.mono hHeld.size)) (fun hHeld => ?_)
            clear hK K
            try simp only [Act.put, List.getElem_toArray, List.getElem_cons_zero, List.getElem_cons_succ, List.setIfInBounds_toArray, List.set_cons_zero, List.set_cons_succ]
            have hA6 : Below w5.heap.size w5 (w5.alloc (.cells #[.slice ma9 mn9 mc9, .slice ba9 C bc9, .slice ra9 C rc9, .slice (some ⟨g9, go9, none⟩) C gc9] 59)) := (Below.refl _ _).alloc (Nat.le_refl _) _
            have hb6 := hHe2.trans (hA6.mono hHe2.size)
            have tw := HR.out.sw.did (hi := w5.heap.size) hHe2 hd5 (fun q => HSM.out q) (by omega) (by omega)
            have HZ : Hid ((w5.alloc (.cells #[.slice ma9 mn9 mc9, .slice ba9 C bc9, .slice ra9 C rc9, .slice (some ⟨g9, go9, none⟩) C gc9] 59)).heap[w5.heap.size]? = some (.cells #[.slice ma9 mn9 mc9, .slice ba9 C bc9, .slice ra9 C rc9, .slice (some ⟨g9, go9, none⟩) C gc9] 59 (0, 0)) ∧ (w5.alloc (.cells #[.slice ma9 mn9 mc9, .slice ba9 C bc9, .slice ra9 C rc9, .slice (some ⟨g9, go9, none⟩) C gc9] 59)).heap[w3.heap.size]? = some (.cells #[.slice ma mn mc, .slice ba C bc, .slice ra C rc, .slice (some ⟨g, go, none⟩) C gc] 59 (0, 0)) ∧ Sw 1 w5.heap.size w3 (w5.alloc (.cells #[.slice ma9 mn9 mc9, .slice ba9 C bc9, .slice ra9 C rc9, .slice (some ⟨g9, go9, none⟩) C gc9] 59)) t (.slice ma9 mn9 mc9) (.slice ba9 C bc9) (.slice ra9 C rc9) (.slice (some ⟨g9, go9, none⟩) C gc9) s' C ∧ w5.heap.size ≤ (w5.alloc (.cells #[.slice ma9 mn9 mc9, .slice ba9 C bc9, .slice ra9 C rc9, .slice (some ⟨g9, go9, none⟩) C gc9] 59)).heap.size ∧ Below w3.heap.size w3 (w5.alloc (.cells #[.slice ma9 mn9 mc9, .slice ba9 C bc9, .slice ra9 C rc9, .slice (some ⟨g9, go9, none⟩) C gc9] 59)) ∧ w5.heap.size ≠ w3.heap.size ∧ Below wo.heap.size wo (w5.alloc (.cells #[.slice ma9 mn9 mc9, .slice ba9 C bc9, .slice ra9 C rc9, .slice (some ⟨g9, go9, none⟩) C gc9] 59))) := hide ⟨heap_alloc_new _ _, heap_b HR.out.box hb6, tw.below hA6, by simp, HR.out.bel.trans (hb6.mono HR.out.bel.size), by omega, hb6⟩
            clear hd5 hb5 hA6 hHe2 hA9 tw
            refine wpAnyH_ready (rs := [11]) (by kernel_rfl) (by simp) ?_
            refine AllReadyH.cons rfl (fun K hK => ?_) AllReadyH.nil
            go_simp
            refine hK.out _ _ hb6 (fun hHeld => ?_)
            clear hK K
            try simp only [Act.put, List.getElem_toArray, List.getElem_cons_zero, List.getElem_cons_succ, List.setIfInBounds_toArray, List.set_cons_zero, List.set_cons_succ]
            refine wpAnyH_ready (rs := [12]) (by kernel_rfl) (by simp) ?_
            refine AllReadyH.cons rfl (fun K hK => ?_) AllReadyH.nil
            go_simp
            refine hK.out _ _ hHeld (fun hHeld => ?_)
            clear hK K
            try simp only [Act.put, List.getElem_toArray, List.getElem_cons_zero, List.getElem_cons_succ, List.setIfInBounds_toArray, List.set_cons_zero, List.set_cons_succ]
            refine wpAnyH_done (by kernel_rfl) ?_ _
            try go_wp2_with fail
            go_meet
            exact ⟨_, w5.heap.size, _, _, _, _, _, _, _, _, _, _, rfl, rfl, HZ⟩
          · go_simp
            have hA9 : Below V0.heap.size V0 (V0.alloc (.cells #[.slice none 0 0, .slice none 0 0, .slice none 0 0, .slice none 0 0] 59)) := (Below.refl _ _).alloc (Nat.le_refl _) _
            have qB9 : (V0.alloc (.cells #[.slice none 0 0, .slice none 0 0, .slice none 0 0, .slice none 0 0] 59)).heap[V0.heap.size]? = some (.cells #[.slice none 0 0, .slice none 0 0, .slice none 0 0, .slice none 0 0] 59 (0, 0)) := heap_alloc_new _ _
            have hHe1 := hHe0.trans (hA9.mono hHe0.size)
            refine hK.out _ _ hHe1 (fun hHeld => ?_)
            clear hK K
            try simp only [Act.put, List.getElem_toArray, List.getElem_cons_zero, List.getElem_cons_succ, List.setIfInBounds_toArray, List.set_cons_zero, List.set_cons_succ]
            refine wpAnyH_ready (rs := [6]) (by kernel_rfl) (by simp) ?_
            refine AllReadyH.cons rfl (fun K hK => ?_) AllReadyH.nil
            go_simp
            refine (hpc _ (HS.out.below (HBB.out.trans (hHeld.mono HBB.out.size))) ((HR.out.sw.below hHeld).st (by omega))).mono ?_
            rintro e w5 ⟨ma9, ba9, ra9, mn9, mc9, bc9, rc9, g9, go9, gc9, rfl, hb5, hd5⟩
            have hHe2 := hHeld.trans (hb5.mono hHeld.size)
            have hz5 := hb5.size
            have qB5 := heap_b qB9 hb5
            obtain ⟨fz9, c90, c91, c92, c93⟩ := row4_facts qB5
            refine hK.out _ _ hHe2 (fun hHeld => ?_)
            clear hK K
            try simp only [Act.put, List.getElem_toArray, List.getElem_cons_zero, List.getElem_cons_succ, List.setIfInBounds_toArray, List.set_cons_zero, List.set_cons_succ]
            refine wpAnyH_take (i := 7) (v := .tuple #[.agg #[.slice ma9 mn9 mc9, .slice ba9 C bc9, .slice ra9 C rc9, .slice (some ⟨g9, go9, none⟩) C gc9], .bool ok]) rfl (by kernel_rfl) (by kernel_rfl) (by kernel_rfl) (fun _ _ _ h => h) (Or.inl ⟨by rfl, fun w' hSw => ?_⟩) (by assumption) ?_
            · (try dsimp only at hSw); skip; go_simp
            try simp only [Act.put, List.getElem_toArray, List.getElem_cons_zero, List.getElem_cons_succ, List.setIfInBounds_toArray, List.set_cons_zero, List.set_cons_succ]
            refine wpAnyH_take (i := 8) (v := .agg #[.slice ma9 mn9 mc9, .slice ba9 C bc9, .slice ra9 C rc9, .slice (some ⟨g9, go9, none⟩) C gc9]) rfl (by kernel_rfl) (by kernel_rfl) (by kernel_rfl) (fun _ _ _ h => h) (Or.inl ⟨by rfl, fun w' hSw => ?_⟩) (by assumption) ?_
            · (try dsimp only at hSw); skip; go_simp
            try simp only [Act.put, List.getElem_toArray, List.getElem_cons_zero, List.getElem_cons_succ, List.setIfInBounds_toArray, List.set_cons_zero, List.set_cons_succ]
            refine wpAnyH_take (i := 9) (v := .bool ok) rfl (by kernel_rfl) (by kernel_rfl) (by kernel_rfl) (fun _ _ _ h => h) (Or.inl ⟨by rfl, fun w' hSw => ?_⟩) (by assumption) ?_
            · (try dsimp only at hSw); skip; go_simp
            try simp only [Act.put, List.getElem_toArray, List.getElem_cons_zero, List.getElem_cons_succ, List.setIfInBounds_toArray, List.set_cons_zero, List.set_cons_succ]
            simp only [World.size_alloc] at hd5 hz5
            have hb6 : Below wo.heap.size wo ((((w5.setCell ⟨V0.heap.size, 0, none⟩ (.slice ma9 mn9 mc9)).setCell ⟨V0.heap.size, 1, none⟩ (.slice ba9 C bc9)).setCell ⟨V0.heap.size, 2, none⟩ (.slice ra9 C rc9)).setCell ⟨V0.heap.size, 3, none⟩ (.slice (some ⟨g9, go9, none⟩) C gc9)) := four_below hHe2 sz0
            have hd6 := hd5.four (B := V0.heap.size) (v0 := .slice ma9 mn9 mc9) (v1 := .slice ba9 C bc9) (v2 := .slice ra9 C rc9) (v3 := .slice (some ⟨g9, go9, none⟩) C gc9) (by omega) (.inl (by omega))
            have tw := HR.out.sw.did (hi := w5.heap.size) hb6 hd6 (fun q => HSM.out q) (by omega) (by omega)
            have HZ : Hid (((((w5.setCell ⟨V0.heap.size, 0, none⟩ (.slice ma9 mn9 mc9)).setCell ⟨V0.heap.size, 1, none⟩ (.slice ba9 C bc9)).setCell ⟨V0.heap.size, 2, none⟩ (.slice ra9 C rc9)).setCell ⟨V0.heap.size, 3, none⟩ (.slice (some ⟨g9, go9, none⟩) C gc9)).heap[V0.heap.size]? = some (.cells #[.slice ma9 mn9 mc9, .slice ba9 C bc9, .slice ra9 C rc9, .slice (some ⟨g9, go9, none⟩) C gc9] 59 (0, 0)) ∧ ((((w5.setCell ⟨V0.heap.size, 0, none⟩ (.slice ma9 mn9 mc9)).setCell ⟨V0.heap.size, 1, none⟩ (.slice ba9 C bc9)).setCell ⟨V0.heap.size, 2, none⟩ (.slice ra9 C rc9)).setCell ⟨V0.heap.size, 3, none⟩ (.slice (some ⟨g9, go9, none⟩) C gc9)).heap[w3.heap.size]? = some (.cells #[.slice ma mn mc, .slice ba C bc, .slice ra C rc, .slice (some ⟨g, go, none⟩) C gc] 59 (0, 0)) ∧ Sw 1 w5.heap.size w3 ((((w5.setCell ⟨V0.heap.size, 0, none⟩ (.slice ma9 mn9 mc9)).setCell ⟨V0.heap.size, 1, none⟩ (.slice ba9 C bc9)).setCell ⟨V0.heap.size, 2, none⟩ (.slice ra9 C rc9)).setCell ⟨V0.heap.size, 3, none⟩ (.slice (some ⟨g9, go9, none⟩) C gc9)) t (.slice ma9 mn9 mc9) (.slice ba9 C bc9) (.slice ra9 C rc9) (.slice (some ⟨g9, go9, none⟩) C gc9) s' C ∧ w5.heap.size ≤ ((((w5.setCell ⟨V0.heap.size, 0, none⟩ (.slice ma9 mn9 mc9)).setCell ⟨V0.heap.size, 1, none⟩ (.slice ba9 C bc9)).setCell ⟨V0.heap.size, 2, none⟩ (.slice ra9 C rc9)).setCell ⟨V0.heap.size, 3, none⟩ (.slice (some ⟨g9, go9, none⟩) C gc9)).heap.size ∧ Below w3.heap.size w3 ((((w5.setCell ⟨V0.heap.size, 0, none⟩ (.slice ma9 mn9 mc9)).setCell ⟨V0.heap.size, 1, none⟩ (.slice ba9 C bc9)).setCell ⟨V0.heap.size, 2, none⟩ (.slice ra9 C rc9)).setCell ⟨V0.heap.size, 3, none⟩ (.slice (some ⟨g9, go9, none⟩) C gc9)) ∧ V0.heap.size ≠ w3.heap.size ∧ Below wo.heap.size wo ((((w5.setCell ⟨V0.heap.size, 0, none⟩ (.slice ma9 mn9 mc9)).setCell ⟨V0.heap.size, 1, none⟩ (.slice ba9 C bc9)).setCell ⟨V0.heap.size, 2, none⟩ (.slice ra9 C rc9)).setCell ⟨V0.heap.size, 3, none⟩ (.slice (some ⟨g9, go9, none⟩) C gc9))) := hide ⟨four_row qB5, four_heap (heap_b HR.out.box hHe2) (by omega), tw, by rw [four_size]; exact Nat.le_refl _, HR.out.bel.trans (hb6.mono HR.out.bel.size), by omega, hb6⟩
            clear hd5 hd6 hb5 hHe2 hHe1 hA9 qB9 qB5 tw
            refine wpAnyH_ready (rs := [11]) (by kernel_rfl) (by simp) ?_
            refine AllReadyH.cons rfl (fun K hK => ?_) AllReadyH.nil
            go_simp
            refine hK.out _ _ hb6 (fun hHeld => ?_)
            clear hK K
            try simp only [Act.put, List.getElem_toArray, List.getElem_cons_zero, List.getElem_cons_succ, List.setIfInBounds_toArray, List.set_cons_zero, List.set_cons_succ]
            refine wpAnyH_ready (rs := [12]) (by kernel_rfl) (by simp) ?_
            refine AllReadyH.cons rfl (fun K hK => ?_) AllReadyH.nil
            go_simp
            refine hK.out _ _ hHeld (fun hHeld => ?_)
            clear hK K
            try simp only [Act.put, List.getElem_toArray, List.getElem_cons_zero, List.getElem_cons_succ, List.setIfInBounds_toArray, List.set_cons_zero, List.set_cons_succ]
            refine wpAnyH_done (by kernel_rfl) ?_ _
            try go_wp2_with fail
            go_meet
            exact ⟨_, w5.heap.size, _, _, _, _, _, _, _, _, _, _, rfl, rfl, HZ⟩
        case rest =>
          obtain ⟨b9, hi9, ma9, ba9, ra9, mn9, mc9, bc9, rc9, g9, go9, gc9, rfl, rfl, HZ⟩ := hcut
          obtain ⟨r9, r7, sw9, hh9, hb9, hne9, hwc⟩ := HZ.out
          have HWC := hide hwc
          obtain ⟨f9, u0, u1, u2, u3⟩ := row4_facts r9
          clear y0 y1 y2 y3 fr x0 ck
          obtain ⟨fr, y0, y1, y2, y3⟩ := row4_facts r7
          have hbw := lt_of_block r7
          cases ok
          · have e9 := HSM.out rfl
            have HNEW : Hid (Rv w3 wc t s' C L (.slice ma mn mc) (.slice ba C bc) (.slice ra C rc) (.slice (some ⟨g, go, none⟩) C gc)) := hide (by
              rw [e9]
              exact ⟨r7, (HR.out.sw.below HWC.out).mono HWC.out.size, HR.out.ok, hb9⟩)
            clear e9 HZ r9 r7 sw9 hb9 HR hpc
            go_wp2
            go_roundw
            case rel => exact ⟨k + 1, by omega, by go_num, ⟨_, _, _, _, _, _, _, _, _, _, hide (by rw [HSE.out]; exact HNEW.out)⟩, HA2⟩
            case measure => simp [intOf]; omega
          · have HNEW : Hid (Rv w3 ((((wc.setCell ⟨w3.heap.size, 0, none⟩ (.slice ma9 mn9 mc9)).setCell ⟨w3.heap.size, 1, none⟩ (.slice ba9 C bc9)).setCell ⟨w3.heap.size, 2, none⟩ (.slice ra9 C rc9)).setCell ⟨w3.heap.size, 3, none⟩ (.slice (some ⟨g9, go9, none⟩) C gc9)) t s' C L (.slice ma9 mn9 mc9) (.slice ba9 C bc9) (.slice ra9 C rc9) (.slice (some ⟨g9, go9, none⟩) C gc9)) := hide ⟨four_row r7, by rw [four_size]; exact (sw9.four (by omega) (by omega) (.inl (by omega))).mono hh9, HOK.out, four_below hb9 (by omega)⟩
            clear HZ r9 r7 sw9 hb9 HR hpc
            go_wp2
            go_roundw
            case rel => exact ⟨k + 1, by omega, by go_num, ⟨_, _, _, _, _, _, _, _, _, _, hide (by rw [HSE.out]; exact HNEW.out)⟩, HA2⟩
            case measure => simp [intOf]; omega
    · have ek : k = N := by omega
      have HEK : Hid (pks C L F (fun j => (zs.getD j 0).toNat) s00 k = pks C L F (fun j => (zs.getD j 0).toNat) s00 zs.length) := hide (by rw [HN.out, ek])
      have HRS : Hid (rnS C L F zs = fns C L F (pks C L F (fun j => (zs.getD j 0).toNat) s00 k) C) := hide (by rw [HEK.out]; rfl)
      have HO : Hid (rpB C L F zs = true) := hide (by unfold rpB; rw [HLT.out, pkB_yes (by rw [HN.out]; exact hz50) (by rw [HN.out, ← ek]; exact HA.out)]; rfl)
      have HST : Hid (Rv w3 wo t (fns C L F (pks C L F (fun j => (zs.getD j 0).toNat) s00 k) 0) C L (.slice ma mn mc) (.slice ba C bc) (.slice ra C rc) (.slice (some ⟨g, go, none⟩) C gc)) := HR
      generalize pks C L F (fun j => (zs.getD j 0).toNat) s00 k = sk at HST HRS
      clear HR HEK ek HA hm1 hm2
      go_wp2
      go_loopw [11] (fun i wr => ∃ j : Nat, j ≤ C ∧ i = .int .i64 j ∧ ∃ (ma ba ra : Option Addr) (mn mc bc rc g go gc : Nat), Hid (Rv w3 wr t (fns C L F sk j) C L (.slice ma mn mc) (.slice ba C bc) (.slice ra C rc) (.slice (some ⟨g, go, none⟩) C gc))) (fun i _ => C - (intOf i).toNat)
      case atStart => exact ⟨0, Nat.zero_le _, rfl, ma, ba, ra, mn, mc, bc, rc, g, go, gc, HST⟩
      case round =>
        clear HST
        obtain ⟨j, hj, rfl, ma1, ba1, ra1, mn1, mc1, bc1, rc1, g1, go1, gc1, HR1⟩ := hrel
        by_cases hjl : j < C
        · have HNX : Hid (fns C L F sk (j + 1) = fin C L F (fns C L F sk j) j) := hide rfl
          generalize fns C L F sk j = s0 at HR1 HNX
          obtain ⟨s9, hs9⟩ : ∃ s9, fns C L F sk (j + 1) = s9 := ⟨_, rfl⟩
          rw [hs9] at HNX
          have HS9 := hide hs9
          clear hs9
          obtain ⟨tb, tbc, et, hth⟩ := HS.out
          obtain ⟨tp, tq, rfl, hth2⟩ := hth (by omega)
          obtain ⟨rfl, rfl⟩ : ta = some ⟨tp, tq, none⟩ ∧ tc = tbc := by simp only [Value.slice.injEq] at et; exact ⟨et.1, et.2.2⟩
          obtain ⟨ia, ic, cth, _⟩ := hth2 j hjl
          have hLj := HL3.out j hjl
          have hj0 : (0 : Int) ≤ (j : Int) := by omega
          have hj1 : (j : Int) < (C : Int) := by omega
          clear et hth hth2
          go_wp2
          go_loopw [] (fun wr => ∃ (s : Rs) (ma ba ra : Option Addr) (mn mc bc rc g go gc : Nat), Hid (Rv w3 wr t s C L (.slice ma mn mc) (.slice ba C bc) (.slice ra C rc) (.slice (some ⟨g, go, none⟩) C gc)) ∧ Hid (fin C L F s0 j = fin C L F s j)) (fun wr => sml wr w3.heap.size j (L j))
          case atStart => exact ⟨s0, ma1, ba1, ra1, mn1, mc1, bc1, rc1, g1, go1, gc1, HR1, hide rfl⟩
          case round =>
            clear HR1
            obtain ⟨s, ma, ba, ra, mn, mc, bc, rc, g, go, gc, HR, HE⟩ := hrel
            have HM := hide (sml_eq HR.out.box (HR.out.sw.st (by omega)) L hjl)
            obtain ⟨fr, y0, y1, y2, y3⟩ := row4_facts HR.out.box
            have x0 : wr.cell? ⟨w.heap.size, 0, none⟩ = some (.slice (some ⟨tp, tq, none⟩) C tc) := keepc HR.out.bel ((cell_of_row _ _ 0 _ _ _ HGL.out).trans rfl)
            have hBw := HB3.out.trans (HR.out.bel.mono HB3.out.size)
            have ct := Below.keep hBw _ _ cth
            have ca : wr.cell? ⟨g, go + j, none⟩ = some (.int .i64 (s.a j : Nat)) := by
              obtain ⟨p9, o9, c9, e9, h9⟩ := (HR.out.sw.st (by omega)).ar
              simp only [Value.slice.injEq, Option.some.injEq, Addr.mk.injEq] at e9
              obtain ⟨⟨rfl, rfl, _⟩, _, _⟩ := e9
              exact h9 j hjl
            by_cases he : s.a j = L j
            · rw [he] at ca
              have HEE : Hid (s9 = s) := hide (by rw [HNX.out, HE.out, fin_stop he])
              have HRB := hide HR.out
              clear HM he HE hBw
              have hdl : decide ((L j : Int) < (L j : Int)) = false := by simp
              go_wp2
              go_quiet (fail)
              all_goals go_wp2
              have hD := below_drewN (Below.refl wr.heap.size wr) nq
              have HNEW : Hid (Rv w3 (wr.drewN nq) t s C L (.slice ma mn mc) (.slice ba C bc) (.slice ra C rc) (.slice (some ⟨g, go, none⟩) C gc)) := hide ⟨heap_b HR.out.box hD, (HR.out.sw.below hD).mono hD.size, HR.out.ok, HR.out.bel.trans (hD.mono HR.out.bel.size)⟩
              clear hD
              go_roundw
              case rel => exact ⟨j + 1, by omega, by go_num, ma, ba, ra, mn, mc, bc, rc, g, go, gc, hide (by rw [HS9.out, HEE.out]; exact HNEW.out)⟩
              case measure => simp [intOf]; omega
            · have hle := HR.out.ok.le j hjl
              have hlt2 : (s.a j : Int) < (L j : Int) := by omega
              have hdl : decide ((s.a j : Int) < (L j : Int)) = true := by simp; omega
              have hdn : decide (s.a j < L j) = true := by simp; omega
              obtain ⟨hm1, hk1⟩ := trn_less HRG.out HR.out.ok hjl he
              have HT := hide (And.intro hm1 hk1)
              have HE2 : Hid (fin C L F s0 j = fin C L F (trn C L F s j) j) := hide (by rw [HE.out]; exact fin_trn HRG.out HR.out.ok hjl he)
              have hpk := fun W hsa hst => step_u (some ⟨tp, tq, none⟩) C tc L F s ma ba ra mn mc bc rc g go gc j W hsa hst HR.out.ok hC1 hC2 HL3.out (by omega)
              have hdr := fun W hsa hst => step_u (some ⟨tp, tq, none⟩) C tc L F s ma ba ra mn mc bc rc g go gc (C + j) W hsa hst HR.out.ok hC1 hC2 HL3.out (by omega)
              have epk : pck C L F s j = stp C L F s j := by unfold pck; rw [if_pos hjl]
              have epd : pck C L F s (C + j) = drn C s j := by unfold pck; rw [if_neg (by omega), Nat.add_sub_cancel_left]
              rw [epk] at hpk
              rw [epd] at hdr
              have ecj : ((C + j : Nat) : Int) = (C : Int) + (j : Int) := by omega
              rw [ecj] at hdr
              have HWCJ : Hid (wrap64 ((C : Int) + (j : Int)) = (C : Int) + (j : Int)) := hide (Go.IntWalk.wrap64_in _ (by omega))
              have HTS : Hid ((stp C L F s j).isSome = true → trn C L F s j = (stp C L F s j).getD s) := hide (fun q => by
                unfold trn
                cases e : stp C L F s j with
                | none => rw [e] at q; cases q
                | some x => rfl)
              have HTN : Hid ((stp C L F s j).isSome = false → trn C L F s j = (drn C s j).getD s ∧ (stp C L F s j).getD s = s) := hide (fun q => by
                unfold trn
                cases e : stp C L F s j with
                | none => exact ⟨rfl, rfl⟩
                | some x => rw [e] at q; cases q)
              have HDN : Hid ((drn C s j).isSome = false → (drn C s j).getD s = s) := hide getD_none
              generalize (stp C L F s j).getD s = s1 at hpk HTS HTN
              generalize (stp C L F s j).isSome = ok at hpk HTS HTN
              generalize (drn C s j).getD s = s2 at hdr HTN HDN
              generalize (drn C s j).isSome = ok2 at hdr HDN
              generalize trn C L F s j = s3 at HT HE2 HTS HTN
              have HCA := hide he
              clear he hm1 hk1 epk epd HE hle ecj
              go_wp2
              go_quiet (fail)
              all_goals go_wp2_with fail
              have hD := below_drewN (Below.refl wr.heap.size wr) nq
              obtain ⟨V, hV⟩ : ∃ V, wr.drewN nq = V := ⟨_, rfl⟩
              rw [hV] at hD ⊢
              refine (hpk _ (HS.out.below (hBw.trans (hD.mono hBw.size))) ((HR.out.sw.below hD).st (by omega))).mono ?_
              rintro e w5 ⟨ma5, ba5, ra5, mn5, mc5, bc5, rc5, g5, go5, gc5, rfl, hb5, hd5⟩
              have hVs := hD.size
              have hb5s := hb5.size
              have hbx := lt_of_block HR.out.box
              have hc5 := hD.trans (hb5.mono hD.size)
              have tw5 := HR.out.sw.did (hi := w5.heap.size) hc5 hd5 (fun q => (HTN.out q).2) (by omega) (by omega)
              have hA6 : Below w5.heap.size w5 (w5.alloc (.cells #[.slice ma5 mn5 mc5, .slice ba5 C bc5, .slice ra5 C rc5, .slice (some ⟨g5, go5, none⟩) C gc5] 59)) := (Below.refl _ _).alloc (Nat.le_refl _) _
              have hc6 := hc5.trans (hA6.mono hc5.size)
              have r7 := heap_b HR.out.box hc6
              have r12 : (w5.alloc (.cells #[.slice ma5 mn5 mc5, .slice ba5 C bc5, .slice ra5 C rc5, .slice (some ⟨g5, go5, none⟩) C gc5] 59)).heap[w5.heap.size]? = some (.cells #[.slice ma5 mn5 mc5, .slice ba5 C bc5, .slice ra5 C rc5, .slice (some ⟨g5, go5, none⟩) C gc5] 59 (0, 0)) := heap_alloc_new _ _
              have tw6 := tw5.below hA6
              have x6 := keepc hc6 x0
              obtain ⟨V6, hV6⟩ : ∃ V6, w5.alloc (.cells #[.slice ma5 mn5 mc5, .slice ba5 C bc5, .slice ra5 C rc5, .slice (some ⟨g5, go5, none⟩) C gc5] 59) = V6 := ⟨_, rfl⟩
              have hV6s : w5.heap.size + 1 ≤ V6.heap.size := by rw [← hV6]; simp
              rw [hV6] at hc6 r7 r12 tw6 x6
              clear hV hd5 hb5 hc5 tw5 hA6 y0 y1 y2 y3 fr x0 hpk ca ct
              obtain ⟨f7, y0, y1, y2, y3⟩ := row4_facts r7
              obtain ⟨f12, u0, u1, u2, u3⟩ := row4_facts r12
              have hne5 : w3.heap.size ≠ w5.heap.size := by omega
              have hb6 := HR.out.bel.trans (hc6.mono HR.out.bel.size)
              cases ok with
              | true =>
                have e3 : s3 = s1 := HTS.out rfl
                have HNEW : Hid (Rv w3 ((((V6.setCell ⟨w3.heap.size, 0, none⟩ (.slice ma5 mn5 mc5)).setCell ⟨w3.heap.size, 1, none⟩ (.slice ba5 C bc5)).setCell ⟨w3.heap.size, 2, none⟩ (.slice ra5 C rc5)).setCell ⟨w3.heap.size, 3, none⟩ (.slice (some ⟨g5, go5, none⟩) C gc5)) t s1 C L (.slice ma5 mn5 mc5) (.slice ba5 C bc5) (.slice ra5 C rc5) (.slice (some ⟨g5, go5, none⟩) C gc5)) := hide ⟨four_row r7, by rw [four_size]; exact (tw6.four (by omega) (by omega) (.inl (by omega))).mono (by omega), by rw [← e3]; exact HT.out.2, four_below hb6 (by omega)⟩
                have HMM : Hid (sml ((((V6.setCell ⟨w3.heap.size, 0, none⟩ (.slice ma5 mn5 mc5)).setCell ⟨w3.heap.size, 1, none⟩ (.slice ba5 C bc5)).setCell ⟨w3.heap.size, 2, none⟩ (.slice ra5 C rc5)).setCell ⟨w3.heap.size, 3, none⟩ (.slice (some ⟨g5, go5, none⟩) C gc5)) w3.heap.size j (L j) < sml wr w3.heap.size j (L j)) := hide (by rw [sml_eq HNEW.out.box (HNEW.out.sw.st (by omega)) L hjl, HM.out, ← e3]; exact HT.out.1)
                have HEN : Hid (fin C L F s0 j = fin C L F s1 j) := hide (by rw [HE2.out, e3])
                clear e3 tw6 r7 r12 hdr HTS HTN HDN hc6 hb6 hD HR
                go_wp2
                clear hV6
                go_roundw
                case rel => exact ⟨s1, _, _, _, _, _, _, _, _, _, _, HNEW, HEN⟩
                case measure => exact HMM.out
              | false =>
                obtain ⟨e3, e1⟩ := HTN.out rfl
                have e1' := e1.symm
                clear e1
                subst e1'
                go_wp2_with fail
                refine (hdr _ (HS.out.below (hBw.trans (hc6.mono hBw.size))) ((HR.out.sw.below hc6).st (by omega))).mono ?_
                rintro e w7 ⟨ma7, ba7, ra7, mn7, mc7, bc7, rc7, g7, go7, gc7, rfl, hb7, hd7⟩
                have hb7s := hb7.size
                have hc7 := hc6.trans (hb7.mono hc6.size)
                have hd8 := hd7.four (B := w5.heap.size) (v0 := .slice ma7 mn7 mc7) (v1 := .slice ba7 C bc7) (v2 := .slice ra7 C rc7) (v3 := .slice (some ⟨g7, go7, none⟩) C gc7) (by omega) (.inl (by omega))
                have tw8 := HR.out.sw.did (hi := w7.heap.size) (four_below hc7 (by omega)) hd8 (fun q => HDN.out q) (by omega) (by omega)
                have r7' := heap_b r7 hb7
                have r12' := heap_b r12 hb7
                have hb8 := hb6.trans (hb7.mono hb6.size)
                have HNEW : Hid (Rv w3 ((((((((w7.setCell ⟨w5.heap.size, 0, none⟩ (.slice ma7 mn7 mc7)).setCell ⟨w5.heap.size, 1, none⟩ (.slice ba7 C bc7)).setCell ⟨w5.heap.size, 2, none⟩ (.slice ra7 C rc7)).setCell ⟨w5.heap.size, 3, none⟩ (.slice (some ⟨g7, go7, none⟩) C gc7)).setCell ⟨w3.heap.size, 0, none⟩ (.slice ma7 mn7 mc7)).setCell ⟨w3.heap.size, 1, none⟩ (.slice ba7 C bc7)).setCell ⟨w3.heap.size, 2, none⟩ (.slice ra7 C rc7)).setCell ⟨w3.heap.size, 3, none⟩ (.slice (some ⟨g7, go7, none⟩) C gc7)) t s2 C L (.slice ma7 mn7 mc7) (.slice ba7 C bc7) (.slice ra7 C rc7) (.slice (some ⟨g7, go7, none⟩) C gc7)) := hide ⟨four_row (four_heap r7' (by omega)), by rw [four_size, four_size]; exact tw8.four (by omega) (by omega) (.inl (by omega)), by rw [← e3]; exact HT.out.2, four_below (four_below hb8 (by omega)) (by omega)⟩
                have HMM : Hid (sml ((((((((w7.setCell ⟨w5.heap.size, 0, none⟩ (.slice ma7 mn7 mc7)).setCell ⟨w5.heap.size, 1, none⟩ (.slice ba7 C bc7)).setCell ⟨w5.heap.size, 2, none⟩ (.slice ra7 C rc7)).setCell ⟨w5.heap.size, 3, none⟩ (.slice (some ⟨g7, go7, none⟩) C gc7)).setCell ⟨w3.heap.size, 0, none⟩ (.slice ma7 mn7 mc7)).setCell ⟨w3.heap.size, 1, none⟩ (.slice ba7 C bc7)).setCell ⟨w3.heap.size, 2, none⟩ (.slice ra7 C rc7)).setCell ⟨w3.heap.size, 3, none⟩ (.slice (some ⟨g7, go7, none⟩) C gc7)) w3.heap.size j (L j) < sml wr w3.heap.size j (L j)) := hide (by rw [sml_eq HNEW.out.box (HNEW.out.sw.st (by omega)) L hjl, HM.out, ← e3]; exact HT.out.1)
                have HEN : Hid (fin C L F s0 j = fin C L F s2 j) := hide (by rw [HE2.out, e3])
                clear y0 y1 y2 y3 f7 u0 u1 u2 u3 f12
                obtain ⟨f7, y0, y1, y2, y3⟩ := row4_facts r7'
                obtain ⟨f12, u0, u1, u2, u3⟩ := row4_facts r12'
                clear e3 tw6 tw8 r7 r12 r7' r12' hdr HTS HTN HDN hc6 hc7 hb6 hb8 hb7 hd7 hd8 hD HR x6
                go_wp2
                clear hV6
                go_roundw
                case rel => exact ⟨s2, _, _, _, _, _, _, _, _, _, _, HNEW, HEN⟩
                case measure => exact HMM.out
        · have ei : j = C := by omega
          have HRD : Hid (rnS C L F zs = fns C L F sk j) := hide (by rw [HRS.out, ei])
          generalize fns C L F sk j = s at HR1 HRD
          have hdr := fun W h hcap => l10Drained_any (.slice ma1 mn1 mc1) (.slice ba1 C bc1) (.slice ra1 C rc1) s.d C W h HR1.out.ok.tok hcap
          have hst := HR1.out.sw.st (by omega)
          obtain ⟨fr, y0, y1, y2, y3⟩ := row4_facts HR1.out.box
          clear ei
          go_wp2_with fail
          refine (hdr _ hst.tv hst.cap).mono ?_
          rintro e w5 ⟨m5, b5, r5, vb5, vr5, tag5, rfl, ta5, hb5⟩
          obtain ⟨⟨xa, ya, rfl⟩, ⟨xb, yb, rfl⟩, ⟨xr, yr, rfl⟩⟩ := three_of (Ta.tv ta5)
          have hc5 := HR1.out.bel.trans (hb5.mono HR1.out.bel.size)
          have ga5 := heap_b HGA.out hc5
          have hzw := HR1.out.bel.size
          have hB5 := HB3.out.trans (hc5.mono HB3.out.size)
          have HF : Hid (TaD (((w5.setCell ⟨w.heap.size + 1, 0, none⟩ (.slice xa (dal s.d C).zs.length ya)).setCell ⟨w.heap.size + 1, 1, none⟩ (.slice xb C yb)).setCell ⟨w.heap.size + 1, 2, none⟩ (.slice xr C yr)) w.heap.size (.slice xa (dal s.d C).zs.length ya) (.slice xb C yb) (.slice xr C yr) (dal (rnS C L F zs).d C) C vb5 vr5 tag5 ∧ Below w.heap.size w (((w5.setCell ⟨w.heap.size + 1, 0, none⟩ (.slice xa (dal s.d C).zs.length ya)).setCell ⟨w.heap.size + 1, 1, none⟩ (.slice xb C yb)).setCell ⟨w.heap.size + 1, 2, none⟩ (.slice xr C yr))) := hide (by
            rw [HRD.out]
            exact ⟨Ta.mono (low_set (low_set (low_set ta5 (by omega)) (by omega)) (by omega)) (by omega), ((hB5.setCell (p := ⟨w.heap.size + 1, 0, none⟩) (by show w.heap.size ≤ w.heap.size + 1; omega) _).setCell (p := ⟨w.heap.size + 1, 1, none⟩) (by show w.heap.size ≤ w.heap.size + 1; omega) _).setCell (p := ⟨w.heap.size + 1, 2, none⟩) (by show w.heap.size ≤ w.heap.size + 1; omega) _⟩)
          obtain ⟨fz, z0, z1, z2⟩ := row3_facts ga5
          generalize (dal s.d C).zs.length = nl at *
          clear ta5 hb5 hc5 ga5 hB5 y0 y1 y2 y3 hdr HR1 hst
          go_wp2
          refine bodyPost_ret (v := .tuple #[.agg #[.slice xa nl ya, .slice xb C yb, .slice xr C yr], .bool true]) (by simp [results, Try.results10, go_sem, z0, z1, z2]) rfl (.inr ⟨HO.out, _, _, _, _, _, _, rfl, HF.out.1, HF.out.2⟩)

end Go.Proofs.Ytcocobmanlmjdaa

/- a test copied so that it may be written, marked; a row of numbers marked; RunPicks's answers told alike -/
namespace Go.Proofs.Ytcocobmanlmjdaa
open Go.RowKit
set_option linter.unusedVariables false
set_option linter.unusedSimpArgs false

/-- the rows of a copied test may be written -/
def OW (w : World) (g k : Nat) (L : Nat → Nat) : Prop := ∀ c, c < k → ∃ ib, g < ib ∧ w.cell? ⟨g, c, none⟩ = some (.slice (some ⟨ib, 0, none⟩) (L c) (L c)) ∧ Wc w ib (L c * 5)
theorem OW.below {w w' : World} {g k : Nat} {L : Nat → Nat} (h : OW w g k L) (hb : Below w.heap.size w w') : OW w' g k L := by
  intro c hc
  obtain ⟨ib, h1, h2, h3⟩ := h c hc
  exact ⟨ib, h1, keepc hb h2, h3.below hb⟩
theorem OW.set {w : World} {g k B i : Nat} {L : Nat → Nat} {v : Value} (h : OW w g k L) (hB : B ≠ g) : OW (w.setCell ⟨B, i, none⟩ v) g k L := by
  intro c hc
  obtain ⟨ib, h1, h2, h3⟩ := h c hc
  exact ⟨ib, h1, (other_set (by omega)).trans h2, h3.set v⟩
theorem OW.put {w : World} {g k ib : Nat} {L : Nat → Nat} (h : OW w g k L) (hib : g < ib) (hw : Wc w ib (L k * 5)) {o : Value} (ho : w.cell? ⟨g, k, none⟩ = some o) : OW (w.setCell ⟨g, k, none⟩ (.slice (some ⟨ib, 0, none⟩) (L k) (L k))) g (k + 1) L := by
  intro c hc
  by_cases e : c = k
  · subst e
    exact ⟨ib, hib, World.cell?_setCell_same (h := ho) .., hw.set _⟩
  · obtain ⟨ib', h1, h2, h3⟩ := h c (by omega)
    exact ⟨ib', h1, (far_set (by omega)).trans h2, h3.set _⟩

set_option maxHeartbeats 2000000 in
theorem toBActSS_w (v : Value) (n : Nat) (L : Nat → Nat) (F : Nat → Nat → Nat → Int) (w : World) (hs : Sa w v n L F) (hb : n ≤ 1048576) (hL : ∀ c, c < n → L c ≤ 1048576) :
    Calls Try.prog 22 #[v] w fun e w' => ∃ g, e = .returned (.slice (some ⟨g, 0, none⟩) n n) ∧ w.heap.size ≤ g ∧ Oas w' g n n L F ∧ OW w' g n L ∧ Below w.heap.size w w' := by
  obtain ⟨ad, cap, rfl, hs⟩ := hs
  obtain ⟨i0, hi, hz0, hz1, hz2⟩ := info_parts infoActs
  go_enter Try.func22, Try.ntmps22
  go_wp2_with (at_make; refine wpList_make_full _ rfl _ _ 27 rfl w.heap.size 49 i0 (.slice none 0 0) 1 Try.underlying27 hi hz0 hz1 .i64 .i64 n n n rfl rfl rfl rfl (by rw [hz2]; omega) (by unfold maxLen; omega) (Nat.le_refl _) ?_; intro w1 ho1 hg1)
  have ho : Oas w1 w.heap.size n 0 L F := oas_start ho1
  have hb1 : Below w.heap.size w w1 := (Below.refl _ _).grown hg1 (Nat.le_refl _) (fun k hk => by cases hk)
  clear ho1 hg1
  go_loopw [4] (fun i wr => ∃ k : Nat, k ≤ n ∧ i = .int .i64 k ∧ Oas wr w.heap.size n k L F ∧ Below w.heap.size w wr ∧ Hid (OW wr w.heap.size k L)) (fun i _ => n - (intOf i).toNat)
  case atStart => exact ⟨0, Nat.zero_le _, rfl, ho, hb1, hide (fun c hc => absurd hc (by omega))⟩
  case round =>
    obtain ⟨k, hk, rfl, hok, hbk, HW⟩ := hrel
    clear ho hb1
    by_cases hlt : k < n
    · obtain ⟨b, off, rfl, hc⟩ := hs (by omega)
      obtain ⟨ia, ic, q0', hr⟩ := hc k hlt
      have q0 : wr.cell? ⟨b, off + k, none⟩ = some (.slice ia (L k) ic) := Below.keep hbk _ _ q0'
      have hr' := hr.below hbk
      clear hs hc q0' hr
      go_wp2_with fail
      refine (toBActS_any _ (L k) (F k) _ hr' (hL k hlt)).mono ?_
      rintro e w2 ⟨ib, rfl, hro, hb2⟩
      have hok2 := hok.below hb2
      have hbk2 := hbk.trans (hb2.mono hbk.size)
      have hib := hro.block
      have hgl : w.heap.size < wr.heap.size := by
        obtain ⟨cur, h1, _⟩ := hok
        exact lt_of_block h1
      obtain ⟨fr, o, ho⟩ := hok2.facts hlt
      have HW2 := hide ((HW.out.below hb2).put (ib := ib) (by omega) (by have := (own_wc hro ib 0 (L k) (L k) rfl).2; rwa [Nat.zero_add] at this) ho)
      have hB2 : Below w.heap.size w (w2.setCell ⟨w.heap.size, k, none⟩ (.slice (some ⟨ib, 0, none⟩) (L k) (L k))) := hbk2.setCell (Nat.le_refl _) _
      have HB := hide (And.intro (hok2.put hlt (by omega) hro.sr) hB2)
      clear hok hok2 hbk hbk2 hb2 hB2 q0 hr' hro HW
      go_wp2
      go_roundw
      case rel => exact ⟨k + 1, by omega, by go_num, HB.out.1, HB.out.2, HW2⟩
      case measure => simp [intOf]; omega
    · go_wp2
      go_ret
      have e : k = n := by omega
      subst e
      exact ⟨_, rfl, Nat.le_refl _, hok, HW.out, hbk⟩

set_option maxHeartbeats 2000000 in
theorem toLitmus_w (v : Value) (n : Nat) (L : Nat → Nat) (F : Nat → Nat → Nat → Int) (w : World) (hs : Sa w v n L F) (hb : n ≤ 1048576) (hL : ∀ c, c < n → L c ≤ 1048576) :
    Calls Try.prog 7 #[.agg #[v]] w fun e w' => ∃ g, e = .returned (.agg #[.slice (some ⟨g, 0, none⟩) n n]) ∧ Oas w' g n n L F ∧ OW w' g n L ∧ w.heap.size < g ∧ Below w.heap.size w w' := by
  have HV := hide hs
  obtain ⟨ad, cap, rfl, _⟩ := hs
  go_enter Try.func7, Try.ntmps7
  go_wp2_with fail
  generalize hW : World.alloc _ _ = W
  have hbW : Below w.heap.size w W := by
    rw [← hW]
    exact (((Below.refl _ _).alloc (Nat.le_refl _) _).alloc (by simp) _).alloc (by simp; omega) _
  have hsz : W.heap.size = w.heap.size + 1 + 1 + 1 := by rw [← hW]; simp
  have k0 : W.heap[w.heap.size + 1]? = some (.cells #[.slice none 0 0] 29 (0, 0)) := by
    rw [← hW, Below.heap_alloc _ _ _ (by simp)]
    have := heap_alloc_new (w.alloc (.cells #[.slice ad n cap] 24)) (.cells #[.slice none 0 0] 29)
    simpa only [World.size_alloc] using this
  have k1 : W.heap[w.heap.size + 1 + 1]? = some (.cells #[.slice none 0 0] 29 (0, 0)) := by
    rw [← hW]
    have := heap_alloc_new ((w.alloc (.cells #[.slice ad n cap] 24)).alloc (.cells #[.slice none 0 0] 29)) (.cells #[.slice none 0 0] 29)
    simpa only [World.size_alloc] using this
  clear hW
  refine (toBActSS_w _ n L F _ (HV.out.below hbW) hb hL).mono ?_
  rintro e w2 ⟨g, rfl, hg, ho, how, hb2⟩
  have d0 := (hb2.block (w.heap.size + 1) (by omega)).trans k0
  have d1 := (hb2.block (w.heap.size + 1 + 1) (by omega)).trans k1
  have f0 := fun i => frozen_of_row _ _ i _ _ d0
  have f1 := fun i => frozen_of_row _ _ i _ _ d1
  have x0 := cell_of_row _ _ 0 _ _ _ d0
  have y0 := cell_of_row _ _ 0 _ _ _ d1
  simp at x0 y0
  have hB := hbW.trans (hb2.mono hbW.size)
  have HC := hide (And.intro ho how)
  have HB := hide hB
  clear hB hb2 ho how d0 d1 k0 k1 hbW HV
  go_wp2
  refine bodyPost_ret (v := .agg #[.slice (some ⟨g, 0, none⟩) n n]) (by simp [results, Try.results7, go_sem, x0, y0]) rfl ⟨g, rfl, ?_, ?_, by omega, ?_⟩
  · exact (HC.out.1.set (by omega)).set (by omega)
  · exact (HC.out.2.set (by omega)).set (by omega)
  · exact (HB.out.setCell (by simp; omega) _).setCell (by simp) _

/-- the same with a bound on the rows' blocks -/
def OWE (w : World) (g k : Nat) (L : Nat → Nat) (E : Nat) : Prop := ∀ c, c < k → ∃ ib, g < ib ∧ ib < E ∧ w.cell? ⟨g, c, none⟩ = some (.slice (some ⟨ib, 0, none⟩) (L c) (L c)) ∧ Wc w ib (L c * 5)
theorem OW.e {w : World} {g k : Nat} {L : Nat → Nat} (h : OW w g k L) : OWE w g k L w.heap.size := by
  intro c hc
  obtain ⟨ib, h1, h2, h3⟩ := h c hc
  exact ⟨ib, h1, h3.lt, h2, h3⟩
theorem OWE.below {w w' : World} {g k E : Nat} {L : Nat → Nat} (h : OWE w g k L E) (hb : Below w.heap.size w w') : OWE w' g k L E := by
  intro c hc
  obtain ⟨ib, h1, h0, h2, h3⟩ := h c hc
  exact ⟨ib, h1, h0, keepc hb h2, h3.below hb⟩

set_option maxHeartbeats 8000000 in
theorem mkA_at (g off n cap : Nat) (k0 : Int) (w : World) (h0 : 0 ≤ k0) (h1 : k0 ≤ 1152921504606846976) (hw : Wc w g (off + n * 5)) (hl : n ≤ 1048576) :
    Calls Try.prog 60 #[.slice (some ⟨g, off, none⟩) n cap, .int .i64 k0] w fun e w' => e = .returned (.int .i64 (k0 + 5 * n)) ∧ Chg (· = g) w w' := by
  go_enter Try.func60, Try.ntmps60
  go_wp2
  go_loopw [1, 5] (fun t i wr => ∃ j : Nat, j ≤ n ∧ i = .int .i64 j ∧ t = .int .i64 (k0 + 5 * j) ∧ Chg (· = g) w wr) (fun _ i _ => n - (intOf i).toNat)
  case atStart => exact ⟨0, Nat.zero_le _, rfl, by simp, Chg.refl _ _⟩
  case round =>
    obtain ⟨j, hj, rfl, rfl, hgj⟩ := hrel
    by_cases hlt : j < n
    · have HW := hide (hgj.keep _ _ hw)
      obtain ⟨fr, hc⟩ := HW.out.facts
      obtain ⟨o0, r0⟩ := hc (off + j * 5) (by omega)
      obtain ⟨o1, r1⟩ := hc (off + j * 5 + 1) (by omega)
      obtain ⟨o2, r2⟩ := hc (off + j * 5 + 2) (by omega)
      obtain ⟨o3, r3⟩ := hc (off + j * 5 + 3) (by omega)
      obtain ⟨o4, r4⟩ := hc (off + j * 5 + 4) (by omega)
      have HB := hide hgj
      clear hgj hc hw HW
      go_wp2
      go_roundw
      case rel => exact ⟨j + 1, by omega, by go_num, by go_num, ((((HB.out.set rfl _).set rfl _).set rfl _).set rfl _).set rfl _⟩
      case measure => simp [intOf]; omega
    · have e : j = n := by omega
      subst e
      go_wp2
      go_ret
      exact ⟨rfl, hgj⟩

set_option maxHeartbeats 2000000 in
theorem mkSS_any (g n E : Nat) (L : Nat → Nat) (w : World) (h : OWE w g n L E) (hn : n ≤ 1048576) (hL : ∀ c, c < n → L c ≤ 1048576) :
    Calls Try.prog 37 #[.slice (some ⟨g, 0, none⟩) n n, .int .i64 1] w fun e w' => (∃ k, (0 ≤ k ∧ k ≤ 1152921504606846976) ∧ e = .returned (.int .i64 k)) ∧ Chg (fun j => g < j ∧ j < E) w w' := by
  go_enter Try.func37, Try.ntmps37
  go_wp2
  go_loopw [1, 5] (fun t i wr => ∃ (j : Nat) (k : Int), j ≤ n ∧ i = .int .i64 j ∧ t = .int .i64 k ∧ (1 ≤ k ∧ k ≤ 1 + 5242880 * (j : Int)) ∧ Chg (fun j => g < j ∧ j < E) w wr) (fun _ i _ => n - (intOf i).toNat)
  case atStart => exact ⟨0, 1, Nat.zero_le _, rfl, rfl, by omega, Chg.refl _ _⟩
  case round =>
    obtain ⟨j, k, hj, rfl, rfl, hk, hgj⟩ := hrel
    by_cases hlt : j < n
    · obtain ⟨ib, h1, hlb, h2, h3⟩ := h j hlt
      have c0 := hgj.cell (fun q => by omega) h2
      have hw := hgj.keep _ _ h3
      have hLj := hL j hlt
      rw [← Nat.zero_add (L j * 5)] at hw
      have HB := hide hgj
      have HWJ := hide hw
      have hmk := fun W (hq : Wc W ib (0 + L j * 5)) => mkA_at ib 0 (L j) (L j) k W (by omega) (by omega) hq hLj
      clear hgj h h2 h3 hw
      generalize L j = nj at c0 HWJ hmk hLj
      go_wp2_with fail
      refine (hmk _ HWJ.out).mono ?_
      rintro e w2 ⟨rfl, hc2⟩
      have HB2 := hide (HB.out.trans (hc2.mono (fun x hx => by rw [hx]; exact ⟨h1, by omega⟩)))
      clear hc2 HB c0 hmk
      go_wp2
      go_roundw
      case rel => exact ⟨j + 1, k + 5 * (nj : Int), by omega, by go_num, rfl, by omega, HB2.out⟩
      case measure => simp [intOf]; omega
    · clear h
      go_wp2
      go_ret
      exact ⟨⟨k, by omega, rfl⟩, hgj⟩

set_option maxHeartbeats 1000000 in
theorem markLitmus_any (g n E : Nat) (L : Nat → Nat) (w : World) (h : OWE w g n L E) (hn : n ≤ 1048576) (hL : ∀ c, c < n → L c ≤ 1048576) :
    Calls Try.prog 15 #[.agg #[.slice (some ⟨g, 0, none⟩) n n], .int .i64 1] w fun e w' => (∃ k, (0 ≤ k ∧ k ≤ 1152921504606846976) ∧ e = .returned (.int .i64 k)) ∧ Chg (fun j => g < j ∧ j < E) w w' := by
  have hA : Below w.heap.size w (w.alloc (.cells #[.slice (some ⟨g, 0, none⟩) n n] 29)) := (Below.refl _ _).alloc (Nat.le_refl _) _
  have x0 : (w.alloc (.cells #[.slice (some ⟨g, 0, none⟩) n n] 29)).cell? ⟨w.heap.size, 0, none⟩ = some (.slice (some ⟨g, 0, none⟩) n n) := (cell_of_row _ _ 0 _ _ _ (heap_alloc_new _ _)).trans rfl
  have HC : Hid (Chg (fun j => g < j ∧ j < E) w (w.alloc (.cells #[.slice (some ⟨g, 0, none⟩) n n] 29))) := hide ((Chg.refl _ _).alloc _)
  have HW := hide (h.below hA)
  clear h hA
  go_enter Try.func15, Try.ntmps15
  go_wp2_with fail
  refine (mkSS_any g n E L _ HW.out hn hL).mono ?_
  rintro e w2 ⟨⟨k, hk, rfl⟩, hc2⟩
  have HC2 := hide (HC.out.trans hc2)
  clear hc2 x0 HC HW
  go_wp2
  go_ret
  exact ⟨⟨k, hk, rfl⟩, HC2.out⟩

set_option maxHeartbeats 2000000 in
theorem markI_any (g n cap : Nat) (k0 : Int) (w : World) (h0 : 0 ≤ k0) (h1 : k0 ≤ 1152921504606846976) (hw : Wc w g n) (hl : n ≤ 1048576) :
    Calls Try.prog 16 #[.slice (some ⟨g, 0, none⟩) n cap, .int .i64 k0] w fun e w' => e = .returned (.int .i64 (k0 + n)) ∧ Chg (· = g) w w' := by
  go_enter Try.func16, Try.ntmps16
  go_wp2
  go_loopw [1, 5] (fun t i wr => ∃ j : Nat, j ≤ n ∧ i = .int .i64 j ∧ t = .int .i64 (k0 + j) ∧ Chg (· = g) w wr) (fun _ i _ => n - (intOf i).toNat)
  case atStart => exact ⟨0, Nat.zero_le _, rfl, by simp, Chg.refl _ _⟩
  case round =>
    obtain ⟨j, hj, rfl, rfl, hgj⟩ := hrel
    by_cases hlt : j < n
    · have HW := hide (hgj.keep _ _ hw)
      obtain ⟨fr, hc⟩ := HW.out.facts
      obtain ⟨o0, r0⟩ := hc j (by omega)
      have HB := hide hgj
      clear hgj hc hw HW
      go_wp2
      go_roundw
      case rel => exact ⟨j + 1, by omega, by go_num, by go_num, HB.out.set rfl _⟩
      case measure => simp [intOf]; omega
    · have e : j = n := by omega
      subst e
      go_wp2
      go_ret
      exact ⟨rfl, hgj⟩

/-- RunPicks's answer, whatever the test and the picks -/
def rD (C : Nat) (L : Nat → Nat) (F : Nat → Nat → Nat → Int) (zs : List Int) : Td := if rpB C L F zs = true then dal (rnS C L F zs).d C else zD
def rC (C : Nat) (L : Nat → Nat) (F : Nat → Nat → Nat → Int) (zs : List Int) : Nat := if rpB C L F zs = true then C else 0
theorem rp_all {C : Nat} {L : Nat → Nat} {F : Nat → Nat → Nat → Int} {zs : List Int} {w w' : World} {e : Ending} (h : RpPost C L F zs w e w') :
    ∃ m b r vb vr tag, e = .returned (.tuple #[.agg #[m, b, r], .bool (rpB C L F zs)]) ∧ TaD w' w.heap.size m b r (rD C L F zs) (rC C L F zs) vb vr tag ∧ Below w.heap.size w w' := by
  rcases h with ⟨hx, rfl, hb⟩ | ⟨hx, m, b, r, vb, vr, tag, rfl, ta, hb⟩
  · refine ⟨nil3, nil3, nil3, fun _ => nil3, fun _ => nil3, fun _ => 0, by rw [hx], ?_, hb⟩
    have e1 : rD C L F zs = zD := by simp [rD, hx]
    have e2 : rC C L F zs = 0 := by simp [rC, hx]
    rw [e1, e2]
    exact nil_ta _ _
  · refine ⟨m, b, r, vb, vr, tag, by rw [hx], ?_, hb⟩
    have e1 : rD C L F zs = dal (rnS C L F zs).d C := by simp [rD, hx]
    have e2 : rC C L F zs = C := by simp [rC, hx]
    rw [e1, e2]
    exact ta
theorem rnS_tok {C : Nat} {L : Nat → Nat} {F : Nat → Nat → Nat → Int} {zs : List Int} (h : rpB C L F zs = true) : tokD (rnS C L F zs).d C = true := by
  unfold rpB at h
  rw [Bool.and_eq_true] at h
  obtain ⟨⟨h1, h2⟩, _, hr⟩ := lit_rgt h.1
  exact (fns_ok hr (pks_ok (s00_ok h1 h2) _) C (Nat.le_refl _)).tok
theorem rD_small (C : Nat) (L : Nat → Nat) (F : Nat → Nat → Nat → Int) (zs : List Int) : Sml (rD C L F zs) (rC C L F zs) := by
  cases hx : rpB C L F zs
  · have e1 : rD C L F zs = zD := by simp [rD, hx]
    have e2 : rC C L F zs = 0 := by simp [rC, hx]
    rw [e1, e2]
    exact ⟨by simp [zD], by omega, fun c hc => absurd hc (by omega), fun c hc => absurd hc (by omega)⟩
  · have e1 : rD C L F zs = dal (rnS C L F zs).d C := by simp [rD, hx]
    have e2 : rC C L F zs = C := by simp [rC, hx]
    rw [e1, e2]
    obtain ⟨h1, h2, h3, _, h5⟩ := tok_parts (dal_tok (rnS_tok hx) (Nat.le_refl _))
    exact ⟨by omega, by omega, fun c hc => by have := (h5 c hc).1; omega, fun c hc => by have := (h5 c hc).2.2.1; omega⟩

end Go.Proofs.Ytcocobmanlmjdaa
