/- spec.l11Step, with buffers (written by mkLqdL.py) -/
import Derived.Test.YtcocobmanlmjdaaZb
import Derived.Deep.DeepCutAuto
import Derived.BigQuiet
namespace Go.Proofs.Ytcocobmanlmjdaa
open Go.RowKit
set_option linter.unusedVariables false
set_option linter.unusedSimpArgs false

theorem keepb {b : Nat} {w w' : World} {a : Addr} {u : Value} (hb : Below b w w') (ha : a.block < b) (h : w.cell? a = some u) : w'.cell? a = some u := by rw [hb.cell ha]; exact h
theorem heap_k {b g : Nat} {w w' : World} {x : Obj} (hb : Below b w w') (ha : g < b) (h : w.heap[g]? = some x) : w'.heap[g]? = some x := (hb.block g ha).trans h
theorem Frc.four {V : World} {lo hi : Nat} {m b r : Value} {d : Td} {C : Nat} {B : Nat} {v0 v1 v2 v3 : Value} (h : Frc V lo hi m b r d C) (hC : C ≤ 40) (hB : B < lo ∨ hi ≤ B) : Frc ((((V.setCell ⟨B, 0, none⟩ v0).setCell ⟨B, 1, none⟩ v1).setCell ⟨B, 2, none⟩ v2).setCell ⟨B, 3, none⟩ v3) lo hi m b r d C :=
  (((h.set hC hB).set hC hB).set hC hB).set hC hB
theorem On.four {V : World} {base : Nat} {v : Value} {n : Nat} {a : Nat → Nat} {B : Nat} {v0 v1 v2 v3 : Value} (h : On V base v n a) (hne : v.ownBlock ≠ some B) : On ((((V.setCell ⟨B, 0, none⟩ v0).setCell ⟨B, 1, none⟩ v1).setCell ⟨B, 2, none⟩ v2).setCell ⟨B, 3, none⟩ v3) base v n a :=
  (((h.set hne).set hne).set hne).set hne
/-- append([]int{}, at...), wherever the empty row was made -/
theorem appN (W : World) (base g : Nat) (v : Value) (n : Nat) (a : Nat → Nat) (ty : TypeId) (ho : W.ownsRow base 3 1 (.slice (some ⟨g, 0, none⟩) 0 0) 0 []) (hs : Ar W v n a) (hn : 0 < n) (hl : n ≤ 1000) (hb : base ≤ W.heap.size) :
    ∃ g' c' w', (Builtin.append_ #[57, 57] ty #[.slice (some ⟨g, 0, none⟩) 0 0, v]).run Try.prog W = .ok (.slice (some ⟨g', 0, none⟩) n c') w' ∧ On w' base (.slice (some ⟨g', 0, none⟩) n c') n a ∧ W.grownBy w' (some g) ∧ (g' = g ∨ g' = W.heap.size) := by
  obtain ⟨i0, hi, hz0, hz1, hz2⟩ := info_parts infoN
  obtain ⟨p, o, c, rfl, hc⟩ := hs
  have hnew : ∀ j u, (nl a n)[j]? = some u → W.cell? ((⟨p, o, none⟩ : Addr).add j) = some u := by
    intro j u hj
    have hlt : j < n := by
      have := (List.getElem?_eq_some_iff.1 hj).1
      simpa [nl] using this
    simp [nl, hlt] at hj
    rw [← hj]
    have := hc j hlt
    unfold Addr.add
    by_cases h0 : j = 0
    · subst h0; simpa using this
    · simpa [h0] using this
  obtain ⟨v', w', hr, hown, hgrow, _, hat⟩ := run_append_own_at (P := Try.prog) W base 57 ty 3 i0 _ 1 8 Try.underlying57 hi hz0 hz1 hz2 rfl (by omega) _ 0 [] ho ⟨p, o, none⟩ n c (nl a n) (by simp [nl]) hnew nl_one (by unfold maxLen; omega) (by omega) hb
  have hon : On w' base v' n a := by unfold On; simpa using hown
  obtain ⟨g', c', rfl, _, _⟩ := hon.form hn
  refine ⟨g', c', w', hr, hon, hgrow, ?_⟩
  simp only [Value.ownBlock, Option.some.injEq] at hat
  exact hat

set_option maxHeartbeats 4000000 in
set_option maxRecDepth 20000 in
theorem step_end (ta : Option Addr) (tn tc : Nat) (L : Nat → Nat) (F : Nat → Nat → Nat → Int) (s : Rs) (mv bv rv av : Value) (p : Nat) (w : World) (hs : Sa w (.slice ta tn tc) tn L F) (h : St w mv bv rv av s tn) (hr : Rok tn L s) (h1 : 1 ≤ tn) (htn : tn ≤ 2) (hL : ∀ c, c < tn → L c ≤ 3) (hp : p < tn) (he : s.a p = L p) :
    Calls Try.prog 27 #[.agg #[.slice ta tn tc], .agg #[mv, bv, rv, av], .int .i64 p, .bool true] w (StQ w tn mv bv rv av none) := by
  obtain ⟨⟨ma, mc, rfl⟩, ⟨ba, bc, rfl⟩, ⟨ra, rc, rfl⟩⟩ := three_of h.tv
  obtain ⟨pa, po, ac, rfl, hat⟩ := h.ar
  have HST := hide h
  have HSA := hide hs
  have HRK := hide hr
  obtain ⟨W, hW⟩ : ∃ W, ((w.alloc (.cells #[.slice ta tn tc] 29)).alloc (.cells #[.slice ma s.d.zs.length mc, .slice ba tn bc, .slice ra tn rc, .slice (some ⟨pa, po, none⟩) tn ac] 59)).alloc (.cells #[nil3, nil3, nil3, nil3] 59) = W := ⟨_, rfl⟩
  have hWs : W.heap.size = w.heap.size + 1 + 1 + 1 := by rw [← hW]; simp
  have hB0 : Below w.heap.size w W := by rw [← hW]; exact (((Below.refl _ _).alloc (Nat.le_refl _) _).alloc (by simp) _).alloc (by simp; omega) _
  have gl : W.heap[w.heap.size]? = some (.cells #[.slice ta tn tc] 29 (0, 0)) := by rw [← hW, Below.heap_alloc _ _ _ (by simp; omega), Below.heap_alloc _ _ _ (by simp)]; exact heap_alloc_new _ _
  have gs : W.heap[w.heap.size + 1]? = some (.cells #[.slice ma s.d.zs.length mc, .slice ba tn bc, .slice ra tn rc, .slice (some ⟨pa, po, none⟩) tn ac] 59 (0, 0)) := by
    rw [← hW, Below.heap_alloc _ _ _ (by simp)]
    have := heap_alloc_new (w.alloc (.cells #[.slice ta tn tc] 29)) (.cells #[.slice ma s.d.zs.length mc, .slice ba tn bc, .slice ra tn rc, .slice (some ⟨pa, po, none⟩) tn ac] 59)
    simpa only [World.size_alloc] using this
  have ga : W.heap[w.heap.size + 1 + 1]? = some (.cells #[nil3, nil3, nil3, nil3] 59 (0, 0)) := by
    rw [← hW]
    have := heap_alloc_new ((w.alloc (.cells #[.slice ta tn tc] 29)).alloc (.cells #[.slice ma s.d.zs.length mc, .slice ba tn bc, .slice ra tn rc, .slice (some ⟨pa, po, none⟩) tn ac] 59)) (.cells #[nil3, nil3, nil3, nil3] 59)
    simpa only [World.size_alloc] using this
  obtain ⟨co, hco⟩ : ∃ co, p % tn = co := ⟨_, rfl⟩
  have hcl : co < tn := hco ▸ Nat.mod_lt _ (by omega)
  have hm1 : ((p : Int) % (tn : Int)) = (co : Int) := by rw [← hco]; simp
  have hm2 : ((p : Int).tmod (tn : Int)) = (co : Int) := by rw [Int.tmod_eq_emod_of_nonneg (by omega), hm1]
  have hm3 : wrap64 (co : Int) = (co : Int) := Go.IntWalk.wrap64_in _ (by omega)
  have hz0 : ((tn : Int) == 0) = false := by simp; omega
  have hA12 : Below W.heap.size W (W.alloc (.cells (five 4 (co : Int) 0 0 0) 51)) := (Below.refl _ _).alloc (Nat.le_refl _) _
  have g12 : (W.alloc (.cells (five 4 (co : Int) 0 0 0) 51)).heap[W.heap.size]? = some (.cells (five 4 (co : Int) 0 0 0) 51 (0, 0)) := heap_alloc_new _ _
  obtain ⟨V, hV⟩ : ∃ V, W.alloc (.cells (five 4 (co : Int) 0 0 0) 51) = V := ⟨_, rfl⟩
  rw [hV] at hA12 g12
  have hVs : V.heap.size = w.heap.size + 1 + 1 + 1 + 1 := by rw [← hV]; simp [hWs]
  have gl2 := heap_b gl hA12
  have gs2 := heap_b gs hA12
  have ga2 := heap_b ga hA12
  have hBV := hB0.trans (hA12.mono hB0.size)
  rw [hWs] at g12
  have x0 : V.cell? ⟨w.heap.size, 0, none⟩ = some (.slice ta tn tc) := (cell_of_row _ _ 0 _ _ _ gl2).trans rfl
  have xl : W.cell? ⟨w.heap.size, 0, none⟩ = some (.slice ta tn tc) := (cell_of_row _ _ 0 _ _ _ gl).trans rfl
  obtain ⟨fs, s0, s1, s2, s3⟩ := row4_facts gs2
  obtain ⟨fa, z0, z1, z2, z3⟩ := row4_facts ga2
  have HG := hide (And.intro gs2 (And.intro ga2 (And.intro g12 hBV)))
  have HSZ := hide (And.intro hWs hVs)
  clear gl gs ga gl2 gs2 ga2 hB0 hA12 g12 hs h hr hWs hVs xl
  subst hW
  have HV := hide hV
  clear hV

  obtain ⟨ad, cap, e, hss⟩ := HSA.out
  obtain ⟨rfl, rfl⟩ : ta = ad ∧ tc = cap := by simp at e; exact e
  clear e
  obtain ⟨b, off, rfl, hcc⟩ := hss (by omega)
  obtain ⟨ia, ic, q', hr⟩ := hcc p hp
  have hpc : p = co := by rw [← hco, Nat.mod_eq_of_lt hp]
  subst hpc
  have yb := Below.keep HG.out.2.2.2 _ _ q'
  have ya := Below.keep HG.out.2.2.2 _ _ (hat p hp)
  have hi0 : (0 : Int) ≤ (p : Int) := by omega
  have hi1 : (p : Int) < (tn : Int) := by omega
  have hi2 : decide ((p : Int) < (tn : Int)) = true := by simp; omega
  have hi3 : decide (p < tn) = true := by simp; omega
  rw [he] at ya
  have HBF := hide HG.out.2.2.2
  clear HG hss hcc hr hat
  go_enter Try.func27, Try.ntmps27
  go_wp2
  rw [HV.out]
  go_quiet (fail)
  all_goals go_wp2
  all_goals refine bodyPost_ret (v := .tuple #[.agg #[.slice ma s.d.zs.length mc, .slice ba tn bc, .slice ra tn rc, .slice (some ⟨pa, po, none⟩) tn ac], .bool false]) (by simp [results, Try.results27, go_sem, z0, z1, z2, z3]) rfl ⟨four_below (below_drewN HBF.out _) (by omega), ?_⟩
  all_goals rfl

set_option maxHeartbeats 8000000 in
set_option maxRecDepth 20000 in
theorem step_act (ta : Option Addr) (tn tc : Nat) (L : Nat → Nat) (F : Nat → Nat → Nat → Int) (s : Rs) (mv bv rv av : Value) (p : Nat) (w : World) (hs : Sa w (.slice ta tn tc) tn L F) (h : St w mv bv rv av s tn) (hr : Rok tn L s) (h1 : 1 ≤ tn) (htn : tn ≤ 2) (hL : ∀ c, c < tn → L c ≤ 3) (hp : p < tn) (he : ¬ s.a p = L p) :
    Calls Try.prog 27 #[.agg #[.slice ta tn tc], .agg #[mv, bv, rv, av], .int .i64 p, .bool true] w (StQ w tn mv bv rv av (stp tn L F s p)) := by
  obtain ⟨⟨ma, mc, rfl⟩, ⟨ba, bc, rfl⟩, ⟨ra, rc, rfl⟩⟩ := three_of h.tv
  obtain ⟨pa, po, ac, rfl, hat⟩ := h.ar
  have HST := hide h
  have HSA := hide hs
  have HRK := hide hr
  obtain ⟨W, hW⟩ : ∃ W, ((w.alloc (.cells #[.slice ta tn tc] 29)).alloc (.cells #[.slice ma s.d.zs.length mc, .slice ba tn bc, .slice ra tn rc, .slice (some ⟨pa, po, none⟩) tn ac] 59)).alloc (.cells #[nil3, nil3, nil3, nil3] 59) = W := ⟨_, rfl⟩
  have hWs : W.heap.size = w.heap.size + 1 + 1 + 1 := by rw [← hW]; simp
  have hB0 : Below w.heap.size w W := by rw [← hW]; exact (((Below.refl _ _).alloc (Nat.le_refl _) _).alloc (by simp) _).alloc (by simp; omega) _
  have gl : W.heap[w.heap.size]? = some (.cells #[.slice ta tn tc] 29 (0, 0)) := by rw [← hW, Below.heap_alloc _ _ _ (by simp; omega), Below.heap_alloc _ _ _ (by simp)]; exact heap_alloc_new _ _
  have gs : W.heap[w.heap.size + 1]? = some (.cells #[.slice ma s.d.zs.length mc, .slice ba tn bc, .slice ra tn rc, .slice (some ⟨pa, po, none⟩) tn ac] 59 (0, 0)) := by
    rw [← hW, Below.heap_alloc _ _ _ (by simp)]
    have := heap_alloc_new (w.alloc (.cells #[.slice ta tn tc] 29)) (.cells #[.slice ma s.d.zs.length mc, .slice ba tn bc, .slice ra tn rc, .slice (some ⟨pa, po, none⟩) tn ac] 59)
    simpa only [World.size_alloc] using this
  have ga : W.heap[w.heap.size + 1 + 1]? = some (.cells #[nil3, nil3, nil3, nil3] 59 (0, 0)) := by
    rw [← hW]
    have := heap_alloc_new ((w.alloc (.cells #[.slice ta tn tc] 29)).alloc (.cells #[.slice ma s.d.zs.length mc, .slice ba tn bc, .slice ra tn rc, .slice (some ⟨pa, po, none⟩) tn ac] 59)) (.cells #[nil3, nil3, nil3, nil3] 59)
    simpa only [World.size_alloc] using this
  obtain ⟨co, hco⟩ : ∃ co, p % tn = co := ⟨_, rfl⟩
  have hcl : co < tn := hco ▸ Nat.mod_lt _ (by omega)
  have hm1 : ((p : Int) % (tn : Int)) = (co : Int) := by rw [← hco]; simp
  have hm2 : ((p : Int).tmod (tn : Int)) = (co : Int) := by rw [Int.tmod_eq_emod_of_nonneg (by omega), hm1]
  have hm3 : wrap64 (co : Int) = (co : Int) := Go.IntWalk.wrap64_in _ (by omega)
  have hz0 : ((tn : Int) == 0) = false := by simp; omega
  have hA12 : Below W.heap.size W (W.alloc (.cells (five 4 (co : Int) 0 0 0) 51)) := (Below.refl _ _).alloc (Nat.le_refl _) _
  have g12 : (W.alloc (.cells (five 4 (co : Int) 0 0 0) 51)).heap[W.heap.size]? = some (.cells (five 4 (co : Int) 0 0 0) 51 (0, 0)) := heap_alloc_new _ _
  obtain ⟨V, hV⟩ : ∃ V, W.alloc (.cells (five 4 (co : Int) 0 0 0) 51) = V := ⟨_, rfl⟩
  rw [hV] at hA12 g12
  have hVs : V.heap.size = w.heap.size + 1 + 1 + 1 + 1 := by rw [← hV]; simp [hWs]
  have gl2 := heap_b gl hA12
  have gs2 := heap_b gs hA12
  have ga2 := heap_b ga hA12
  have hBV := hB0.trans (hA12.mono hB0.size)
  rw [hWs] at g12
  have x0 : V.cell? ⟨w.heap.size, 0, none⟩ = some (.slice ta tn tc) := (cell_of_row _ _ 0 _ _ _ gl2).trans rfl
  have xl : W.cell? ⟨w.heap.size, 0, none⟩ = some (.slice ta tn tc) := (cell_of_row _ _ 0 _ _ _ gl).trans rfl
  obtain ⟨fs, s0, s1, s2, s3⟩ := row4_facts gs2
  obtain ⟨fa, z0, z1, z2, z3⟩ := row4_facts ga2
  have HG := hide (And.intro gs2 (And.intro ga2 (And.intro g12 hBV)))
  have HSZ := hide (And.intro hWs hVs)
  clear gl gs ga gl2 gs2 ga2 hB0 hA12 g12 hs h hr hWs hVs xl
  subst hW
  have HV := hide hV
  clear hV

  obtain ⟨ad, cap, e, hss⟩ := HSA.out
  obtain ⟨rfl, rfl⟩ : ta = ad ∧ tc = cap := by simp at e; exact e
  clear e
  obtain ⟨b, off, rfl, hcc⟩ := hss (by omega)
  obtain ⟨ia, ic, q', hr⟩ := hcc p hp
  have hpc : p = co := by rw [← hco, Nat.mod_eq_of_lt hp]
  subst hpc
  have yb := Below.keep HG.out.2.2.2 _ _ q'
  have ya := Below.keep HG.out.2.2.2 _ _ (hat p hp)
  have hi0 : (0 : Int) ≤ (p : Int) := by omega
  have hi1 : (p : Int) < (tn : Int) := by omega
  have hi2 : decide ((p : Int) < (tn : Int)) = true := by simp; omega
  have hi3 : decide (p < tn) = true := by simp; omega
  obtain ⟨ad2, cap2, e2, hr2⟩ := hr
  obtain ⟨rfl, rfl⟩ : ia = ad2 ∧ ic = cap2 := by simp at e2; exact e2
  clear e2
  have hj : s.a p < L p := by have := HRK.out.le p hp; omega
  have hLp := hL p hp
  obtain ⟨b2, off2, rfl, hc2⟩ := hr2 (by omega)
  have y0 := Below.keep HG.out.2.2.2 _ _ (hc2 (s.a p) hj 0 (by decide))
  have y1 := Below.keep HG.out.2.2.2 _ _ (hc2 (s.a p) hj 1 (by decide))
  have y2 := Below.keep HG.out.2.2.2 _ _ (hc2 (s.a p) hj 2 (by decide))
  have y3 := Below.keep HG.out.2.2.2 _ _ (hc2 (s.a p) hj 3 (by decide))
  have y4 := Below.keep HG.out.2.2.2 _ _ (hc2 (s.a p) hj 4 (by decide))
  rw [Nat.add_zero] at y0
  have hne1 : ((s.a p : Int) == (L p : Int)) = false := by simp; omega
  have hne2 : ¬ ((s.a p : Int) = (L p : Int)) := by omega
  have hj0 : (0 : Int) ≤ (s.a p : Int) := by omega
  have hj1 : (s.a p : Int) < (L p : Int) := by omega
  have hne3 : ¬ (s.a p = L p) := by omega
  have HPL := hide (World.block_lt_of_cell? w _ (hat p hp))
  have HB2L := hide (World.block_lt_of_cell? w _ (hc2 (s.a p) hj 0 (by decide)))
  clear hss hcc hr2 hc2 hat
  go_enter Try.func27, Try.ntmps27
  go_wp2
  rw [HV.out]
  go_quiet (fail)
  all_goals go_wp2
  have hbl : b < w.heap.size := World.block_lt_of_cell? w _ q'
  have hpl : pa < w.heap.size := HPL.out
  have hbl2 : b2 < w.heap.size := HB2L.out
  have hD7 : Below V.heap.size V (V.drewN nq) := below_drewN (Below.refl _ _) nq
  obtain ⟨V7, hV7⟩ : ∃ V7, V.drewN nq = V7 := ⟨_, rfl⟩
  rw [hV7] at hD7 ⊢
  clear hV7
  replace x0 := keepc hD7 x0
  replace yb := keepc hD7 yb
  replace ya := keepc hD7 ya
  replace s3 := keepc hD7 s3
  replace y0 := keepc hD7 y0
  replace y1 := keepc hD7 y1
  replace y2 := keepc hD7 y2
  replace y3 := keepc hD7 y3
  replace y4 := keepc hD7 y4
  have gs7 := heap_b HG.out.1 hD7
  have ga7 := heap_b HG.out.2.1 hD7
  have g127 := heap_b HG.out.2.2.1 hD7
  have hB7 := HG.out.2.2.2.trans (hD7.mono HG.out.2.2.2.size)
  have hV7s := hB7.size
  have hl12 := lt_of_block g127
  have hwB : Below (w.heap.size + 1 + 1 + 1) V7 V7.drew := (Below.refl _ _).drew
  clear s0 s1 s2 z0 z1 z2 z3 fs fa hD7 q'
  refine wp_region_held_drew (S := fun w' => Below (w.heap.size + 1 + 1 + 1) V7 w') (by kernel_rfl) hwB (fun hHeld => ?_)
  refine wpAnyH_take (i := 0) (v := .pointer (some ⟨w.heap.size, 0, none⟩)) rfl (by kernel_rfl) (by kernel_rfl) (by kernel_rfl) (fun _ _ _ h => h) (Or.inl ⟨by rfl, fun w' hSw => ?_⟩) (by assumption) ?_
  · (try dsimp only at hSw); skip; go_simp
  try simp only [Act.put, List.getElem_toArray, List.getElem_cons_zero, List.getElem_cons_succ, List.setIfInBounds_toArray, List.set_cons_zero, List.set_cons_succ]
  refine wpAnyH_take (i := 1) (v := .slice (some ⟨b, off, none⟩) tn tc) rfl (by kernel_rfl) (by kernel_rfl) (by kernel_rfl) (fun _ _ _ h => h) (Or.inl ⟨by rfl, fun w' hSw => ?_⟩) (by assumption) ?_
  · (try dsimp only at hSw); have x0 := keepb hSw (by dsimp only; omega) x0; go_simp
  try simp only [Act.put, List.getElem_toArray, List.getElem_cons_zero, List.getElem_cons_succ, List.setIfInBounds_toArray, List.set_cons_zero, List.set_cons_succ]
  refine wpAnyH_take (i := 2) (v := .int .i64 p) rfl (by kernel_rfl) (by kernel_rfl) (by kernel_rfl) (fun _ _ _ h => h) (Or.inl ⟨by rfl, fun w' hSw => ?_⟩) (by assumption) ?_
  · (try dsimp only at hSw); skip; go_simp
  try simp only [Act.put, List.getElem_toArray, List.getElem_cons_zero, List.getElem_cons_succ, List.setIfInBounds_toArray, List.set_cons_zero, List.set_cons_succ]
  refine wpAnyH_take (i := 3) (v := .pointer (some ⟨b, off + p, none⟩)) rfl (by kernel_rfl) (by kernel_rfl) (by kernel_rfl) (fun _ _ _ h => h) (Or.inl ⟨by rfl, fun w' hSw => ?_⟩) (by assumption) ?_
  · (try dsimp only at hSw); skip; go_simp
  try simp only [Act.put, List.getElem_toArray, List.getElem_cons_zero, List.getElem_cons_succ, List.setIfInBounds_toArray, List.set_cons_zero, List.set_cons_succ]
  refine wpAnyH_take (i := 4) (v := .slice (some ⟨b2, off2, none⟩) (L p) ic) rfl (by kernel_rfl) (by kernel_rfl) (by kernel_rfl) (fun _ _ _ h => h) (Or.inl ⟨by rfl, fun w' hSw => ?_⟩) (by assumption) ?_
  · (try dsimp only at hSw); have yb := keepb hSw (by dsimp only; omega) yb; go_simp
  try simp only [Act.put, List.getElem_toArray, List.getElem_cons_zero, List.getElem_cons_succ, List.setIfInBounds_toArray, List.set_cons_zero, List.set_cons_succ]
  refine wpAnyH_take (i := 5) (v := .pointer (some ⟨w.heap.size + 1, 3, none⟩)) rfl (by kernel_rfl) (by kernel_rfl) (by kernel_rfl) (fun _ _ _ h => h) (Or.inl ⟨by rfl, fun w' hSw => ?_⟩) (by assumption) ?_
  · (try dsimp only at hSw); skip; go_simp
  try simp only [Act.put, List.getElem_toArray, List.getElem_cons_zero, List.getElem_cons_succ, List.setIfInBounds_toArray, List.set_cons_zero, List.set_cons_succ]
  refine wpAnyH_take (i := 6) (v := .slice (some ⟨pa, po, none⟩) tn ac) rfl (by kernel_rfl) (by kernel_rfl) (by kernel_rfl) (fun _ _ _ h => h) (Or.inl ⟨by rfl, fun w' hSw => ?_⟩) (by assumption) ?_
  · (try dsimp only at hSw); have s3 := keepb hSw (by dsimp only; omega) s3; go_simp
  try simp only [Act.put, List.getElem_toArray, List.getElem_cons_zero, List.getElem_cons_succ, List.setIfInBounds_toArray, List.set_cons_zero, List.set_cons_succ]
  refine wpAnyH_take (i := 7) (v := .int .i64 p) rfl (by kernel_rfl) (by kernel_rfl) (by kernel_rfl) (fun _ _ _ h => h) (Or.inl ⟨by rfl, fun w' hSw => ?_⟩) (by assumption) ?_
  · (try dsimp only at hSw); skip; go_simp
  try simp only [Act.put, List.getElem_toArray, List.getElem_cons_zero, List.getElem_cons_succ, List.setIfInBounds_toArray, List.set_cons_zero, List.set_cons_succ]
  refine wpAnyH_take (i := 8) (v := .pointer (some ⟨pa, po + p, none⟩)) rfl (by kernel_rfl) (by kernel_rfl) (by kernel_rfl) (fun _ _ _ h => h) (Or.inl ⟨by rfl, fun w' hSw => ?_⟩) (by assumption) ?_
  · (try dsimp only at hSw); skip; go_simp
  try simp only [Act.put, List.getElem_toArray, List.getElem_cons_zero, List.getElem_cons_succ, List.setIfInBounds_toArray, List.set_cons_zero, List.set_cons_succ]
  refine wpAnyH_take (i := 9) (v := .int .i64 (s.a p : Nat)) rfl (by kernel_rfl) (by kernel_rfl) (by kernel_rfl) (fun _ _ _ h => h) (Or.inl ⟨by rfl, fun w' hSw => ?_⟩) (by assumption) ?_
  · (try dsimp only at hSw); have ya := keepb hSw (by dsimp only; omega) ya; go_simp
  try simp only [Act.put, List.getElem_toArray, List.getElem_cons_zero, List.getElem_cons_succ, List.setIfInBounds_toArray, List.set_cons_zero, List.set_cons_succ]
  refine wpAnyH_take (i := 10) (v := .pointer (some ⟨b2, off2 + s.a p * 5, none⟩)) rfl (by kernel_rfl) (by kernel_rfl) (by kernel_rfl) (fun _ _ _ h => h) (Or.inl ⟨by rfl, fun w' hSw => ?_⟩) (by assumption) ?_
  · (try dsimp only at hSw); skip; go_simp
  try simp only [Act.put, List.getElem_toArray, List.getElem_cons_zero, List.getElem_cons_succ, List.setIfInBounds_toArray, List.set_cons_zero, List.set_cons_succ]
  refine wpAnyH_take (i := 11) (v := .agg (five (F p (s.a p) 0) (F p (s.a p) 1) (F p (s.a p) 2) (F p (s.a p) 3) (F p (s.a p) 4))) rfl (by kernel_rfl) (by kernel_rfl) (by kernel_rfl) (fun _ _ _ h => h) (Or.inl ⟨by rfl, fun w' hSw => ?_⟩) (by assumption) ?_
  · (try dsimp only at hSw); have y0 := keepb hSw (by dsimp only; omega) y0; have y1 := keepb hSw (by dsimp only; omega) y1; have y2 := keepb hSw (by dsimp only; omega) y2; have y3 := keepb hSw (by dsimp only; omega) y3; have y4 := keepb hSw (by dsimp only; omega) y4; go_simp
  try simp only [Act.put, List.getElem_toArray, List.getElem_cons_zero, List.getElem_cons_succ, List.setIfInBounds_toArray, List.set_cons_zero, List.set_cons_succ]
  obtain ⟨V0, hV0⟩ : ∃ V, V7.drew = V := ⟨_, rfl⟩
  have hD0 : Below V7.heap.size V7 V0 := by rw [← hV0]; exact (Below.refl _ _).drew
  rw [hV0] at hHeld ⊢
  clear hV0
  have gs8 := heap_b gs7 hD0
  have ga8 := heap_b ga7 hD0
  have g128 := heap_b g127 hD0
  have hB8 := hB7.trans (hD0.mono hB7.size)
  obtain ⟨c120, c121, c122, c123, c124⟩ := row5_facts g128
  have f12 : ∀ i, V0.frozen? ⟨w.heap.size + 1 + 1 + 1, i, none⟩ = false := fun i => frozen_of_row _ _ i _ _ g128
  have HG8 : Hid ((((((V0.setCell ⟨w.heap.size + 1 + 1 + 1, 0, none⟩ (.int .i64 (F p (s.a p) 0))).setCell ⟨w.heap.size + 1 + 1 + 1, 1, none⟩ (.int .i64 (F p (s.a p) 1))).setCell ⟨w.heap.size + 1 + 1 + 1, 2, none⟩ (.int .i64 (F p (s.a p) 2))).setCell ⟨w.heap.size + 1 + 1 + 1, 3, none⟩ (.int .i64 (F p (s.a p) 3))).setCell ⟨w.heap.size + 1 + 1 + 1, 4, none⟩ (.int .i64 (F p (s.a p) 4))).heap[w.heap.size + 1]? = some (.cells #[.slice ma s.d.zs.length mc, .slice ba tn bc, .slice ra tn rc, .slice (some ⟨pa, po, none⟩) tn ac] 59 (0, 0)) ∧ (((((V0.setCell ⟨w.heap.size + 1 + 1 + 1, 0, none⟩ (.int .i64 (F p (s.a p) 0))).setCell ⟨w.heap.size + 1 + 1 + 1, 1, none⟩ (.int .i64 (F p (s.a p) 1))).setCell ⟨w.heap.size + 1 + 1 + 1, 2, none⟩ (.int .i64 (F p (s.a p) 2))).setCell ⟨w.heap.size + 1 + 1 + 1, 3, none⟩ (.int .i64 (F p (s.a p) 3))).setCell ⟨w.heap.size + 1 + 1 + 1, 4, none⟩ (.int .i64 (F p (s.a p) 4))).heap[w.heap.size + 1 + 1]? = some (.cells #[nil3, nil3, nil3, nil3] 59 (0, 0)) ∧ (((((V0.setCell ⟨w.heap.size + 1 + 1 + 1, 0, none⟩ (.int .i64 (F p (s.a p) 0))).setCell ⟨w.heap.size + 1 + 1 + 1, 1, none⟩ (.int .i64 (F p (s.a p) 1))).setCell ⟨w.heap.size + 1 + 1 + 1, 2, none⟩ (.int .i64 (F p (s.a p) 2))).setCell ⟨w.heap.size + 1 + 1 + 1, 3, none⟩ (.int .i64 (F p (s.a p) 3))).setCell ⟨w.heap.size + 1 + 1 + 1, 4, none⟩ (.int .i64 (F p (s.a p) 4))).heap[w.heap.size + 1 + 1 + 1]? = some (.cells (five (F p (s.a p) 0) (F p (s.a p) 1) (F p (s.a p) 2) (F p (s.a p) 3) (F p (s.a p) 4)) 51 (0, 0)) ∧ Below w.heap.size w (((((V0.setCell ⟨w.heap.size + 1 + 1 + 1, 0, none⟩ (.int .i64 (F p (s.a p) 0))).setCell ⟨w.heap.size + 1 + 1 + 1, 1, none⟩ (.int .i64 (F p (s.a p) 1))).setCell ⟨w.heap.size + 1 + 1 + 1, 2, none⟩ (.int .i64 (F p (s.a p) 2))).setCell ⟨w.heap.size + 1 + 1 + 1, 3, none⟩ (.int .i64 (F p (s.a p) 3))).setCell ⟨w.heap.size + 1 + 1 + 1, 4, none⟩ (.int .i64 (F p (s.a p) 4)))) := hide ⟨five_heap gs8 (by omega), five_heap ga8 (by omega), five_row g128, five_below hB8 (by omega)⟩
  have hS8 : Below (w.heap.size + 1 + 1 + 1) V7 (((((V0.setCell ⟨w.heap.size + 1 + 1 + 1, 0, none⟩ (.int .i64 (F p (s.a p) 0))).setCell ⟨w.heap.size + 1 + 1 + 1, 1, none⟩ (.int .i64 (F p (s.a p) 1))).setCell ⟨w.heap.size + 1 + 1 + 1, 2, none⟩ (.int .i64 (F p (s.a p) 2))).setCell ⟨w.heap.size + 1 + 1 + 1, 3, none⟩ (.int .i64 (F p (s.a p) 3))).setCell ⟨w.heap.size + 1 + 1 + 1, 4, none⟩ (.int .i64 (F p (s.a p) 4))) := five_below hHeld (Nat.le_refl _)
  clear x0 yb ya y0 y1 y2 y3 y4 s3 gs7 ga7 g127 gs8 ga8 hB7 hB8 hD0
  refine wpAnyH_ready (rs := [12]) (by kernel_rfl) (by simp) ?_
  refine AllReadyH.cons rfl (fun K hK => ?_) AllReadyH.nil
  go_simp
  refine hK.out _ _ hS8 (fun hHeld => ?_)
  clear hK K hHeld hS8 hwB
  try simp only [Act.put, List.getElem_toArray, List.getElem_cons_zero, List.getElem_cons_succ, List.setIfInBounds_toArray, List.set_cons_zero, List.set_cons_succ]
  refine wpAnyH_done (by kernel_rfl) ?_ _
  clear c120 c121 c122 c123 c124 f12 g128
  obtain ⟨V8, hV8⟩ : ∃ V8, (((((V0.setCell ⟨w.heap.size + 1 + 1 + 1, 0, none⟩ (.int .i64 (F p (s.a p) 0))).setCell ⟨w.heap.size + 1 + 1 + 1, 1, none⟩ (.int .i64 (F p (s.a p) 1))).setCell ⟨w.heap.size + 1 + 1 + 1, 2, none⟩ (.int .i64 (F p (s.a p) 2))).setCell ⟨w.heap.size + 1 + 1 + 1, 3, none⟩ (.int .i64 (F p (s.a p) 3))).setCell ⟨w.heap.size + 1 + 1 + 1, 4, none⟩ (.int .i64 (F p (s.a p) 4))) = V8 := ⟨_, rfl⟩
  rw [hV8] at HG8 ⊢
  clear hV8
  obtain ⟨fs, s0, s1, s2, s3⟩ := row4_facts HG8.out.1
  obtain ⟨fa, z0, z1, z2, z3⟩ := row4_facts HG8.out.2.1
  obtain ⟨c120, c121, c122, c123, c124⟩ := row5_facts HG8.out.2.2.1
  have hl8 := lt_of_block HG8.out.2.2.1
  have THREQ : Hid (stp tn L F s p = (if okc s.d tn (F p (s.a p) 0) (F p (s.a p) 1) (F p (s.a p) 2) (F p (s.a p) 3) (F p (s.a p) 4) = 0 then some ⟨nxt s.d tn (F p (s.a p) 0) (F p (s.a p) 1) (F p (s.a p) 2) (F p (s.a p) 3) (F p (s.a p) 4), upd s.a p (s.a p + 1)⟩ else none)) := hide (by unfold stp; rw [if_neg hne3])
  have hdo := fun W (h : St W (.slice ma s.d.zs.length mc) (.slice ba tn bc) (.slice ra tn rc) (.slice (some ⟨pa, po, none⟩) tn ac) s tn) => l10Do_any (.slice ma s.d.zs.length mc) (.slice ba tn bc) (.slice ra tn rc) s.d tn (F p (s.a p) 0) (F p (s.a p) 1) (F p (s.a p) 2) (F p (s.a p) 3) (F p (s.a p) 4) W (St.tv h) HRK.out.tok (St.cap h)
  go_wp2_with fail
  refine (hdo _ (HST.out.below HG8.out.2.2.2)).mono ?_
  rintro e w5 ⟨m5, b5, r5, vb5, vr5, tag5, rfl, ta5, hb5, hcp5⟩
  obtain ⟨⟨xm, ym, rfl⟩, ⟨xb, yb5, rfl⟩, ⟨xr, yr5, rfl⟩⟩ := three_of (Ta.tv ta5)
  have gs5 := heap_b HG8.out.1 hb5
  have ga5 := heap_b HG8.out.2.1 hb5
  have HB5 := hide (HG8.out.2.2.2.trans (hb5.mono HG8.out.2.2.2.size))
  have hV8s := HG8.out.2.2.2.size
  have hz5 := hb5.size
  have fr5 := Frc.of ta5 hcp5
  generalize hd5 : nxt s.d tn (F p (s.a p) 0) (F p (s.a p) 1) (F p (s.a p) 2) (F p (s.a p) 3) (F p (s.a p) 4) = d5 at *
  have hA13 : Below w5.heap.size w5 (w5.alloc (.cells #[.slice xm d5.zs.length ym, .slice xb tn yb5, .slice xr tn yr5] 37)) := (Below.refl _ _).alloc (Nat.le_refl _) _
  obtain ⟨t0, t1, t2⟩ := box3 w5 (.slice xm d5.zs.length ym) (.slice xb tn yb5) (.slice xr tn yr5) 37
  have gs6 := heap_b gs5 hA13
  have ga6 := heap_b ga5 hA13
  have fr6 := fr5.below hA13
  have HB6 := hide (HB5.out.trans (hA13.mono HB5.out.size))
  have har6 := (HST.out.below HB6.out).ar
  clear ta5 hb5 hcp5 HG8 hdo s0 s1 s2 s3 z0 z1 z2 z3 fs fa gs5 ga5 fr5 HB5
  obtain ⟨fs, s0, s1, s2, s3⟩ := row4_facts gs6
  obtain ⟨fa, z0, z1, z2, z3⟩ := row4_facts ga6
  obtain ⟨V6, hV6⟩ : ∃ V, w5.alloc (.cells #[.slice xm d5.zs.length ym, .slice xb tn yb5, .slice xr tn yr5] 37) = V := ⟨_, rfl⟩
  have hV6s : V6.heap.size = w5.heap.size + 1 := by rw [← hV6]; simp
  rw [hV6] at t0 t1 t2 s0 s1 s2 s3 z0 z1 z2 z3 fs fa gs6 ga6 fr6 HB6 hA13 har6
  by_cases ho : okc s.d tn (F p (s.a p) 0) (F p (s.a p) 1) (F p (s.a p) 2) (F p (s.a p) 3) (F p (s.a p) 4) = 0
  · have HEO : Hid (stp tn L F s p = some ⟨d5, upd s.a p (s.a p + 1)⟩) := hide (by rw [THREQ.out, if_pos ho])
    rw [ho]
    clear ho
    go_wp2
    clear hV6
    go_cut [15] (fun pp wc => ∃ b15 g gc, pp = .pointer (some ⟨b15, 0, none⟩) ∧ Hid (wc.heap[b15]? = some (.cells #[.slice xm d5.zs.length ym, .slice xb tn yb5, .slice xr tn yr5, .slice (some ⟨g, 0, none⟩) tn gc] 59 (0, 0)) ∧ wc.heap[w.heap.size + 1 + 1]? = some (.cells #[nil3, nil3, nil3, nil3] 59 (0, 0)) ∧ Frc wc V8.heap.size w5.heap.size (.slice xm d5.zs.length ym) (.slice xb tn yb5) (.slice xr tn yr5) d5 tn ∧ On wc V6.heap.size (.slice (some ⟨g, 0, none⟩) tn gc) tn s.a ∧ Below w.heap.size w wc ∧ V6.heap.size ≤ b15 ∧ b15 ≠ g))
    case first =>
      refine wp_region_held_drew (S := fun w' => Below V6.heap.size V6 w') (by kernel_rfl) ((Below.refl _ _).drew) (fun hHeld => ?_)
      refine wpAnyH_take (i := 0) (v := .agg #[.slice xm d5.zs.length ym, .slice xb tn yb5, .slice xr tn yr5]) rfl (by kernel_rfl) (by kernel_rfl) (by kernel_rfl) (fun _ _ _ h => h) (Or.inl ⟨by rfl, fun w' hSw => ?_⟩) (by assumption) ?_
      · (try dsimp only at hSw); have t0 := keepc hSw t0; have t1 := keepc hSw t1; have t2 := keepc hSw t2; go_simp
      try simp only [Act.put, List.getElem_toArray, List.getElem_cons_zero, List.getElem_cons_succ, List.setIfInBounds_toArray, List.set_cons_zero, List.set_cons_succ]
      refine wpAnyH_take (i := 2) (v := .pointer (some ⟨w.heap.size + 1, 3, none⟩)) rfl (by kernel_rfl) (by kernel_rfl) (by kernel_rfl) (fun _ _ _ h => h) (Or.inl ⟨by rfl, fun w' hSw => ?_⟩) (by assumption) ?_
      · (try dsimp only at hSw); skip; go_simp
      try simp only [Act.put, List.getElem_toArray, List.getElem_cons_zero, List.getElem_cons_succ, List.setIfInBounds_toArray, List.set_cons_zero, List.set_cons_succ]
      refine wpAnyH_take (i := 3) (v := .slice (some ⟨pa, po, none⟩) tn ac) rfl (by kernel_rfl) (by kernel_rfl) (by kernel_rfl) (fun _ _ _ h => h) (Or.inl ⟨by rfl, fun w' hSw => ?_⟩) (by assumption) ?_
      · (try dsimp only at hSw); have s3 := keepc hSw s3; go_simp
      try simp only [Act.put, List.getElem_toArray, List.getElem_cons_zero, List.getElem_cons_succ, List.setIfInBounds_toArray, List.set_cons_zero, List.set_cons_succ]
      obtain ⟨V0, hV0⟩ : ∃ V, V6.drew = V := ⟨_, rfl⟩
      rw [hV0] at hHeld ⊢
      clear hV0 t0 t1 t2 s0 s1 s2 s3
      have sz0 := hHeld.size
      have hHe0 := hHeld
      refine wpAnyH_ready (rs := [1, 6]) (by kernel_rfl) (by simp) ?_
      refine AllReadyH.cons rfl (fun K hK => ?_) (AllReadyH.cons rfl (fun K hK => ?_) AllReadyH.nil)
      · go_simp
        have hA1 : Below V0.heap.size V0 (V0.alloc (.cells #[] 3)) := (Below.refl _ _).alloc (Nat.le_refl _) _
        have hH1 := hHe0.trans (hA1.mono hHe0.size)
        refine hK.out _ _ hH1 (fun hHeld => ?_)
        clear hK K
        try simp only [Act.put, List.getElem_toArray, List.getElem_cons_zero, List.getElem_cons_succ, List.setIfInBounds_toArray, List.set_cons_zero, List.set_cons_succ]
        refine wpAnyH_ready (rs := [4, 6]) (by kernel_rfl) (by simp) ?_
        refine AllReadyH.cons rfl (fun K hK => ?_) (AllReadyH.cons rfl (fun K hK => ?_) AllReadyH.nil)
        · obtain ⟨g, gc, w7, hrun, hon7, hgr7, hg7⟩ := appN (V0.alloc (.cells #[] 3)) V0.heap.size V0.heap.size (.slice (some ⟨pa, po, none⟩) tn ac) tn s.a 57 (empty_own V0 3 1) (har6.below hH1) (by omega) (by omega) (by simp)
          have hb7 : Below V0.heap.size V0 w7 := hA1.grown hgr7 hA1.size (fun x e => by simp only [Option.some.injEq] at e; omega)
          have hH7 := hHe0.trans (hb7.mono sz0)
          refine step_append_run (by rfl) _ _ 57 (by rfl) (by rfl) (by rfl) hrun ?_
          refine hK.out _ _ hH7 (fun hHeld => ?_)
          clear hK K
          try simp only [Act.put, List.getElem_toArray, List.getElem_cons_zero, List.getElem_cons_succ, List.setIfInBounds_toArray, List.set_cons_zero, List.set_cons_succ]
          clear hrun
          refine wpAnyH_take (i := 5) (v := .agg #[.slice xm d5.zs.length ym, .slice xb tn yb5, .slice xr tn yr5, .slice (some ⟨g, 0, none⟩) tn gc]) rfl (by kernel_rfl) (by kernel_rfl) (by kernel_rfl) (fun _ _ _ h => h) (Or.inl ⟨by rfl, fun w' hSw => ?_⟩) (by assumption) ?_
          · (try dsimp only at hSw); skip; go_simp
          try simp only [Act.put, List.getElem_toArray, List.getElem_cons_zero, List.getElem_cons_succ, List.setIfInBounds_toArray, List.set_cons_zero, List.set_cons_succ]
          refine wpAnyH_ready (rs := [6]) (by kernel_rfl) (by simp) ?_
          refine AllReadyH.cons rfl (fun K hK => ?_) AllReadyH.nil
          go_simp
          have hA9 : Below w7.heap.size w7 (w7.alloc (.cells #[.slice none 0 0, .slice none 0 0, .slice none 0 0, .slice none 0 0] 59)) := (Below.refl _ _).alloc (Nat.le_refl _) _
          refine hK.out _ _ (hHeld.trans (hA9.mono hHeld.size)) (fun hHeld => ?_)
          clear hK K
          try simp only [Act.put, List.getElem_toArray, List.getElem_cons_zero, List.getElem_cons_succ, List.setIfInBounds_toArray, List.set_cons_zero, List.set_cons_succ]
          have hA10 : Below w7.heap.size w7 (w7.alloc (.cells #[.slice xm d5.zs.length ym, .slice xb tn yb5, .slice xr tn yr5, .slice (some ⟨g, 0, none⟩) tn gc] 59)) := (Below.refl _ _).alloc (Nat.le_refl _) _
          have hb9 := hH7.trans (hA10.mono hH7.size)
          have hs7 := hH7.size
          have hgl := World.ownsRow.lt hon7 g rfl
          have HZ : Hid ((w7.alloc (.cells #[.slice xm d5.zs.length ym, .slice xb tn yb5, .slice xr tn yr5, .slice (some ⟨g, 0, none⟩) tn gc] 59)).heap[w7.heap.size]? = some (.cells #[.slice xm d5.zs.length ym, .slice xb tn yb5, .slice xr tn yr5, .slice (some ⟨g, 0, none⟩) tn gc] 59 (0, 0)) ∧ (w7.alloc (.cells #[.slice xm d5.zs.length ym, .slice xb tn yb5, .slice xr tn yr5, .slice (some ⟨g, 0, none⟩) tn gc] 59)).heap[w.heap.size + 1 + 1]? = some (.cells #[nil3, nil3, nil3, nil3] 59 (0, 0)) ∧ Frc (w7.alloc (.cells #[.slice xm d5.zs.length ym, .slice xb tn yb5, .slice xr tn yr5, .slice (some ⟨g, 0, none⟩) tn gc] 59)) V8.heap.size w5.heap.size (.slice xm d5.zs.length ym) (.slice xb tn yb5) (.slice xr tn yr5) d5 tn ∧ On (w7.alloc (.cells #[.slice xm d5.zs.length ym, .slice xb tn yb5, .slice xr tn yr5, .slice (some ⟨g, 0, none⟩) tn gc] 59)) V6.heap.size (.slice (some ⟨g, 0, none⟩) tn gc) tn s.a ∧ Below w.heap.size w (w7.alloc (.cells #[.slice xm d5.zs.length ym, .slice xb tn yb5, .slice xr tn yr5, .slice (some ⟨g, 0, none⟩) tn gc] 59)) ∧ V6.heap.size ≤ w7.heap.size ∧ w7.heap.size ≠ g) := hide ⟨heap_alloc_new _ _, heap_b ga6 hb9, fr6.below hb9, (hon7.below hA10).mono sz0, HB6.out.trans (hb9.mono HB6.out.size), by omega, by omega⟩
          clear hon7 hb7 hA9 hA10 hH7 hH1 hA1 hgr7
          refine wpAnyH_ready (rs := [7]) (by kernel_rfl) (by simp) ?_
          refine AllReadyH.cons rfl (fun K hK => ?_) AllReadyH.nil
          go_simp
          refine hK.out _ _ hb9 (fun hHeld => ?_)
          clear hK K
          try simp only [Act.put, List.getElem_toArray, List.getElem_cons_zero, List.getElem_cons_succ, List.setIfInBounds_toArray, List.set_cons_zero, List.set_cons_succ]
          refine wpAnyH_done (by kernel_rfl) ?_ _
          try go_wp2_with fail
          go_meet
          exact ⟨_, _, _, rfl, HZ⟩
        · go_simp
          have hA9 : Below (V0.alloc (.cells #[] 3)).heap.size (V0.alloc (.cells #[] 3)) ((V0.alloc (.cells #[] 3)).alloc (.cells #[.slice none 0 0, .slice none 0 0, .slice none 0 0, .slice none 0 0] 59)) := (Below.refl _ _).alloc (Nat.le_refl _) _
          have hH2 := hH1.trans (hA9.mono hH1.size)
          refine hK.out _ _ hH2 (fun hHeld => ?_)
          clear hK K
          try simp only [Act.put, List.getElem_toArray, List.getElem_cons_zero, List.getElem_cons_succ, List.setIfInBounds_toArray, List.set_cons_zero, List.set_cons_succ]
          have hq15 : ((V0.alloc (.cells #[] 3)).alloc (.cells #[.slice none 0 0, .slice none 0 0, .slice none 0 0, .slice none 0 0] 59)).heap[V0.heap.size + 1]? = some (.cells #[.slice none 0 0, .slice none 0 0, .slice none 0 0, .slice none 0 0] 59 (0, 0)) := by have := heap_alloc_new (V0.alloc (.cells #[] 3)) (.cells #[.slice none 0 0, .slice none 0 0, .slice none 0 0, .slice none 0 0] 59); simpa only [World.size_alloc] using this
          refine wpAnyH_ready (rs := [4]) (by kernel_rfl) (by simp) ?_
          refine AllReadyH.cons rfl (fun K hK => ?_) AllReadyH.nil
          obtain ⟨g, gc, w7, hrun, hon7, hgr7, hg7⟩ := appN ((V0.alloc (.cells #[] 3)).alloc (.cells #[.slice none 0 0, .slice none 0 0, .slice none 0 0, .slice none 0 0] 59)) V0.heap.size V0.heap.size (.slice (some ⟨pa, po, none⟩) tn ac) tn s.a 57 (World.ownsRow.alloc (empty_own V0 3 1) _) (har6.below hH2) (by omega) (by omega) (by simp <;> omega)
          have hH7 : Below V6.heap.size V6 w7 := hH2.grown hgr7 hH2.size (fun x e => by simp only [Option.some.injEq] at e; omega)
          refine step_append_run (by rfl) _ _ 57 (by rfl) (by rfl) (by rfl) hrun ?_
          refine hK.out _ _ hH7 (fun hHeld => ?_)
          clear hK K
          try simp only [Act.put, List.getElem_toArray, List.getElem_cons_zero, List.getElem_cons_succ, List.setIfInBounds_toArray, List.set_cons_zero, List.set_cons_succ]
          clear hrun
          refine wpAnyH_take (i := 5) (v := .agg #[.slice xm d5.zs.length ym, .slice xb tn yb5, .slice xr tn yr5, .slice (some ⟨g, 0, none⟩) tn gc]) rfl (by kernel_rfl) (by kernel_rfl) (by kernel_rfl) (fun _ _ _ h => h) (Or.inl ⟨by rfl, fun w' hSw => ?_⟩) (by assumption) ?_
          · (try dsimp only at hSw); skip; go_simp
          try simp only [Act.put, List.getElem_toArray, List.getElem_cons_zero, List.getElem_cons_succ, List.setIfInBounds_toArray, List.set_cons_zero, List.set_cons_succ]
          have q15 : w7.heap[(V0.heap.size + 1)]? = some (.cells #[.slice none 0 0, .slice none 0 0, .slice none 0 0, .slice none 0 0] 59 (0, 0)) := (hgr7.block _ (lt_of_block hq15) (by simp)).trans hq15
          obtain ⟨fz9, c90, c91, c92, c93⟩ := row4_facts q15
          have hgl := World.ownsRow.lt hon7 g rfl
          simp only [World.size_alloc] at hg7
          have hb9 : Below V6.heap.size V6 ((((w7.setCell ⟨(V0.heap.size + 1), 0, none⟩ (.slice xm d5.zs.length ym)).setCell ⟨(V0.heap.size + 1), 1, none⟩ (.slice xb tn yb5)).setCell ⟨(V0.heap.size + 1), 2, none⟩ (.slice xr tn yr5)).setCell ⟨(V0.heap.size + 1), 3, none⟩ (.slice (some ⟨g, 0, none⟩) tn gc)) := four_below hH7 (by omega)
          have HZ : Hid (((((w7.setCell ⟨(V0.heap.size + 1), 0, none⟩ (.slice xm d5.zs.length ym)).setCell ⟨(V0.heap.size + 1), 1, none⟩ (.slice xb tn yb5)).setCell ⟨(V0.heap.size + 1), 2, none⟩ (.slice xr tn yr5)).setCell ⟨(V0.heap.size + 1), 3, none⟩ (.slice (some ⟨g, 0, none⟩) tn gc)).heap[(V0.heap.size + 1)]? = some (.cells #[.slice xm d5.zs.length ym, .slice xb tn yb5, .slice xr tn yr5, .slice (some ⟨g, 0, none⟩) tn gc] 59 (0, 0)) ∧ ((((w7.setCell ⟨(V0.heap.size + 1), 0, none⟩ (.slice xm d5.zs.length ym)).setCell ⟨(V0.heap.size + 1), 1, none⟩ (.slice xb tn yb5)).setCell ⟨(V0.heap.size + 1), 2, none⟩ (.slice xr tn yr5)).setCell ⟨(V0.heap.size + 1), 3, none⟩ (.slice (some ⟨g, 0, none⟩) tn gc)).heap[w.heap.size + 1 + 1]? = some (.cells #[nil3, nil3, nil3, nil3] 59 (0, 0)) ∧ Frc ((((w7.setCell ⟨(V0.heap.size + 1), 0, none⟩ (.slice xm d5.zs.length ym)).setCell ⟨(V0.heap.size + 1), 1, none⟩ (.slice xb tn yb5)).setCell ⟨(V0.heap.size + 1), 2, none⟩ (.slice xr tn yr5)).setCell ⟨(V0.heap.size + 1), 3, none⟩ (.slice (some ⟨g, 0, none⟩) tn gc)) V8.heap.size w5.heap.size (.slice xm d5.zs.length ym) (.slice xb tn yb5) (.slice xr tn yr5) d5 tn ∧ On ((((w7.setCell ⟨(V0.heap.size + 1), 0, none⟩ (.slice xm d5.zs.length ym)).setCell ⟨(V0.heap.size + 1), 1, none⟩ (.slice xb tn yb5)).setCell ⟨(V0.heap.size + 1), 2, none⟩ (.slice xr tn yr5)).setCell ⟨(V0.heap.size + 1), 3, none⟩ (.slice (some ⟨g, 0, none⟩) tn gc)) V6.heap.size (.slice (some ⟨g, 0, none⟩) tn gc) tn s.a ∧ Below w.heap.size w ((((w7.setCell ⟨(V0.heap.size + 1), 0, none⟩ (.slice xm d5.zs.length ym)).setCell ⟨(V0.heap.size + 1), 1, none⟩ (.slice xb tn yb5)).setCell ⟨(V0.heap.size + 1), 2, none⟩ (.slice xr tn yr5)).setCell ⟨(V0.heap.size + 1), 3, none⟩ (.slice (some ⟨g, 0, none⟩) tn gc)) ∧ V6.heap.size ≤ (V0.heap.size + 1) ∧ (V0.heap.size + 1) ≠ g) := hide ⟨four_row q15, four_heap (heap_b ga6 hH7) (by have := lt_of_block ga6; omega), (fr6.below hH7).four (by omega) (.inr (by omega)), (hon7.four (by simp [Value.ownBlock]; omega)).mono (by omega), four_below (HB6.out.trans (hH7.mono HB6.out.size)) (by have := HB6.out.size; omega), by omega, by omega⟩
          clear hon7 hH7 hgr7
          refine wpAnyH_ready (rs := [7]) (by kernel_rfl) (by simp) ?_
          refine AllReadyH.cons rfl (fun K hK => ?_) AllReadyH.nil
          go_simp
          refine hK.out _ _ hb9 (fun hHeld => ?_)
          clear hK K
          try simp only [Act.put, List.getElem_toArray, List.getElem_cons_zero, List.getElem_cons_succ, List.setIfInBounds_toArray, List.set_cons_zero, List.set_cons_succ]
          refine wpAnyH_done (by kernel_rfl) ?_ _
          try go_wp2_with fail
          go_meet
          exact ⟨_, _, _, rfl, HZ⟩
      · go_simp
        have hA9 : Below V0.heap.size V0 (V0.alloc (.cells #[.slice none 0 0, .slice none 0 0, .slice none 0 0, .slice none 0 0] 59)) := (Below.refl _ _).alloc (Nat.le_refl _) _
        have hH1 := hHe0.trans (hA9.mono hHe0.size)
        refine hK.out _ _ hH1 (fun hHeld => ?_)
        clear hK K
        try simp only [Act.put, List.getElem_toArray, List.getElem_cons_zero, List.getElem_cons_succ, List.setIfInBounds_toArray, List.set_cons_zero, List.set_cons_succ]
        refine wpAnyH_ready (rs := [1]) (by kernel_rfl) (by simp) ?_
        refine AllReadyH.cons rfl (fun K hK => ?_) AllReadyH.nil
        go_simp
        have hA1 : Below (V0.alloc (.cells #[.slice none 0 0, .slice none 0 0, .slice none 0 0, .slice none 0 0] 59)).heap.size (V0.alloc (.cells #[.slice none 0 0, .slice none 0 0, .slice none 0 0, .slice none 0 0] 59)) ((V0.alloc (.cells #[.slice none 0 0, .slice none 0 0, .slice none 0 0, .slice none 0 0] 59)).alloc (.cells #[] 3)) := (Below.refl _ _).alloc (Nat.le_refl _) _
        have hH2 := hH1.trans (hA1.mono hH1.size)
        refine hK.out _ _ hH2 (fun hHeld => ?_)
        clear hK K
        try simp only [Act.put, List.getElem_toArray, List.getElem_cons_zero, List.getElem_cons_succ, List.setIfInBounds_toArray, List.set_cons_zero, List.set_cons_succ]
        have hq15 : ((V0.alloc (.cells #[.slice none 0 0, .slice none 0 0, .slice none 0 0, .slice none 0 0] 59)).alloc (.cells #[] 3)).heap[V0.heap.size]? = some (.cells #[.slice none 0 0, .slice none 0 0, .slice none 0 0, .slice none 0 0] 59 (0, 0)) := heap_b (heap_alloc_new V0 (.cells #[.slice none 0 0, .slice none 0 0, .slice none 0 0, .slice none 0 0] 59)) hA1
        have hemp := empty_own (V0.alloc (.cells #[.slice none 0 0, .slice none 0 0, .slice none 0 0, .slice none 0 0] 59)) 3 1
        simp only [World.size_alloc] at hemp
        refine wpAnyH_ready (rs := [4]) (by kernel_rfl) (by simp) ?_
        refine AllReadyH.cons rfl (fun K hK => ?_) AllReadyH.nil
        obtain ⟨g, gc, w7, hrun, hon7, hgr7, hg7⟩ := appN ((V0.alloc (.cells #[.slice none 0 0, .slice none 0 0, .slice none 0 0, .slice none 0 0] 59)).alloc (.cells #[] 3)) (V0.heap.size + 1) (V0.heap.size + 1) (.slice (some ⟨pa, po, none⟩) tn ac) tn s.a 57 hemp (har6.below hH2) (by omega) (by omega) (by simp <;> omega)
        have hH7 : Below V6.heap.size V6 w7 := hH2.grown hgr7 hH2.size (fun x e => by simp only [Option.some.injEq] at e; omega)
        refine step_append_run (by rfl) _ _ 57 (by rfl) (by rfl) (by rfl) hrun ?_
        refine hK.out _ _ hH7 (fun hHeld => ?_)
        clear hK K
        try simp only [Act.put, List.getElem_toArray, List.getElem_cons_zero, List.getElem_cons_succ, List.setIfInBounds_toArray, List.set_cons_zero, List.set_cons_succ]
        clear hrun
        refine wpAnyH_take (i := 5) (v := .agg #[.slice xm d5.zs.length ym, .slice xb tn yb5, .slice xr tn yr5, .slice (some ⟨g, 0, none⟩) tn gc]) rfl (by kernel_rfl) (by kernel_rfl) (by kernel_rfl) (fun _ _ _ h => h) (Or.inl ⟨by rfl, fun w' hSw => ?_⟩) (by assumption) ?_
        · (try dsimp only at hSw); skip; go_simp
        try simp only [Act.put, List.getElem_toArray, List.getElem_cons_zero, List.getElem_cons_succ, List.setIfInBounds_toArray, List.set_cons_zero, List.set_cons_succ]
        have q15 : w7.heap[V0.heap.size]? = some (.cells #[.slice none 0 0, .slice none 0 0, .slice none 0 0, .slice none 0 0] 59 (0, 0)) := (hgr7.block _ (lt_of_block hq15) (by simp)).trans hq15
        obtain ⟨fz9, c90, c91, c92, c93⟩ := row4_facts q15
        have hgl := World.ownsRow.lt hon7 g rfl
        simp only [World.size_alloc] at hg7
        have hb9 : Below V6.heap.size V6 ((((w7.setCell ⟨V0.heap.size, 0, none⟩ (.slice xm d5.zs.length ym)).setCell ⟨V0.heap.size, 1, none⟩ (.slice xb tn yb5)).setCell ⟨V0.heap.size, 2, none⟩ (.slice xr tn yr5)).setCell ⟨V0.heap.size, 3, none⟩ (.slice (some ⟨g, 0, none⟩) tn gc)) := four_below hH7 (by omega)
        have HZ : Hid (((((w7.setCell ⟨V0.heap.size, 0, none⟩ (.slice xm d5.zs.length ym)).setCell ⟨V0.heap.size, 1, none⟩ (.slice xb tn yb5)).setCell ⟨V0.heap.size, 2, none⟩ (.slice xr tn yr5)).setCell ⟨V0.heap.size, 3, none⟩ (.slice (some ⟨g, 0, none⟩) tn gc)).heap[V0.heap.size]? = some (.cells #[.slice xm d5.zs.length ym, .slice xb tn yb5, .slice xr tn yr5, .slice (some ⟨g, 0, none⟩) tn gc] 59 (0, 0)) ∧ ((((w7.setCell ⟨V0.heap.size, 0, none⟩ (.slice xm d5.zs.length ym)).setCell ⟨V0.heap.size, 1, none⟩ (.slice xb tn yb5)).setCell ⟨V0.heap.size, 2, none⟩ (.slice xr tn yr5)).setCell ⟨V0.heap.size, 3, none⟩ (.slice (some ⟨g, 0, none⟩) tn gc)).heap[w.heap.size + 1 + 1]? = some (.cells #[nil3, nil3, nil3, nil3] 59 (0, 0)) ∧ Frc ((((w7.setCell ⟨V0.heap.size, 0, none⟩ (.slice xm d5.zs.length ym)).setCell ⟨V0.heap.size, 1, none⟩ (.slice xb tn yb5)).setCell ⟨V0.heap.size, 2, none⟩ (.slice xr tn yr5)).setCell ⟨V0.heap.size, 3, none⟩ (.slice (some ⟨g, 0, none⟩) tn gc)) V8.heap.size w5.heap.size (.slice xm d5.zs.length ym) (.slice xb tn yb5) (.slice xr tn yr5) d5 tn ∧ On ((((w7.setCell ⟨V0.heap.size, 0, none⟩ (.slice xm d5.zs.length ym)).setCell ⟨V0.heap.size, 1, none⟩ (.slice xb tn yb5)).setCell ⟨V0.heap.size, 2, none⟩ (.slice xr tn yr5)).setCell ⟨V0.heap.size, 3, none⟩ (.slice (some ⟨g, 0, none⟩) tn gc)) V6.heap.size (.slice (some ⟨g, 0, none⟩) tn gc) tn s.a ∧ Below w.heap.size w ((((w7.setCell ⟨V0.heap.size, 0, none⟩ (.slice xm d5.zs.length ym)).setCell ⟨V0.heap.size, 1, none⟩ (.slice xb tn yb5)).setCell ⟨V0.heap.size, 2, none⟩ (.slice xr tn yr5)).setCell ⟨V0.heap.size, 3, none⟩ (.slice (some ⟨g, 0, none⟩) tn gc)) ∧ V6.heap.size ≤ V0.heap.size ∧ V0.heap.size ≠ g) := hide ⟨four_row q15, four_heap (heap_b ga6 hH7) (by have := lt_of_block ga6; omega), (fr6.below hH7).four (by omega) (.inr (by omega)), (hon7.four (by simp [Value.ownBlock]; omega)).mono (by omega), four_below (HB6.out.trans (hH7.mono HB6.out.size)) (by have := HB6.out.size; omega), by omega, by omega⟩
        clear hon7 hH7 hgr7
        refine wpAnyH_ready (rs := [7]) (by kernel_rfl) (by simp) ?_
        refine AllReadyH.cons rfl (fun K hK => ?_) AllReadyH.nil
        go_simp
        refine hK.out _ _ hb9 (fun hHeld => ?_)
        clear hK K
        try simp only [Act.put, List.getElem_toArray, List.getElem_cons_zero, List.getElem_cons_succ, List.setIfInBounds_toArray, List.set_cons_zero, List.set_cons_succ]
        refine wpAnyH_done (by kernel_rfl) ?_ _
        try go_wp2_with fail
        go_meet
        exact ⟨_, _, _, rfl, HZ⟩
    case rest =>
      obtain ⟨b15, g, gc, rfl, HZ⟩ := hcut
      obtain ⟨g15, ga7, fr7, on7, hb7, hb15, hne15⟩ := HZ.out
      obtain ⟨f15, q0, q1, q2, q3⟩ := row4_facts g15
      clear s0 s1 s2 s3 z0 z1 z2 z3 fs fa t0 t1 t2
      obtain ⟨fa, z0, z1, z2, z3⟩ := row4_facts ga7
      have hgl := World.ownsRow.lt on7 g rfl
      have har7 : wc.cell? ⟨g, p, none⟩ = some (.int .i64 (s.a p : Nat)) := by (obtain ⟨p9, o9, c9, e9, h9⟩ := on7.ar (by omega); simp only [Value.slice.injEq, Option.some.injEq, Addr.mk.injEq] at e9; obtain ⟨⟨rfl, rfl, _⟩, _, _⟩ := e9; have := h9 p hp; rwa [Nat.zero_add] at this)
      have fg7 := on7.fro p
      have hw7 : wrap64 ((s.a p : Int) + 1) = (s.a p : Int) + 1 := Go.IntWalk.wrap64_in _ (by omega)
      have hi4 : (p : Int) < (tn : Int) := hi1
      have hne16 : g ≠ w.heap.size + 1 + 1 := by omega
      have hne17 : b15 ≠ w.heap.size + 1 + 1 := by omega
      have HF : Hid (Below w.heap.size w (((((wc.setCell ⟨g, p, none⟩ (.int .i64 ((s.a p + 1 : Nat) : Int))).setCell ⟨w.heap.size + 1 + 1, 0, none⟩ (.slice xm d5.zs.length ym)).setCell ⟨w.heap.size + 1 + 1, 1, none⟩ (.slice xb tn yb5)).setCell ⟨w.heap.size + 1 + 1, 2, none⟩ (.slice xr tn yr5)).setCell ⟨w.heap.size + 1 + 1, 3, none⟩ (.slice (some ⟨g, 0, none⟩) tn gc)) ∧ So (((((wc.setCell ⟨g, p, none⟩ (.int .i64 ((s.a p + 1 : Nat) : Int))).setCell ⟨w.heap.size + 1 + 1, 0, none⟩ (.slice xm d5.zs.length ym)).setCell ⟨w.heap.size + 1 + 1, 1, none⟩ (.slice xb tn yb5)).setCell ⟨w.heap.size + 1 + 1, 2, none⟩ (.slice xr tn yr5)).setCell ⟨w.heap.size + 1 + 1, 3, none⟩ (.slice (some ⟨g, 0, none⟩) tn gc)) w.heap.size (((((wc.setCell ⟨g, p, none⟩ (.int .i64 ((s.a p + 1 : Nat) : Int))).setCell ⟨w.heap.size + 1 + 1, 0, none⟩ (.slice xm d5.zs.length ym)).setCell ⟨w.heap.size + 1 + 1, 1, none⟩ (.slice xb tn yb5)).setCell ⟨w.heap.size + 1 + 1, 2, none⟩ (.slice xr tn yr5)).setCell ⟨w.heap.size + 1 + 1, 3, none⟩ (.slice (some ⟨g, 0, none⟩) tn gc)).heap.size (.slice xm d5.zs.length ym) (.slice xb tn yb5) (.slice xr tn yr5) (.slice (some ⟨g, 0, none⟩) tn gc) ⟨d5, upd s.a p (s.a p + 1)⟩ tn) := hide (by
        refine ⟨four_below (hb7.setCell (p := ⟨g, p, none⟩) (by show w.heap.size ≤ g; omega) _) (by omega), ?_⟩
        rw [four_size]
        have hso : So (wc.setCell ⟨g, p, none⟩ (.int .i64 ((s.a p + 1 : Nat) : Int))) V8.heap.size (wc.setCell ⟨g, p, none⟩ (.int .i64 ((s.a p + 1 : Nat) : Int))).heap.size (.slice xm d5.zs.length ym) (.slice xb tn yb5) (.slice xr tn yr5) (.slice (some ⟨g, 0, none⟩) tn gc) ⟨d5, upd s.a p (s.a p + 1)⟩ tn := ⟨w5.heap.size, by omega, by simp; omega, fr7.set (by omega) (.inr (by omega)), ((on7.mono (by omega)).inc p (s.a p + 1)), fun x e => by simp only [Value.ownBlock, Option.some.injEq] at e; simp; omega⟩
        exact (hso.four (by omega) (.inl (by omega))).lower (by omega))
      clear HZ g15 ga7 fr7 on7 hb7 gs6 ga6 fr6 har6 HB6 hA13
      go_wp2
      rw [HEO.out]
      refine bodyPost_ret (v := .tuple #[.agg #[.slice xm d5.zs.length ym, .slice xb tn yb5, .slice xr tn yr5, .slice (some ⟨g, 0, none⟩) tn gc], .bool true]) (by simp [results, Try.results27, go_sem, z0, z1, z2, z3]) rfl ⟨HF.out.1, ?_⟩
      exact ⟨_, _, _, _, _, _, _, _, rfl, HF.out.2⟩
  · have HEO : Hid (stp tn L F s p = none) := hide (by rw [THREQ.out, if_neg ho])
    generalize okc s.d tn (F p (s.a p) 0) (F p (s.a p) 1) (F p (s.a p) 2) (F p (s.a p) 3) (F p (s.a p) 4) = code at ho ⊢
    have hcd : (code == 0) = false := by simpa using ho
    have hcn : (code != 0) = true := by simpa using ho
    have HBF := hide HB6.out
    clear ho fr6 har6 gs6 ga6 hA13
    go_wp2
    rw [HEO.out]
    refine bodyPost_ret (v := .tuple #[.agg #[.slice ma s.d.zs.length mc, .slice ba tn bc, .slice ra tn rc, .slice (some ⟨pa, po, none⟩) tn ac], .bool false]) (by simp [results, Try.results27, go_sem, z0, z1, z2, z3]) rfl ⟨four_below HBF.out (by omega), ?_⟩
    rfl

end Go.Proofs.Ytcocobmanlmjdaa
