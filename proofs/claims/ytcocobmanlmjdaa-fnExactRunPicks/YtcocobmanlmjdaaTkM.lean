/- spec.l10Do (written by mkTkM.py) -/
import Derived.Test.YtcocobmanlmjdaaTkL
namespace Go.Proofs.Ytcocobmanlmjdaa
open Go.RowKit
set_option linter.unusedVariables false
set_option linter.unusedSimpArgs false

/-- no buffer is longer than its room -/
def Bcap (w : World) (bv : Value) (C : Nat) : Prop := ∀ p o k c a n kk, bv = .slice (some ⟨p, o, none⟩) C k → c < C → w.cell? ⟨p, o + c, none⟩ = some (.slice a n kk) → n ≤ kk
def Cpd (vb : Nat → Value) (C : Nat) : Prop := ∀ c, c < C → ∀ a n k, vb c = .slice a n k → n ≤ k
theorem Cpd.upd {vb : Nat → Value} {C c : Nat} {u : Value} (h : Cpd vb C) (hu : ∀ a n k, u = .slice a n k → n ≤ k) : Cpd (upd vb c u) C := by
  intro c' hc' a n k e
  by_cases q : c' = c
  · subst q; rw [upd_at] at e; exact hu a n k e
  · rw [upd_ne q] at e; exact h c' hc' a n k e
/-- the answer stored: the Tso's rows lie behind it -/
theorem fin3 {w V : World} {base RB : Nat} {m b r : Value} {d : Td} {C : Nat} {vb vr : Nat → Value} {tag : Nat → Nat} (ta : TaD V base m b r d C vb vr tag) (h1 : RB < base) (h2 : w.heap.size ≤ RB) (hB : Below w.heap.size w V) (h3 : w.heap.size ≤ base) :
    TaD (((V.setCell ⟨RB, 0, none⟩ m).setCell ⟨RB, 1, none⟩ b).setCell ⟨RB, 2, none⟩ r) w.heap.size m b r d C vb vr tag ∧ Below w.heap.size w (((V.setCell ⟨RB, 0, none⟩ m).setCell ⟨RB, 1, none⟩ b).setCell ⟨RB, 2, none⟩ r) := by
  have hro : ∀ g, some RB = some g → g < base := fun g e => by simp only [Option.some.injEq] at e; omega
  exact ⟨(((ta.grown (grown_set V RB 0 m) hro).grown (grown_set _ RB 1 b) hro).grown (grown_set _ RB 2 r) hro).mono h3, ((hB.setCell (p := ⟨RB, 0, none⟩) h2 m).setCell (p := ⟨RB, 1, none⟩) h2 b).setCell (p := ⟨RB, 2, none⟩) h2 r⟩

theorem fm_four {C k co va vl rg : Int} (h : fmB C k co va vl rg = true) (h1 : ¬ k = 1) (h2 : ¬ k = 2) (h3 : ¬ k = 3) : k = 4 := by
  unfold fmB at h
  rw [if_neg h1, if_neg h2] at h
  simp only [Bool.and_eq_true, Bool.or_eq_true, decide_eq_true_eq] at h
  omega

set_option maxHeartbeats 16000000 in
set_option maxRecDepth 20000 in
theorem l10Do_any (mv bv rv : Value) (d : Td) (C : Nat) (k co va vl rg : Int) (w : World) (h : Tv w mv bv rv d.zs C d.L d.F C d.Z) (hok : tokD d C = true) (hcap : Bcap w bv C) :
    Calls Try.prog 49 #[.agg #[mv, bv, rv], .agg (five k co va vl rg)] w fun e w' => ∃ m b r vb vr tag, e = .returned (.tuple #[.agg #[m, b, r], .int .i64 (okc d C k co va vl rg)]) ∧ TaD w' w.heap.size m b r (nxt d C k co va vl rg) C vb vr tag ∧ Below w.heap.size w w' ∧ Cpd vb C := by
  obtain ⟨hC, _, hz3, hzr, hpa⟩ := tok_parts hok
  have HZ3 := hide hz3
  have HPA := hide hpa
  obtain ⟨i0, hi, hz0, hz1, hz2⟩ := info_parts infoS
  obtain ⟨⟨ma, mc, rfl⟩, ⟨ba0, bc, rfl⟩, ⟨ra, rc, rfl⟩⟩ := three_of h
  obtain ⟨ba, bcap, ebv, hbuf0⟩ := h.buf
  obtain ⟨bb, bo, rfl, hbuf⟩ := hbuf0 (by omega)
  obtain ⟨rfl, rfl⟩ : ba0 = some ⟨bb, bo, none⟩ ∧ bc = bcap := by simp only [Value.slice.injEq] at ebv; exact ⟨ebv.1, ebv.2.2⟩
  clear ebv hbuf0
  have HT := hide h
  obtain ⟨W, hW⟩ : ∃ W, ((w.alloc (.cells #[.slice ma d.zs.length mc, .slice (some ⟨bb, bo, none⟩) C bc, .slice ra C rc] 37)).alloc (.cells (five k co va vl rg) 51)).alloc (.cells #[nil3, nil3, nil3] 37) = W := ⟨_, rfl⟩
  have hWs : W.heap.size = w.heap.size + 1 + 1 + 1 := by rw [← hW]; simp
  have hB0 : Below w.heap.size w W := by rw [← hW]; exact (((Below.refl _ _).alloc (Nat.le_refl _) _).alloc (by simp) _).alloc (by simp; omega) _
  have g1 : W.heap[w.heap.size]? = some (.cells #[.slice ma d.zs.length mc, .slice (some ⟨bb, bo, none⟩) C bc, .slice ra C rc] 37 (0, 0)) := by rw [← hW, Below.heap_alloc _ _ _ (by simp; omega), Below.heap_alloc _ _ _ (by simp)]; exact heap_alloc_new _ _
  have g2 : W.heap[w.heap.size + 1]? = some (.cells (five k co va vl rg) 51 (0, 0)) := by
    rw [← hW, Below.heap_alloc _ _ _ (by simp)]
    have := heap_alloc_new (w.alloc (.cells #[.slice ma d.zs.length mc, .slice (some ⟨bb, bo, none⟩) C bc, .slice ra C rc] 37)) (.cells (five k co va vl rg) 51)
    simpa only [World.size_alloc] using this
  have g3 : W.heap[w.heap.size + 1 + 1]? = some (.cells #[nil3, nil3, nil3] 37 (0, 0)) := by
    rw [← hW]
    have := heap_alloc_new ((w.alloc (.cells #[.slice ma d.zs.length mc, .slice (some ⟨bb, bo, none⟩) C bc, .slice ra C rc] 37)).alloc (.cells (five k co va vl rg) 51)) (.cells #[nil3, nil3, nil3] 37)
    simpa only [World.size_alloc] using this
  have HE := hide (And.intro hWs (And.intro hB0 (And.intro g1 (And.intro g2 g3))))
  have hcp := fun W h => l10Copy_any (.slice ma d.zs.length mc) (.slice (some ⟨bb, bo, none⟩) C bc) (.slice ra C rc) d.zs C d.L d.F d.Z W h (by omega) (by omega) (by omega) (fun c hc => by have := (hpa c hc).1; omega) (fun c hc => by have := (hpa c hc).2.2.1; omega)
  have hfo := fun W => l10Form_any k co va vl rg C W hC
  subst hW
  clear hWs hB0 g1 g2 g3 h hz3 hpa hzr
  go_enter Try.func49, Try.ntmps49
  go_wp2_with fail
  refine (hcp _ (HT.out.below HE.out.2.1)).mono ?_
  rintro e w1 ⟨m, b, r, vb, vr, tag, rfl, tc, hb1⟩
  obtain ⟨⟨xm, ym, rfl⟩, ⟨xb, yb, rfl⟩, ⟨xr, yr, rfl⟩⟩ := three_of tc.ta.tv
  obtain ⟨e1, e2, e3, e4, e5⟩ := HE.out
  have hA1 : Below w1.heap.size w1 (w1.alloc (.cells #[.slice xm d.zs.length ym, .slice xb C yb, .slice xr C yr] 37)) := (Below.refl _ _).alloc (Nat.le_refl _) _
  have g4 : (w1.alloc (.cells #[.slice xm d.zs.length ym, .slice xb C yb, .slice xr C yr] 37)).heap[w1.heap.size]? = some (.cells #[.slice xm d.zs.length ym, .slice xb C yb, .slice xr C yr] 37 (0, 0)) := heap_alloc_new _ _
  have hB1 := e2.trans (hb1.mono e2.size)
  have hB2 := hB1.trans (hA1.mono hB1.size)
  have hbase : w.heap.size + 1 + 1 + 1 = (((w.alloc (.cells #[.slice ma d.zs.length mc, .slice (some ⟨bb, bo, none⟩) C bc, .slice ra C rc] 37)).alloc (.cells (five k co va vl rg) 51)).alloc (.cells #[nil3, nil3, nil3] 37)).heap.size := e1.symm
  have tc' := (tc.retag (tag' := fun g => if g = w1.heap.size then 100 else tag g) (fun g hg => if_neg (by omega))).below hA1
  rw [← hbase] at tc'
  have hs1 := hb1.size
  rw [← hbase] at hs1
  obtain ⟨tagN, htagN⟩ : ∃ t, (fun g => if g = w1.heap.size then 100 else tag g) = t := ⟨_, rfl⟩
  have tnb : tagN w1.heap.size = 100 := by rw [← htagN]; exact if_pos rfl
  rw [htagN] at tc'
  have g1' := heap_b (heap_b e3 hb1) hA1
  have g2' := heap_b (heap_b e4 hb1) hA1
  have g3' := heap_b (heap_b e5 hb1) hA1
  clear e1 e2 e3 e4 e5 HE hb1 tc hcp hB1 hA1 htagN hbase
  obtain ⟨_, x0, x1, x2⟩ := row3_facts g1'
  have y0 := (cell_of_row _ _ 0 _ _ _ g2').trans rfl
  have y1 := (cell_of_row _ _ 1 _ _ _ g2').trans rfl
  have y2 := (cell_of_row _ _ 2 _ _ _ g2').trans rfl
  have y3 := (cell_of_row _ _ 3 _ _ _ g2').trans rfl
  have y4 := (cell_of_row _ _ 4 _ _ _ g2').trans rfl
  go_wp2_with fail
  refine (hfo _).mono ?_
  rintro e w2 ⟨rfl, hb2⟩
  have hB3 := hB2.trans (hb2.mono hB2.size)
  have tc2 := tc'.below hb2
  have h1 := heap_b g1' hb2
  have h2 := heap_b g2' hb2
  have h3 := heap_b g3' hb2
  have h4 := heap_b g4 hb2
  clear g1' g2' g3' g4 hb2 tc' hB2 hfo x0 x1 x2 y0 y1 y2 y3 y4
  obtain ⟨_, x0, x1, x2⟩ := row3_facts h1
  have y0 : w2.cell? ⟨w.heap.size + 1, 0, none⟩ = some (.int .i64 k) := (cell_of_row _ _ 0 _ _ _ h2).trans rfl
  have y1 : w2.cell? ⟨w.heap.size + 1, 1, none⟩ = some (.int .i64 co) := (cell_of_row _ _ 1 _ _ _ h2).trans rfl
  have y2 : w2.cell? ⟨w.heap.size + 1, 2, none⟩ = some (.int .i64 va) := (cell_of_row _ _ 2 _ _ _ h2).trans rfl
  have y3 : w2.cell? ⟨w.heap.size + 1, 3, none⟩ = some (.int .i64 vl) := (cell_of_row _ _ 3 _ _ _ h2).trans rfl
  have y4 : w2.cell? ⟨w.heap.size + 1, 4, none⟩ = some (.int .i64 rg) := (cell_of_row _ _ 4 _ _ _ h2).trans rfl
  obtain ⟨fr, r0, r1, r2⟩ := row3_facts h3
  obtain ⟨fn, n0, n1, n2⟩ := row3_facts h4
  have hl4 := lt_of_block h4
  have hne : ¬ w.heap.size + 1 + 1 = w1.heap.size := by omega
  have hne' : ¬ w1.heap.size = w.heap.size + 1 + 1 := by omega
  have HCP : Hid (Cpd vb C) := hide (fun c hc => own_cap (tc2.bo c hc))
  cases hf : fmB C k co va vl rg
  · have HZ := hide (ok_form (d := d) hf)
    have HF := hide (And.intro (fin3 (RB := w.heap.size + 1 + 1) (d := nxt d C k co va vl rg) (by rw [HZ.out.2]; exact tc2.ta) (by omega) (by omega) (hB3) (by omega)) HCP.out)
    clear tc2 hB3 h1 h2 h3 h4
    go_wp2
    refine bodyPost_ret (v := .tuple #[.agg #[.slice xm d.zs.length ym, .slice xb C yb, .slice xr C yr], .int .i64 2]) (by simp [results, Try.results49, go_sem, r0, r1, r2]) rfl ⟨_, _, _, _, _, _, ?_, HF.out.1.1, HF.out.1.2, HF.out.2⟩
    rw [HZ.out.1]
  obtain ⟨p1, p2⟩ := fm_core hf
  obtain ⟨c, rfl⟩ : ∃ c : Nat, co = c := ⟨co.toNat, by omega⟩
  have hcl : c < C := by omega
  have HPC := hide (HPA.out c hcl)
  obtain ⟨ia, ic, q0', hsr⟩ := hbuf c hcl
  have q0 : w2.cell? ⟨bb, bo + c, none⟩ = some (.slice ia (d.L c) ic) := Below.keep hB3 _ _ q0'
  have hsr2 := hsr.below hB3
  have HSR := hide hsr
  have HIC := hide (hcap bb bo bc c ia (d.L c) ic rfl hcl q0')
  have hbbl : bb < w.heap.size := by have := World.block_lt_of_cell? _ _ q0'; simpa using this
  have hc0 : (0 : Int) ≤ (c : Int) := by omega
  have hc1 : (c : Int) < (C : Int) := by omega
  clear hbuf q0' hsr HPA
  by_cases e1 : k = 1
  · subst e1
    obtain ⟨o1, o2⟩ := ok1 (d := d) hf
    simp only [Int.toNat_natCast] at o1 o2
    by_cases h4L : 4 ≤ d.L c
    · have hL4 : d.L c = 4 := by have := HPC.out.1; omega
      have hd4 : ((d.L c : Int) == 4) = true := by simp; omega
      have HZ := hide (o1 h4L)
      have HF := hide (And.intro (fin3 (RB := w.heap.size + 1 + 1) (d := nxt d C 1 c va vl rg) (by rw [HZ.out.2]; exact tc2.ta) (by omega) (by omega) (hB3) (by omega)) HCP.out)
      clear tc2 hB3 h1 h2 h3 h4 hL4
      go_wp2
      refine bodyPost_ret (v := .tuple #[.agg #[.slice xm d.zs.length ym, .slice xb C yb, .slice xr C yr], .int .i64 3]) (by simp [results, Try.results49, go_sem, r0, r1, r2]) rfl ⟨_, _, _, _, _, _, ?_, HF.out.1.1, HF.out.1.2, HF.out.2⟩
      rw [HZ.out.1]
    · have hd4 : ((d.L c : Int) == 4) = false := by simp; omega
      obtain ⟨pb, po, pc, epb, pb1, pb2, pb3, pcell⟩ := tc2.ta.bufAt (by omega)
      obtain ⟨rfl, rfl⟩ : xb = some ⟨pb, po, none⟩ ∧ yb = pc := by simp only [Value.slice.injEq] at epb; exact ⟨epb.1, epb.2.2⟩
      clear epb
      have z5 := pcell c hcl
      obtain ⟨ja, jc, ev⟩ := own_form (tc2.bo c hcl)
      rw [ev] at z5
      have hlt : ∀ x, (Value.slice ja (d.L c) jc).ownBlock = some x → w.heap.size + 1 + 1 + 1 ≤ x ∧ x < w2.heap.size ∧ tagN x = 3 + 2 * c := fun x e => ⟨(World.ownsRow.lt (tc2.bo c hcl) x (by rw [ev]; exact e)).1, (World.ownsRow.lt (tc2.bo c hcl) x (by rw [ev]; exact e)).2, tc2.tc c hcl x (by rw [ev]; exact e)⟩
      go_wp2
      refine wp_region_but (z := 18) (S := fun W' => W'.cell? ⟨w1.heap.size, 1, none⟩ = some (.slice (some ⟨pb, po, none⟩) C yb) ∧ W'.cell? ⟨w.heap.size + 1, 1, none⟩ = some (.int .i64 c) ∧ W'.cell? ⟨w.heap.size + 1, 2, none⟩ = some (.int .i64 va) ∧ W'.cell? ⟨w.heap.size + 1, 3, none⟩ = some (.int .i64 vl) ∧ W'.cell? ⟨pb, po + c, none⟩ = some (.slice ja (d.L c) jc)) (by kernel_rfl) ⟨n1, y1, y2, y3, z5⟩ (fun hHeld => ?_)
      refine wpAnyK_take (i := 0) (v := .pointer (some ⟨w1.heap.size, 1, none⟩)) rfl (by kernel_rfl) (by kernel_rfl) (by kernel_rfl) (by kernel_rfl) (fun _ _ _ h => h) (Or.inl ⟨by rfl, fun w' hSw => ?_⟩) (by assumption) ?_
      · (try dsimp only at hSw); obtain ⟨s1, s2, s3, s4, s5⟩ := hSw; go_simp
      try simp only [Act.put, List.getElem_toArray, List.getElem_cons_zero, List.getElem_cons_succ, List.setIfInBounds_toArray, List.set_cons_zero, List.set_cons_succ]
      refine wpAnyK_take (i := 1) (v := .slice (some ⟨pb, po, none⟩) C yb) rfl (by kernel_rfl) (by kernel_rfl) (by kernel_rfl) (by kernel_rfl) (fun _ _ _ h => h) (Or.inl ⟨by rfl, fun w' hSw => ?_⟩) (by assumption) ?_
      · (try dsimp only at hSw); obtain ⟨s1, s2, s3, s4, s5⟩ := hSw; go_simp
      try simp only [Act.put, List.getElem_toArray, List.getElem_cons_zero, List.getElem_cons_succ, List.setIfInBounds_toArray, List.set_cons_zero, List.set_cons_succ]
      refine wpAnyK_take (i := 2) (v := .pointer (some ⟨w.heap.size + 1, 1, none⟩)) rfl (by kernel_rfl) (by kernel_rfl) (by kernel_rfl) (by kernel_rfl) (fun _ _ _ h => h) (Or.inl ⟨by rfl, fun w' hSw => ?_⟩) (by assumption) ?_
      · (try dsimp only at hSw); obtain ⟨s1, s2, s3, s4, s5⟩ := hSw; go_simp
      try simp only [Act.put, List.getElem_toArray, List.getElem_cons_zero, List.getElem_cons_succ, List.setIfInBounds_toArray, List.set_cons_zero, List.set_cons_succ]
      refine wpAnyK_take (i := 3) (v := .int .i64 c) rfl (by kernel_rfl) (by kernel_rfl) (by kernel_rfl) (by kernel_rfl) (fun _ _ _ h => h) (Or.inl ⟨by rfl, fun w' hSw => ?_⟩) (by assumption) ?_
      · (try dsimp only at hSw); obtain ⟨s1, s2, s3, s4, s5⟩ := hSw; go_simp
      try simp only [Act.put, List.getElem_toArray, List.getElem_cons_zero, List.getElem_cons_succ, List.setIfInBounds_toArray, List.set_cons_zero, List.set_cons_succ]
      refine wpAnyK_take (i := 4) (v := .pointer (some ⟨w1.heap.size, 1, none⟩)) rfl (by kernel_rfl) (by kernel_rfl) (by kernel_rfl) (by kernel_rfl) (fun _ _ _ h => h) (Or.inl ⟨by rfl, fun w' hSw => ?_⟩) (by assumption) ?_
      · (try dsimp only at hSw); obtain ⟨s1, s2, s3, s4, s5⟩ := hSw; go_simp
      try simp only [Act.put, List.getElem_toArray, List.getElem_cons_zero, List.getElem_cons_succ, List.setIfInBounds_toArray, List.set_cons_zero, List.set_cons_succ]
      refine wpAnyK_take (i := 5) (v := .slice (some ⟨pb, po, none⟩) C yb) rfl (by kernel_rfl) (by kernel_rfl) (by kernel_rfl) (by kernel_rfl) (fun _ _ _ h => h) (Or.inl ⟨by rfl, fun w' hSw => ?_⟩) (by assumption) ?_
      · (try dsimp only at hSw); obtain ⟨s1, s2, s3, s4, s5⟩ := hSw; go_simp
      try simp only [Act.put, List.getElem_toArray, List.getElem_cons_zero, List.getElem_cons_succ, List.setIfInBounds_toArray, List.set_cons_zero, List.set_cons_succ]
      refine wpAnyK_take (i := 6) (v := .pointer (some ⟨w.heap.size + 1, 1, none⟩)) rfl (by kernel_rfl) (by kernel_rfl) (by kernel_rfl) (by kernel_rfl) (fun _ _ _ h => h) (Or.inl ⟨by rfl, fun w' hSw => ?_⟩) (by assumption) ?_
      · (try dsimp only at hSw); obtain ⟨s1, s2, s3, s4, s5⟩ := hSw; go_simp
      try simp only [Act.put, List.getElem_toArray, List.getElem_cons_zero, List.getElem_cons_succ, List.setIfInBounds_toArray, List.set_cons_zero, List.set_cons_succ]
      refine wpAnyK_take (i := 7) (v := .int .i64 c) rfl (by kernel_rfl) (by kernel_rfl) (by kernel_rfl) (by kernel_rfl) (fun _ _ _ h => h) (Or.inl ⟨by rfl, fun w' hSw => ?_⟩) (by assumption) ?_
      · (try dsimp only at hSw); obtain ⟨s1, s2, s3, s4, s5⟩ := hSw; go_simp
      try simp only [Act.put, List.getElem_toArray, List.getElem_cons_zero, List.getElem_cons_succ, List.setIfInBounds_toArray, List.set_cons_zero, List.set_cons_succ]
      refine wpAnyK_take (i := 8) (v := .pointer (some ⟨pb, po + c, none⟩)) rfl (by kernel_rfl) (by kernel_rfl) (by kernel_rfl) (by kernel_rfl) (fun _ _ _ h => h) (Or.inl ⟨by rfl, fun w' hSw => ?_⟩) (by assumption) ?_
      · (try dsimp only at hSw); obtain ⟨s1, s2, s3, s4, s5⟩ := hSw; go_simp
      try simp only [Act.put, List.getElem_toArray, List.getElem_cons_zero, List.getElem_cons_succ, List.setIfInBounds_toArray, List.set_cons_zero, List.set_cons_succ]
      refine wpAnyK_take (i := 9) (v := .slice ja (d.L c) jc) rfl (by kernel_rfl) (by kernel_rfl) (by kernel_rfl) (by kernel_rfl) (fun _ _ _ h => h) (Or.inl ⟨by rfl, fun w' hSw => ?_⟩) (by assumption) ?_
      · (try dsimp only at hSw); obtain ⟨s1, s2, s3, s4, s5⟩ := hSw; go_simp
      try simp only [Act.put, List.getElem_toArray, List.getElem_cons_zero, List.getElem_cons_succ, List.setIfInBounds_toArray, List.set_cons_zero, List.set_cons_succ]
      refine wpAnyK_take (i := 10) (v := .pointer (some ⟨w.heap.size + 1, 2, none⟩)) rfl (by kernel_rfl) (by kernel_rfl) (by kernel_rfl) (by kernel_rfl) (fun _ _ _ h => h) (Or.inl ⟨by rfl, fun w' hSw => ?_⟩) (by assumption) ?_
      · (try dsimp only at hSw); obtain ⟨s1, s2, s3, s4, s5⟩ := hSw; go_simp
      try simp only [Act.put, List.getElem_toArray, List.getElem_cons_zero, List.getElem_cons_succ, List.setIfInBounds_toArray, List.set_cons_zero, List.set_cons_succ]
      refine wpAnyK_take (i := 11) (v := .int .i64 va) rfl (by kernel_rfl) (by kernel_rfl) (by kernel_rfl) (by kernel_rfl) (fun _ _ _ h => h) (Or.inl ⟨by rfl, fun w' hSw => ?_⟩) (by assumption) ?_
      · (try dsimp only at hSw); obtain ⟨s1, s2, s3, s4, s5⟩ := hSw; go_simp
      try simp only [Act.put, List.getElem_toArray, List.getElem_cons_zero, List.getElem_cons_succ, List.setIfInBounds_toArray, List.set_cons_zero, List.set_cons_succ]
      refine wpAnyK_take (i := 12) (v := .pointer (some ⟨w.heap.size + 1, 3, none⟩)) rfl (by kernel_rfl) (by kernel_rfl) (by kernel_rfl) (by kernel_rfl) (fun _ _ _ h => h) (Or.inl ⟨by rfl, fun w' hSw => ?_⟩) (by assumption) ?_
      · (try dsimp only at hSw); obtain ⟨s1, s2, s3, s4, s5⟩ := hSw; go_simp
      try simp only [Act.put, List.getElem_toArray, List.getElem_cons_zero, List.getElem_cons_succ, List.setIfInBounds_toArray, List.set_cons_zero, List.set_cons_succ]
      refine wpAnyK_take (i := 13) (v := .int .i64 vl) rfl (by kernel_rfl) (by kernel_rfl) (by kernel_rfl) (by kernel_rfl) (fun _ _ _ h => h) (Or.inl ⟨by rfl, fun w' hSw => ?_⟩) (by assumption) ?_
      · (try dsimp only at hSw); obtain ⟨s1, s2, s3, s4, s5⟩ := hSw; go_simp
      try simp only [Act.put, List.getElem_toArray, List.getElem_cons_zero, List.getElem_cons_succ, List.setIfInBounds_toArray, List.set_cons_zero, List.set_cons_succ]
      refine wpAnyK_take (i := 14) (v := .agg #[.int .i64 va, .int .i64 vl]) rfl (by kernel_rfl) (by kernel_rfl) (by kernel_rfl) (by kernel_rfl) (fun _ _ _ h => h) (Or.inl ⟨by rfl, fun w' hSw => ?_⟩) (by assumption) ?_
      · (try dsimp only at hSw); obtain ⟨s1, s2, s3, s4, s5⟩ := hSw; go_simp
      try simp only [Act.put, List.getElem_toArray, List.getElem_cons_zero, List.getElem_cons_succ, List.setIfInBounds_toArray, List.set_cons_zero, List.set_cons_succ]
      refine wpAnyK_one (i := 15) (by kernel_rfl) rfl (fun K hK => ?_)
      go_simp
      have hA : Below w2.heap.size w2 (w2.drew.alloc (.cells #[.int .i64 va, .int .i64 vl] 103)) := ((Below.refl _ _).drew).alloc (Nat.le_refl _) _
      refine hK.out _ _ (fun _ => ⟨keepc hA n1, keepc hA y1, keepc hA y2, keepc hA y3, keepc hA z5⟩) (fun hH => ?_)
      clear hK K hHeld
      have hHeld := hH (by decide)
      clear hH
      try simp only [Act.put, List.getElem_toArray, List.getElem_cons_zero, List.getElem_cons_succ, List.setIfInBounds_toArray, List.set_cons_zero, List.set_cons_succ]
      have hTa := tc2.ta.below hA
      have hown0 := (tc2.bo c hcl).below hA
      unfold Orow at hown0
      rw [ev] at hown0
      refine wpAnyK_one (i := 16) (by kernel_rfl) rfl (fun K hK => ?_)
      refine step_append_lies _ (by rfl) _ _ 90 (by rfl) (w.heap.size + 1 + 1 + 1) 103 i0 _ 2 16 Try.underlying90 hi hz0 hz1 hz2 rfl (by omega) (.slice ja (d.L c) jc) (d.L c) (rowC 2 (d.L c) (d.L c) (d.F c)) (by rfl) hown0 ⟨w2.heap.size, 0, none⟩ 1 1 [.int .i64 va, .int .i64 vl] (by rfl) (by rfl) (World.news_of_block (cs := #[.int .i64 va, .int .i64 vl]) (t := 103) (fr := (0, 0)) (heap_alloc_new w2.drew _)) (by intro x hx; simp at hx; rcases hx with hx | hx <;> subst hx <;> rfl) (by omega) (by have := HPC.out.1; unfold maxLen; omega) (by have := HPC.out.1; omega) (Nat.le_trans (by omega : w.heap.size + 1 + 1 + 1 ≤ w2.heap.size) hA.size) _ rfl ?_
      intro g cap w3 hown hgrow hat hlt3
      have hx3 : ∀ {B : Nat} {o : Obj}, (B = w1.heap.size ∨ B < w.heap.size + 1 + 1 + 1 ∨ B = pb) → w2.heap[B]? = some o → w3.heap[B]? = some o := fun {B o} hB hu => (hgrow.block B (Nat.lt_of_lt_of_le (lt_of_block hu) hA.size) (fun q => by have := hlt B q.symm; rcases hB with rfl | hB | rfl <;> omega)).trans (heap_b hu hA)
      have k2 := hx3 (.inr (.inl (by omega))) h2
      have k3 := hx3 (.inr (.inl (by omega))) h3
      have k4 := hx3 (.inl rfl) h4
      have u1 : w3.cell? ⟨w1.heap.size, 1, none⟩ = some (.slice (some ⟨pb, po, none⟩) C yb) := (cell_of_row _ _ 1 _ _ _ k4).trans rfl
      have u2 : w3.cell? ⟨w.heap.size + 1, 1, none⟩ = some (.int .i64 c) := (cell_of_row _ _ 1 _ _ _ k2).trans rfl
      have u3 : w3.cell? ⟨w.heap.size + 1, 2, none⟩ = some (.int .i64 va) := (cell_of_row _ _ 2 _ _ _ k2).trans rfl
      have u4 : w3.cell? ⟨w.heap.size + 1, 3, none⟩ = some (.int .i64 vl) := (cell_of_row _ _ 3 _ _ _ k2).trans rfl
      have hpbn : ∀ x, (Value.slice ja (d.L c) jc).ownBlock = some x → x ≠ pb := fun x e q => by have := hlt x e; rw [q] at this; omega
      have u5 : w3.cell? ⟨pb, po + c, none⟩ = some (.slice ja (d.L c) jc) := (hgrow.cell_far ⟨pb, po + c, none⟩ (Nat.lt_of_lt_of_le pb2.lt hA.size) (fun q => hpbn pb q.symm rfl)).trans (keepc hA z5)
      have f5 : w3.frozen? ⟨pb, po + c, none⟩ = false := ((pb2.below hA).grown hgrow (fun q => hpbn pb q rfl)).facts.1 _
      have HCU := hide (own_cap hown)
      rw [rowC_snoc] at hown
      have hB4 : Below w.heap.size w w3 := (hB3.trans (hA.mono hB3.size)).grown hgrow (by have := (hB3.trans (hA.mono hB3.size)).size; omega) (fun x e => by have := (hlt x e).1; omega)
      obtain ⟨tag2, ta2⟩ := hTa.putB (c := c) hcl hgrow (fun x e => (hlt x e).2.2) (Orow.sr hown) (fun x off n cap2 e _ => by
        obtain ⟨zz1, zz2⟩ := own_wc hown x off n cap2 e
        refine ⟨zz1, zz2, ?_⟩
        simp only [Value.slice.injEq, Option.some.injEq, Addr.mk.injEq] at e
        obtain ⟨⟨rfl, _, _⟩, _, _⟩ := e
        rcases hat with hat | hat
        · exact .inl (hlt _ hat).2.2
        · exact .inr (Nat.le_of_eq hat.symm)) (Nat.le_trans (by omega : w.heap.size + 1 + 1 + 1 ≤ w2.heap.size) hA.size)
      have hB5 := hB4.setCell (p := ⟨pb, po + c, none⟩) (by show w.heap.size ≤ pb; omega) (.slice (some ⟨g, 0, none⟩) (d.L c + 1) cap)
      have k3' : (w3.setCell ⟨pb, po + c, none⟩ (.slice (some ⟨g, 0, none⟩) (d.L c + 1) cap)).heap[w.heap.size + 1 + 1]? = _ := (heap_setCell_other _ _ _ _ (by show w.heap.size + 1 + 1 ≠ pb; omega)).trans k3
      have hnpb : w1.heap.size ≠ pb := fun q => by rw [← q, tnb] at pb3; omega
      have k4' : (w3.setCell ⟨pb, po + c, none⟩ (.slice (some ⟨g, 0, none⟩) (d.L c + 1) cap)).heap[w1.heap.size]? = _ := (heap_setCell_other _ _ _ _ hnpb).trans k4
      refine hK.out _ _ (fun _ => ⟨u1, u2, u3, u4, u5⟩) (fun hH => ?_)
      clear hK K hHeld hown hgrow hat hA hTa hown0 hx3 hB4 k2 k3 k4 z5 pcell pb2 tc2 h1 h2 h3 h4 x0 x1 x2 y0 y1 y2 y3 y4 r0 r1 r2 n0 n1 n2 q0 hsr2 fr fn
      have hHeld := hH (by decide)
      clear hH
      try simp only [Act.put, List.getElem_toArray, List.getElem_cons_zero, List.getElem_cons_succ, List.setIfInBounds_toArray, List.set_cons_zero, List.set_cons_succ]
      refine wpAnyK_take (i := 17) (v := .pointer (some ⟨pb, po + c, none⟩)) rfl (by kernel_rfl) (by kernel_rfl) (by kernel_rfl) (by kernel_rfl) (fun _ _ _ h => h) (Or.inl ⟨by rfl, fun w' hSw => ?_⟩) (by assumption) ?_
      · (try dsimp only at hSw); obtain ⟨s1, s2, s3, s4, s5⟩ := hSw; go_simp
      try simp only [Act.put, List.getElem_toArray, List.getElem_cons_zero, List.getElem_cons_succ, List.setIfInBounds_toArray, List.set_cons_zero, List.set_cons_succ]
      refine wpAnyK_one (i := 18) (by kernel_rfl) rfl (fun K hK => ?_)
      go_simp
      refine hK.out _ _ (fun h => absurd rfl h) (fun _ => ?_)
      clear hK K hHeld u1 u2 u3 u4 u5 f5
      try simp only [Act.put, List.getElem_toArray, List.getElem_cons_zero, List.getElem_cons_succ, List.setIfInBounds_toArray, List.set_cons_zero, List.set_cons_succ]
      refine wpAnyK_done (by kernel_rfl) ?_
      obtain ⟨V, hV⟩ : ∃ V, w3.setCell ⟨pb, po + c, none⟩ (.slice (some ⟨g, 0, none⟩) (d.L c + 1) cap) = V := ⟨_, rfl⟩
      rw [hV] at ta2 hB5 k3' k4' ⊢
      clear hV
      obtain ⟨fr, r0, r1, r2⟩ := row3_facts k3'
      obtain ⟨_, n0, n1, n2⟩ := row3_facts k4'
      have HZ := hide (o2 h4L)
      have HF := hide (And.intro (fin3 (RB := w.heap.size + 1 + 1) (d := nxt d C 1 c va vl rg) (by rw [HZ.out.2]; exact ta2) (by omega) (by omega) (hB5) (by omega)) ((Cpd.upd (c := c) HCP.out HCU.out)))
      clear ta2 hB5 k3' k4' o1 o2
      go_wp2
      refine bodyPost_ret (v := .tuple #[.agg #[.slice xm d.zs.length ym, .slice (some ⟨pb, po, none⟩) C yb, .slice xr C yr], .int .i64 0]) (by simp [results, Try.results49, go_sem, r0, r1, r2]) rfl ⟨_, _, _, _, _, _, ?_, HF.out.1.1, HF.out.1.2, HF.out.2⟩
      rw [HZ.out.1]
  have q1 : (k == 1) = false := by simpa using e1
  by_cases e2 : k = 2
  · subst e2
    clear e1 q1
    obtain ⟨⟨zz1, zz2⟩, ⟨v5, v6⟩, r5, r6⟩ := ok2 (d := d) hf
    obtain ⟨v, rfl⟩ : ∃ v : Nat, va = v := ⟨va.toNat, by omega⟩
    obtain ⟨i, rfl⟩ : ∃ i : Nat, rg = i := ⟨rg.toNat, by omega⟩
    simp only [Int.toNat_natCast] at zz2
    have HZZ := hide (And.intro zz1 zz2)
    clear zz1 zz2
    have hse := fun W h => specSeen_any (.slice ma d.zs.length mc) (.slice (some ⟨bb, bo, none⟩) C bc) (.slice ra C rc) d.zs C d.L d.F C d.Z c v W h hcl (by have := HZ3.out; omega) (by have := HPC.out.1; omega)
    generalize hsv : sn d.zs (d.F c) v (d.L c) = sv at hse
    have HSV := hide hsv
    clear hsv
    have hil : i < (d.Z c).length := by have := HPC.out.2.2.1; omega
    obtain ⟨sb, so, sc, esb, sb1, sb2, sb3, scell⟩ := tc2.ta.regAt (by omega)
    obtain ⟨rfl, rfl⟩ : xr = some ⟨sb, so, none⟩ ∧ yr = sc := by simp only [Value.slice.injEq] at esb; exact ⟨esb.1, esb.2.2⟩
    clear esb
    have z5 := scell c hcl
    obtain ⟨ja, jc, ev, hs⟩ := tc2.ta.ri c hcl
    obtain ⟨g, off, rfl, hcell⟩ := hs (by omega)
    rw [ev] at z5
    obtain ⟨gg1, gg2, gg3⟩ := tc2.ta.rI c hcl g off _ jc ev (by omega)
    have z6 := hcell i hil
    have hi0 : (0 : Int) ≤ (i : Int) := by omega
    have hi1 : (i : Int) < ((d.Z c).length : Int) := by omega
    have HTA := hide tc2.ta
    have HTV := hide (HT.out.below hB3)
    clear hs hcell scell
    go_wp2
    refine wp_region_but (z := 15) (S := fun W' => Below w2.heap.size w2 W') (by kernel_rfl) ((Below.refl _ _).drew) (fun hHeld => ?_)
    refine wpAnyK_take (i := 0) (v := .pointer (some ⟨w1.heap.size, 2, none⟩)) rfl (by kernel_rfl) (by kernel_rfl) (by kernel_rfl) (by kernel_rfl) (fun _ _ _ h => h) (Or.inl ⟨by rfl, fun w' hSw => ?_⟩) (by assumption) ?_
    · (try dsimp only at hSw); have z_0 := keepc hSw x0; have z_1 := keepc hSw x1; have z_2 := keepc hSw x2; have z_3 := keepc hSw n2; have z_4 := keepc hSw y1; have z_5 := keepc hSw y2; have z_6 := keepc hSw y4; have z_7 := keepc hSw z5; go_simp
    try simp only [Act.put, List.getElem_toArray, List.getElem_cons_zero, List.getElem_cons_succ, List.setIfInBounds_toArray, List.set_cons_zero, List.set_cons_succ]
    refine wpAnyK_take (i := 1) (v := .slice (some ⟨sb, so, none⟩) C yr) rfl (by kernel_rfl) (by kernel_rfl) (by kernel_rfl) (by kernel_rfl) (fun _ _ _ h => h) (Or.inl ⟨by rfl, fun w' hSw => ?_⟩) (by assumption) ?_
    · (try dsimp only at hSw); have z_0 := keepc hSw x0; have z_1 := keepc hSw x1; have z_2 := keepc hSw x2; have z_3 := keepc hSw n2; have z_4 := keepc hSw y1; have z_5 := keepc hSw y2; have z_6 := keepc hSw y4; have z_7 := keepc hSw z5; go_simp
    try simp only [Act.put, List.getElem_toArray, List.getElem_cons_zero, List.getElem_cons_succ, List.setIfInBounds_toArray, List.set_cons_zero, List.set_cons_succ]
    refine wpAnyK_take (i := 2) (v := .pointer (some ⟨w.heap.size + 1, 1, none⟩)) rfl (by kernel_rfl) (by kernel_rfl) (by kernel_rfl) (by kernel_rfl) (fun _ _ _ h => h) (Or.inl ⟨by rfl, fun w' hSw => ?_⟩) (by assumption) ?_
    · (try dsimp only at hSw); have z_0 := keepc hSw x0; have z_1 := keepc hSw x1; have z_2 := keepc hSw x2; have z_3 := keepc hSw n2; have z_4 := keepc hSw y1; have z_5 := keepc hSw y2; have z_6 := keepc hSw y4; have z_7 := keepc hSw z5; go_simp
    try simp only [Act.put, List.getElem_toArray, List.getElem_cons_zero, List.getElem_cons_succ, List.setIfInBounds_toArray, List.set_cons_zero, List.set_cons_succ]
    refine wpAnyK_take (i := 3) (v := .int .i64 c) rfl (by kernel_rfl) (by kernel_rfl) (by kernel_rfl) (by kernel_rfl) (fun _ _ _ h => h) (Or.inl ⟨by rfl, fun w' hSw => ?_⟩) (by assumption) ?_
    · (try dsimp only at hSw); have z_0 := keepc hSw x0; have z_1 := keepc hSw x1; have z_2 := keepc hSw x2; have z_3 := keepc hSw n2; have z_4 := keepc hSw y1; have z_5 := keepc hSw y2; have z_6 := keepc hSw y4; have z_7 := keepc hSw z5; go_simp
    try simp only [Act.put, List.getElem_toArray, List.getElem_cons_zero, List.getElem_cons_succ, List.setIfInBounds_toArray, List.set_cons_zero, List.set_cons_succ]
    refine wpAnyK_take (i := 4) (v := .pointer (some ⟨sb, so + c, none⟩)) rfl (by kernel_rfl) (by kernel_rfl) (by kernel_rfl) (by kernel_rfl) (fun _ _ _ h => h) (Or.inl ⟨by rfl, fun w' hSw => ?_⟩) (by assumption) ?_
    · (try dsimp only at hSw); have z_0 := keepc hSw x0; have z_1 := keepc hSw x1; have z_2 := keepc hSw x2; have z_3 := keepc hSw n2; have z_4 := keepc hSw y1; have z_5 := keepc hSw y2; have z_6 := keepc hSw y4; have z_7 := keepc hSw z5; go_simp
    try simp only [Act.put, List.getElem_toArray, List.getElem_cons_zero, List.getElem_cons_succ, List.setIfInBounds_toArray, List.set_cons_zero, List.set_cons_succ]
    refine wpAnyK_take (i := 5) (v := .slice (some ⟨g, off, none⟩) (d.Z c).length jc) rfl (by kernel_rfl) (by kernel_rfl) (by kernel_rfl) (by kernel_rfl) (fun _ _ _ h => h) (Or.inl ⟨by rfl, fun w' hSw => ?_⟩) (by assumption) ?_
    · (try dsimp only at hSw); have z_0 := keepc hSw x0; have z_1 := keepc hSw x1; have z_2 := keepc hSw x2; have z_3 := keepc hSw n2; have z_4 := keepc hSw y1; have z_5 := keepc hSw y2; have z_6 := keepc hSw y4; have z_7 := keepc hSw z5; go_simp
    try simp only [Act.put, List.getElem_toArray, List.getElem_cons_zero, List.getElem_cons_succ, List.setIfInBounds_toArray, List.set_cons_zero, List.set_cons_succ]
    refine wpAnyK_take (i := 6) (v := .pointer (some ⟨w.heap.size + 1, 4, none⟩)) rfl (by kernel_rfl) (by kernel_rfl) (by kernel_rfl) (by kernel_rfl) (fun _ _ _ h => h) (Or.inl ⟨by rfl, fun w' hSw => ?_⟩) (by assumption) ?_
    · (try dsimp only at hSw); have z_0 := keepc hSw x0; have z_1 := keepc hSw x1; have z_2 := keepc hSw x2; have z_3 := keepc hSw n2; have z_4 := keepc hSw y1; have z_5 := keepc hSw y2; have z_6 := keepc hSw y4; have z_7 := keepc hSw z5; go_simp
    try simp only [Act.put, List.getElem_toArray, List.getElem_cons_zero, List.getElem_cons_succ, List.setIfInBounds_toArray, List.set_cons_zero, List.set_cons_succ]
    refine wpAnyK_take (i := 7) (v := .int .i64 i) rfl (by kernel_rfl) (by kernel_rfl) (by kernel_rfl) (by kernel_rfl) (fun _ _ _ h => h) (Or.inl ⟨by rfl, fun w' hSw => ?_⟩) (by assumption) ?_
    · (try dsimp only at hSw); have z_0 := keepc hSw x0; have z_1 := keepc hSw x1; have z_2 := keepc hSw x2; have z_3 := keepc hSw n2; have z_4 := keepc hSw y1; have z_5 := keepc hSw y2; have z_6 := keepc hSw y4; have z_7 := keepc hSw z5; go_simp
    try simp only [Act.put, List.getElem_toArray, List.getElem_cons_zero, List.getElem_cons_succ, List.setIfInBounds_toArray, List.set_cons_zero, List.set_cons_succ]
    refine wpAnyK_take (i := 8) (v := .agg #[.slice ma d.zs.length mc, .slice (some ⟨bb, bo, none⟩) C bc, .slice ra C rc]) rfl (by kernel_rfl) (by kernel_rfl) (by kernel_rfl) (by kernel_rfl) (fun _ _ _ h => h) (Or.inl ⟨by rfl, fun w' hSw => ?_⟩) (by assumption) ?_
    · (try dsimp only at hSw); have z_0 := keepc hSw x0; have z_1 := keepc hSw x1; have z_2 := keepc hSw x2; have z_3 := keepc hSw n2; have z_4 := keepc hSw y1; have z_5 := keepc hSw y2; have z_6 := keepc hSw y4; have z_7 := keepc hSw z5; go_simp
    try simp only [Act.put, List.getElem_toArray, List.getElem_cons_zero, List.getElem_cons_succ, List.setIfInBounds_toArray, List.set_cons_zero, List.set_cons_succ]
    refine wpAnyK_take (i := 9) (v := .pointer (some ⟨w.heap.size + 1, 1, none⟩)) rfl (by kernel_rfl) (by kernel_rfl) (by kernel_rfl) (by kernel_rfl) (fun _ _ _ h => h) (Or.inl ⟨by rfl, fun w' hSw => ?_⟩) (by assumption) ?_
    · (try dsimp only at hSw); have z_0 := keepc hSw x0; have z_1 := keepc hSw x1; have z_2 := keepc hSw x2; have z_3 := keepc hSw n2; have z_4 := keepc hSw y1; have z_5 := keepc hSw y2; have z_6 := keepc hSw y4; have z_7 := keepc hSw z5; go_simp
    try simp only [Act.put, List.getElem_toArray, List.getElem_cons_zero, List.getElem_cons_succ, List.setIfInBounds_toArray, List.set_cons_zero, List.set_cons_succ]
    refine wpAnyK_take (i := 10) (v := .int .i64 c) rfl (by kernel_rfl) (by kernel_rfl) (by kernel_rfl) (by kernel_rfl) (fun _ _ _ h => h) (Or.inl ⟨by rfl, fun w' hSw => ?_⟩) (by assumption) ?_
    · (try dsimp only at hSw); have z_0 := keepc hSw x0; have z_1 := keepc hSw x1; have z_2 := keepc hSw x2; have z_3 := keepc hSw n2; have z_4 := keepc hSw y1; have z_5 := keepc hSw y2; have z_6 := keepc hSw y4; have z_7 := keepc hSw z5; go_simp
    try simp only [Act.put, List.getElem_toArray, List.getElem_cons_zero, List.getElem_cons_succ, List.setIfInBounds_toArray, List.set_cons_zero, List.set_cons_succ]
    refine wpAnyK_take (i := 11) (v := .pointer (some ⟨w.heap.size + 1, 2, none⟩)) rfl (by kernel_rfl) (by kernel_rfl) (by kernel_rfl) (by kernel_rfl) (fun _ _ _ h => h) (Or.inl ⟨by rfl, fun w' hSw => ?_⟩) (by assumption) ?_
    · (try dsimp only at hSw); have z_0 := keepc hSw x0; have z_1 := keepc hSw x1; have z_2 := keepc hSw x2; have z_3 := keepc hSw n2; have z_4 := keepc hSw y1; have z_5 := keepc hSw y2; have z_6 := keepc hSw y4; have z_7 := keepc hSw z5; go_simp
    try simp only [Act.put, List.getElem_toArray, List.getElem_cons_zero, List.getElem_cons_succ, List.setIfInBounds_toArray, List.set_cons_zero, List.set_cons_succ]
    refine wpAnyK_take (i := 12) (v := .int .i64 v) rfl (by kernel_rfl) (by kernel_rfl) (by kernel_rfl) (by kernel_rfl) (fun _ _ _ h => h) (Or.inl ⟨by rfl, fun w' hSw => ?_⟩) (by assumption) ?_
    · (try dsimp only at hSw); have z_0 := keepc hSw x0; have z_1 := keepc hSw x1; have z_2 := keepc hSw x2; have z_3 := keepc hSw n2; have z_4 := keepc hSw y1; have z_5 := keepc hSw y2; have z_6 := keepc hSw y4; have z_7 := keepc hSw z5; go_simp
    try simp only [Act.put, List.getElem_toArray, List.getElem_cons_zero, List.getElem_cons_succ, List.setIfInBounds_toArray, List.set_cons_zero, List.set_cons_succ]
    refine wpAnyK_one (i := 13) (by kernel_rfl) rfl (fun K hK => ?_)
    go_simp
    refine (hse _ (HTV.out.below ((Below.refl _ _).drew))).mono ?_
    rintro e w3 ⟨rfl, hb3⟩
    have hb3' : Below w2.heap.size w2 w3 := ((Below.refl _ _).drew).trans (hb3.mono (Nat.le_refl _))
    refine hK.out _ _ (fun _ => hb3') (fun hH => ?_)
    clear hK K hHeld
    have hHeld := hH (by decide)
    clear hH
    try simp only [Act.put, List.getElem_toArray, List.getElem_cons_zero, List.getElem_cons_succ, List.setIfInBounds_toArray, List.set_cons_zero, List.set_cons_succ]
    refine wpAnyK_take (i := 14) (v := .pointer (some ⟨g, off + i, none⟩)) rfl (by kernel_rfl) (by kernel_rfl) (by kernel_rfl) (by kernel_rfl) (fun _ _ _ h => h) (Or.inl ⟨by rfl, fun w' hSw => ?_⟩) (by assumption) ?_
    · (try dsimp only at hSw); have z_0 := keepc hSw x0; have z_1 := keepc hSw x1; have z_2 := keepc hSw x2; have z_3 := keepc hSw n2; have z_4 := keepc hSw y1; have z_5 := keepc hSw y2; have z_6 := keepc hSw y4; have z_7 := keepc hSw z5; go_simp
    try simp only [Act.put, List.getElem_toArray, List.getElem_cons_zero, List.getElem_cons_succ, List.setIfInBounds_toArray, List.set_cons_zero, List.set_cons_succ]
    have ta2 := (HTA.out.below hb3').setR (x := sv) hcl ev hil
    have u5 := keepc hb3' z6
    have f5 : w3.frozen? ⟨g, off + i, none⟩ = false := (gg2.below hb3').facts.1 _
    have hB4 := hB3.trans (hb3'.mono hB3.size)
    have hB5 := hB4.setCell (p := ⟨g, off + i, none⟩) (by show w.heap.size ≤ g; omega) (.int .i64 sv)
    have k3' : (w3.setCell ⟨g, off + i, none⟩ (.int .i64 sv)).heap[w.heap.size + 1 + 1]? = _ := (heap_setCell_other _ _ _ _ (by show w.heap.size + 1 + 1 ≠ g; omega)).trans (heap_b h3 hb3')
    have hng : w1.heap.size ≠ g := fun q => by rw [← q, tnb] at gg3; omega
    have k4' : (w3.setCell ⟨g, off + i, none⟩ (.int .i64 sv)).heap[w1.heap.size]? = _ := (heap_setCell_other _ _ _ _ hng).trans (heap_b h4 hb3')
    refine wpAnyK_one (i := 15) (by kernel_rfl) rfl (fun K hK => ?_)
    clear x0 x1 x2 n0 n1 n2 y0 y1 y2 y3 y4 z5 z6 r0 r1 r2 q0 fr fn tc2 h1 h2 h3 h4 hsr2 HTA HTV hb3 hB4
    go_simp
    refine hK.out _ _ (fun h => absurd rfl h) (fun _ => ?_)
    clear hK K hHeld u5 f5 hb3'
    try simp only [Act.put, List.getElem_toArray, List.getElem_cons_zero, List.getElem_cons_succ, List.setIfInBounds_toArray, List.set_cons_zero, List.set_cons_succ]
    refine wpAnyK_done (by kernel_rfl) ?_
    obtain ⟨V, hV⟩ : ∃ V, w3.setCell ⟨g, off + i, none⟩ (.int .i64 sv) = V := ⟨_, rfl⟩
    rw [hV] at ta2 hB5 k3' k4' ⊢
    clear hV
    rw [← HSV.out] at ta2
    obtain ⟨fr, r0, r1, r2⟩ := row3_facts k3'
    obtain ⟨_, n0, n1, n2⟩ := row3_facts k4'
    have HZ := hide (HZZ.out)
    have HF := hide (And.intro (fin3 (RB := w.heap.size + 1 + 1) (d := nxt d C 2 c v vl i) (by rw [HZ.out.2]; exact ta2) (by omega) (by omega) (hB5) (by omega)) (HCP.out))
    clear ta2 hB5 k3' k4' HZZ
    go_wp2
    refine bodyPost_ret (v := .tuple #[.agg #[.slice xm d.zs.length ym, .slice xb C yb, .slice (some ⟨sb, so, none⟩) C yr], .int .i64 0]) (by simp [results, Try.results49, go_sem, r0, r1, r2]) rfl ⟨_, _, _, _, _, _, ?_, HF.out.1.1, HF.out.1.2, HF.out.2⟩
    rw [HZ.out.1]
  have q2 : (k == 2) = false := by simpa using e2
  by_cases e3 : k = 3
  · subst e3
    clear e1 e2 q1 q2
    obtain ⟨zz1, zz2⟩ := ok3 (d := d) hf
    simp only [Int.toNat_natCast] at zz1
    by_cases hL0 : 0 < d.L c
    · rw [if_pos hL0] at zz1
      have hdL : decide ((0 : Int) < (d.L c : Int)) = true := by simp; omega
      have HZ := hide (And.intro zz1 zz2)
      have HF := hide (And.intro (fin3 (RB := w.heap.size + 1 + 1) (d := nxt d C 3 c va vl rg) (by rw [HZ.out.2]; exact tc2.ta) (by omega) (by omega) (hB3) (by omega)) HCP.out)
      clear tc2 hB3 h1 h2 h3 h4 zz1 zz2
      go_wp2
      refine bodyPost_ret (v := .tuple #[.agg #[.slice xm d.zs.length ym, .slice xb C yb, .slice xr C yr], .int .i64 4]) (by simp [results, Try.results49, go_sem, r0, r1, r2]) rfl ⟨_, _, _, _, _, _, ?_, HF.out.1.1, HF.out.1.2, HF.out.2⟩
      rw [HZ.out.1]
    · rw [if_neg hL0] at zz1
      have hdL : decide ((0 : Int) < (d.L c : Int)) = false := by simp; omega
      have HZ := hide (And.intro zz1 zz2)
      have HF := hide (And.intro (fin3 (RB := w.heap.size + 1 + 1) (d := nxt d C 3 c va vl rg) (by rw [HZ.out.2]; exact tc2.ta) (by omega) (by omega) (hB3) (by omega)) HCP.out)
      clear tc2 hB3 h1 h2 h3 h4 zz1 zz2
      go_wp2
      refine bodyPost_ret (v := .tuple #[.agg #[.slice xm d.zs.length ym, .slice xb C yb, .slice xr C yr], .int .i64 0]) (by simp [results, Try.results49, go_sem, r0, r1, r2]) rfl ⟨_, _, _, _, _, _, ?_, HF.out.1.1, HF.out.1.2, HF.out.2⟩
      rw [HZ.out.1]
  have q3 : (k == 3) = false := by simpa using e3
  have e4 : k = 4 := fm_four hf e1 e2 e3
  subst e4
  clear e1 e2 e3 q1 q2 q3
  obtain ⟨o1, o2⟩ := ok4 (d := d) hf
  simp only [Int.toNat_natCast] at o1 o2
  by_cases hL0 : d.L c = 0
  · have hdL : ((d.L c : Int) == 0) = true := by simp; omega
    have HZ := hide (o1 hL0)
    have HF := hide (And.intro (fin3 (RB := w.heap.size + 1 + 1) (d := nxt d C 4 c va vl rg) (by rw [HZ.out.2]; exact tc2.ta) (by omega) (by omega) (hB3) (by omega)) HCP.out)
    clear tc2 hB3 h1 h2 h3 h4
    go_wp2
    refine bodyPost_ret (v := .tuple #[.agg #[.slice xm d.zs.length ym, .slice xb C yb, .slice xr C yr], .int .i64 5]) (by simp [results, Try.results49, go_sem, r0, r1, r2]) rfl ⟨_, _, _, _, _, _, ?_, HF.out.1.1, HF.out.1.2, HF.out.2⟩
    rw [HZ.out.1]
  have hpos : 0 < d.L c := by omega
  have hdL : ((d.L c : Int) == 0) = false := by simp; omega
  have hv0 := (HPC.out.2.1 0 hpos).1
  obtain ⟨v, hvv⟩ : ∃ v : Nat, d.F c 0 0 = v := ⟨(d.F c 0 0).toNat, by omega⟩
  have HV3 : Hid (v < d.zs.length) := hide (by have := HZ3.out; omega)
  have HO2 := hide (o2 hpos)
  clear o1 o2
  have hvt : (d.F c 0 0).toNat = v := by omega
  rw [hvt] at HO2
  clear hvt
  obtain ⟨ia', ic', eia, hcell0⟩ := HSR.out
  obtain ⟨rfl, rfl⟩ : ia = ia' ∧ ic = ic' := by simp only [Value.slice.injEq] at eia; exact ⟨eia.1, eia.2.2⟩
  clear eia
  obtain ⟨g, off, rfl, hcell⟩ := hcell0 hpos
  clear hcell0
  have w0 := hcell 0 hpos 0 (by decide)
  have w1' := hcell 0 hpos 1 (by decide)
  simp only [Nat.zero_mul, Nat.add_zero] at w0 w1'
  have hgl : g < w.heap.size := by have := World.block_lt_of_cell? _ _ w0; simpa using this
  have p0 := Below.keep hB3 _ _ w0
  have p1 := Below.keep hB3 _ _ w1'
  rw [hvv] at p0
  generalize hx1 : d.F c 0 1 = xv at p1
  have HX1 := hide hx1
  clear hx1 w0 w1' hcell hvv hv0
  obtain ⟨pb, po, pc, epb, pb1, pb2, pb3, pcell⟩ := tc2.ta.bufAt (by omega)
  obtain ⟨rfl, rfl⟩ : xb = some ⟨pb, po, none⟩ ∧ yb = pc := by simp only [Value.slice.injEq] at epb; exact ⟨epb.1, epb.2.2⟩
  clear epb
  obtain ⟨mb, mo, mcc, emb, mb1, mb2, mb3, mcell⟩ := tc2.ta.memAt (by have := HV3.out; omega)
  obtain ⟨rfl, rfl⟩ : xm = some ⟨mb, mo, none⟩ ∧ ym = mcc := by simp only [Value.slice.injEq] at emb; exact ⟨emb.1, emb.2.2⟩
  clear emb
  have z0 := mcell v HV3.out
  have f0 := mb2.facts.1 (mo + v)
  have hm0 : (0 : Int) ≤ (v : Int) := by omega
  have hm1 : (v : Int) < (d.zs.length : Int) := by have := HV3.out; omega
  have hn0 : (0 : Int) < (d.L c : Int) := by omega
  have hn1 : (1 : Int) ≤ (d.L c : Int) := by omega
  have hn2 : (d.L c : Int) ≤ (ic : Int) := by have := HIC.out; omega
  clear mcell pcell
  go_wp2
  refine wp_region_but (z := 11) (S := fun W' => Below w2.heap.size w2 W') (by kernel_rfl) ((Below.refl _ _).drew) (fun hHeld => ?_)
  refine wpAnyK_take (i := 0) (v := .pointer (some ⟨w1.heap.size, 0, none⟩)) rfl (by kernel_rfl) (by kernel_rfl) (by kernel_rfl) (by kernel_rfl) (fun _ _ _ h => h) (Or.inl ⟨by rfl, fun w' hSw => ?_⟩) (by assumption) ?_
  · (try dsimp only at hSw); have z_0 := keepc hSw n0; have z_1 := keepc hSw p0; have z_2 := keepc hSw p1; have z_3 := keepc hSw y1; have z_4 := keepc hSw q0; go_simp
  try simp only [Act.put, List.getElem_toArray, List.getElem_cons_zero, List.getElem_cons_succ, List.setIfInBounds_toArray, List.set_cons_zero, List.set_cons_succ]
  refine wpAnyK_take (i := 1) (v := .slice (some ⟨mb, mo, none⟩) d.zs.length ym) rfl (by kernel_rfl) (by kernel_rfl) (by kernel_rfl) (by kernel_rfl) (fun _ _ _ h => h) (Or.inl ⟨by rfl, fun w' hSw => ?_⟩) (by assumption) ?_
  · (try dsimp only at hSw); have z_0 := keepc hSw n0; have z_1 := keepc hSw p0; have z_2 := keepc hSw p1; have z_3 := keepc hSw y1; have z_4 := keepc hSw q0; go_simp
  try simp only [Act.put, List.getElem_toArray, List.getElem_cons_zero, List.getElem_cons_succ, List.setIfInBounds_toArray, List.set_cons_zero, List.set_cons_succ]
  refine wpAnyK_take (i := 2) (v := .slice (some ⟨g, off, none⟩) (d.L c) ic) rfl (by kernel_rfl) (by kernel_rfl) (by kernel_rfl) (by kernel_rfl) (fun _ _ _ h => h) (Or.inl ⟨by rfl, fun w' hSw => ?_⟩) (by assumption) ?_
  · (try dsimp only at hSw); have z_0 := keepc hSw n0; have z_1 := keepc hSw p0; have z_2 := keepc hSw p1; have z_3 := keepc hSw y1; have z_4 := keepc hSw q0; go_simp
  try simp only [Act.put, List.getElem_toArray, List.getElem_cons_zero, List.getElem_cons_succ, List.setIfInBounds_toArray, List.set_cons_zero, List.set_cons_succ]
  refine wpAnyK_take (i := 3) (v := .pointer (some ⟨g, off, none⟩)) rfl (by kernel_rfl) (by kernel_rfl) (by kernel_rfl) (by kernel_rfl) (fun _ _ _ h => h) (Or.inl ⟨by rfl, fun w' hSw => ?_⟩) (by assumption) ?_
  · (try dsimp only at hSw); have z_0 := keepc hSw n0; have z_1 := keepc hSw p0; have z_2 := keepc hSw p1; have z_3 := keepc hSw y1; have z_4 := keepc hSw q0; go_simp
  try simp only [Act.put, List.getElem_toArray, List.getElem_cons_zero, List.getElem_cons_succ, List.setIfInBounds_toArray, List.set_cons_zero, List.set_cons_succ]
  refine wpAnyK_take (i := 4) (v := .pointer (some ⟨g, off, none⟩)) rfl (by kernel_rfl) (by kernel_rfl) (by kernel_rfl) (by kernel_rfl) (fun _ _ _ h => h) (Or.inl ⟨by rfl, fun w' hSw => ?_⟩) (by assumption) ?_
  · (try dsimp only at hSw); have z_0 := keepc hSw n0; have z_1 := keepc hSw p0; have z_2 := keepc hSw p1; have z_3 := keepc hSw y1; have z_4 := keepc hSw q0; go_simp
  try simp only [Act.put, List.getElem_toArray, List.getElem_cons_zero, List.getElem_cons_succ, List.setIfInBounds_toArray, List.set_cons_zero, List.set_cons_succ]
  refine wpAnyK_take (i := 5) (v := .int .i64 v) rfl (by kernel_rfl) (by kernel_rfl) (by kernel_rfl) (by kernel_rfl) (fun _ _ _ h => h) (Or.inl ⟨by rfl, fun w' hSw => ?_⟩) (by assumption) ?_
  · (try dsimp only at hSw); have z_0 := keepc hSw n0; have z_1 := keepc hSw p0; have z_2 := keepc hSw p1; have z_3 := keepc hSw y1; have z_4 := keepc hSw q0; go_simp
  try simp only [Act.put, List.getElem_toArray, List.getElem_cons_zero, List.getElem_cons_succ, List.setIfInBounds_toArray, List.set_cons_zero, List.set_cons_succ]
  refine wpAnyK_take (i := 6) (v := .slice (some ⟨g, off, none⟩) (d.L c) ic) rfl (by kernel_rfl) (by kernel_rfl) (by kernel_rfl) (by kernel_rfl) (fun _ _ _ h => h) (Or.inl ⟨by rfl, fun w' hSw => ?_⟩) (by assumption) ?_
  · (try dsimp only at hSw); have z_0 := keepc hSw n0; have z_1 := keepc hSw p0; have z_2 := keepc hSw p1; have z_3 := keepc hSw y1; have z_4 := keepc hSw q0; go_simp
  try simp only [Act.put, List.getElem_toArray, List.getElem_cons_zero, List.getElem_cons_succ, List.setIfInBounds_toArray, List.set_cons_zero, List.set_cons_succ]
  refine wpAnyK_take (i := 7) (v := .pointer (some ⟨g, off, none⟩)) rfl (by kernel_rfl) (by kernel_rfl) (by kernel_rfl) (by kernel_rfl) (fun _ _ _ h => h) (Or.inl ⟨by rfl, fun w' hSw => ?_⟩) (by assumption) ?_
  · (try dsimp only at hSw); have z_0 := keepc hSw n0; have z_1 := keepc hSw p0; have z_2 := keepc hSw p1; have z_3 := keepc hSw y1; have z_4 := keepc hSw q0; go_simp
  try simp only [Act.put, List.getElem_toArray, List.getElem_cons_zero, List.getElem_cons_succ, List.setIfInBounds_toArray, List.set_cons_zero, List.set_cons_succ]
  refine wpAnyK_take (i := 8) (v := .pointer (some ⟨g, off + 1, none⟩)) rfl (by kernel_rfl) (by kernel_rfl) (by kernel_rfl) (by kernel_rfl) (fun _ _ _ h => h) (Or.inl ⟨by rfl, fun w' hSw => ?_⟩) (by assumption) ?_
  · (try dsimp only at hSw); have z_0 := keepc hSw n0; have z_1 := keepc hSw p0; have z_2 := keepc hSw p1; have z_3 := keepc hSw y1; have z_4 := keepc hSw q0; go_simp
  try simp only [Act.put, List.getElem_toArray, List.getElem_cons_zero, List.getElem_cons_succ, List.setIfInBounds_toArray, List.set_cons_zero, List.set_cons_succ]
  refine wpAnyK_take (i := 9) (v := .int .i64 xv) rfl (by kernel_rfl) (by kernel_rfl) (by kernel_rfl) (by kernel_rfl) (fun _ _ _ h => h) (Or.inl ⟨by rfl, fun w' hSw => ?_⟩) (by assumption) ?_
  · (try dsimp only at hSw); have z_0 := keepc hSw n0; have z_1 := keepc hSw p0; have z_2 := keepc hSw p1; have z_3 := keepc hSw y1; have z_4 := keepc hSw q0; go_simp
  try simp only [Act.put, List.getElem_toArray, List.getElem_cons_zero, List.getElem_cons_succ, List.setIfInBounds_toArray, List.set_cons_zero, List.set_cons_succ]
  refine wpAnyK_take (i := 10) (v := .pointer (some ⟨mb, mo + v, none⟩)) rfl (by kernel_rfl) (by kernel_rfl) (by kernel_rfl) (by kernel_rfl) (fun _ _ _ h => h) (Or.inl ⟨by rfl, fun w' hSw => ?_⟩) (by assumption) ?_
  · (try dsimp only at hSw); have z_0 := keepc hSw n0; have z_1 := keepc hSw p0; have z_2 := keepc hSw p1; have z_3 := keepc hSw y1; have z_4 := keepc hSw q0; go_simp
  try simp only [Act.put, List.getElem_toArray, List.getElem_cons_zero, List.getElem_cons_succ, List.setIfInBounds_toArray, List.set_cons_zero, List.set_cons_succ]
  refine wpAnyK_one (i := 11) (by kernel_rfl) rfl (fun K hK => ?_)
  go_simp
  refine hK.out _ _ (fun h => absurd rfl h) (fun _ => ?_)
  clear hK K hHeld
  try simp only [Act.put, List.getElem_toArray, List.getElem_cons_zero, List.getElem_cons_succ, List.setIfInBounds_toArray, List.set_cons_zero, List.set_cons_succ]
  refine wpAnyK_done (by kernel_rfl) ?_
  have ta2 : Ta (w2.setCell ⟨mb, mo + v, none⟩ (.int .i64 xv)).drew (w.heap.size + 1 + 1 + 1) (.slice (some ⟨mb, mo, none⟩) d.zs.length ym) (.slice (some ⟨pb, po, none⟩) C yb) (.slice xr C yr) (d.zs.set v xv) C d.L d.F C d.Z vb vr tagN := (tc2.ta.setM (x := xv) HV3.out).below ((Below.refl _ _).drew)
  have hB4 : Below w.heap.size w (w2.setCell ⟨mb, mo + v, none⟩ (.int .i64 xv)).drew := (hB3.setCell (p := ⟨mb, mo + v, none⟩) (by show w.heap.size ≤ mb; omega) _).drew
  have hnm : w1.heap.size ≠ mb := fun q => by rw [← q, tnb] at mb3; omega
  have k2 : (w2.setCell ⟨mb, mo + v, none⟩ (.int .i64 xv)).drew.heap[w.heap.size + 1]? = _ := (heap_setCell_other _ _ _ _ (by show w.heap.size + 1 ≠ mb; omega)).trans h2
  have k3 : (w2.setCell ⟨mb, mo + v, none⟩ (.int .i64 xv)).drew.heap[w.heap.size + 1 + 1]? = _ := (heap_setCell_other _ _ _ _ (by show w.heap.size + 1 + 1 ≠ mb; omega)).trans h3
  have k4 : (w2.setCell ⟨mb, mo + v, none⟩ (.int .i64 xv)).drew.heap[w1.heap.size]? = _ := (heap_setCell_other _ _ _ _ hnm).trans h4
  have hsr4 := HSR.out.below hB4
  have pb4 := ta2.bb pb po _ yb rfl (by omega)
  obtain ⟨V, hV⟩ : ∃ V, (w2.setCell ⟨mb, mo + v, none⟩ (.int .i64 xv)).drew = V := ⟨_, rfl⟩
  rw [hV] at ta2 hB4 k2 k3 k4 hsr4 pb4 ⊢
  clear hV tc2 hB3 h1 h2 h3 h4 x0 x1 x2 y0 y1 y2 y3 y4 r0 r1 r2 n0 n1 n2 q0 p0 p1 z0 f0 hsr2 fr fn mb2 pb2
  have n1 : V.cell? ⟨w1.heap.size, 1, none⟩ = some (.slice (some ⟨pb, po, none⟩) C yb) := (cell_of_row _ _ 1 _ _ _ k4).trans rfl
  have y1 : V.cell? ⟨w.heap.size + 1, 1, none⟩ = some (.int .i64 c) := (cell_of_row _ _ 1 _ _ _ k2).trans rfl
  have pf := pb4.2.1.facts.1 (po + c)
  obtain ⟨po5, pc5⟩ := pb4.2.1.facts.2 (po + c) (by omega)
  go_wp2
  by_cases hic : ic = 1
  · subst hic
    refine wp_region_but (z := 9) (S := fun W' => Below V.heap.size V W') (by kernel_rfl) ((Below.refl _ _).drew) (fun hHeld => ?_)
    refine wpAnyK_take (i := 0) (v := .pointer (some ⟨w1.heap.size, 1, none⟩)) rfl (by kernel_rfl) (by kernel_rfl) (by kernel_rfl) (by kernel_rfl) (fun _ _ _ h => h) (Or.inl ⟨by rfl, fun w' hSw => ?_⟩) (by assumption) ?_
    · (try dsimp only at hSw); have z_0 := keepc hSw n1; have z_1 := keepc hSw y1; go_simp
    try simp only [Act.put, List.getElem_toArray, List.getElem_cons_zero, List.getElem_cons_succ, List.setIfInBounds_toArray, List.set_cons_zero, List.set_cons_succ]
    refine wpAnyK_take (i := 1) (v := .slice (some ⟨pb, po, none⟩) C yb) rfl (by kernel_rfl) (by kernel_rfl) (by kernel_rfl) (by kernel_rfl) (fun _ _ _ h => h) (Or.inl ⟨by rfl, fun w' hSw => ?_⟩) (by assumption) ?_
    · (try dsimp only at hSw); have z_0 := keepc hSw n1; have z_1 := keepc hSw y1; go_simp
    try simp only [Act.put, List.getElem_toArray, List.getElem_cons_zero, List.getElem_cons_succ, List.setIfInBounds_toArray, List.set_cons_zero, List.set_cons_succ]
    refine wpAnyK_take (i := 2) (v := .pointer (some ⟨w.heap.size + 1, 1, none⟩)) rfl (by kernel_rfl) (by kernel_rfl) (by kernel_rfl) (by kernel_rfl) (fun _ _ _ h => h) (Or.inl ⟨by rfl, fun w' hSw => ?_⟩) (by assumption) ?_
    · (try dsimp only at hSw); have z_0 := keepc hSw n1; have z_1 := keepc hSw y1; go_simp
    try simp only [Act.put, List.getElem_toArray, List.getElem_cons_zero, List.getElem_cons_succ, List.setIfInBounds_toArray, List.set_cons_zero, List.set_cons_succ]
    refine wpAnyK_take (i := 3) (v := .int .i64 c) rfl (by kernel_rfl) (by kernel_rfl) (by kernel_rfl) (by kernel_rfl) (fun _ _ _ h => h) (Or.inl ⟨by rfl, fun w' hSw => ?_⟩) (by assumption) ?_
    · (try dsimp only at hSw); have z_0 := keepc hSw n1; have z_1 := keepc hSw y1; go_simp
    try simp only [Act.put, List.getElem_toArray, List.getElem_cons_zero, List.getElem_cons_succ, List.setIfInBounds_toArray, List.set_cons_zero, List.set_cons_succ]
    refine wpAnyK_take (i := 5) (v := .slice (some ⟨g, off, none⟩) (d.L c) 1) rfl (by kernel_rfl) (by kernel_rfl) (by kernel_rfl) (by kernel_rfl) (fun _ _ _ h => h) (Or.inl ⟨by rfl, fun w' hSw => ?_⟩) (by assumption) ?_
    · (try dsimp only at hSw); have z_0 := keepc hSw n1; have z_1 := keepc hSw y1; go_simp
    try simp only [Act.put, List.getElem_toArray, List.getElem_cons_zero, List.getElem_cons_succ, List.setIfInBounds_toArray, List.set_cons_zero, List.set_cons_succ]
    refine wpAnyK_take (i := 6) (v := .slice (some ⟨g, off, none⟩) 0 0) rfl (by kernel_rfl) (by kernel_rfl) (by kernel_rfl) (by kernel_rfl) (fun _ _ _ h => h) (Or.inl ⟨by rfl, fun w' hSw => ?_⟩) (by assumption) ?_
    · (try dsimp only at hSw); have z_0 := keepc hSw n1; have z_1 := keepc hSw y1; go_simp <;> (have hLq := HIC.out; omega)
    try simp only [Act.put, List.getElem_toArray, List.getElem_cons_zero, List.getElem_cons_succ, List.setIfInBounds_toArray, List.set_cons_zero, List.set_cons_succ]
    refine wpAnyK_one (i := 4) (by kernel_rfl) rfl (fun K hK => ?_)
    go_simp
    have hA0 : Below V.heap.size V (V.drew.alloc (.cells #[] 103)) := ((Below.refl _ _).drew).alloc (Nat.le_refl _) _
    refine hK.out _ _ (fun _ => hA0) (fun hH => ?_)
    clear hK K hHeld
    have hHeld := hH (by decide)
    clear hH
    try simp only [Act.put, List.getElem_toArray, List.getElem_cons_zero, List.getElem_cons_succ, List.setIfInBounds_toArray, List.set_cons_zero, List.set_cons_succ]
    obtain ⟨u, w3, hrun, hu, hb3⟩ := append_emptyS V.drew (some ⟨g, off, none⟩) 0 0 (fun j => d.F c (j + 1)) 90 (⟨_, 0, rfl, fun hp => absurd hp (by omega)⟩) (by have := HPC.out.1; omega)
    have hb3' : Below V.heap.size V w3 := ((Below.refl _ _).drew).trans (hb3.mono (Nat.le_refl _))
    refine wpAnyK_one (i := 7) (by kernel_rfl) rfl (fun K hK => ?_)
    refine step_append_run (by rfl) _ _ 90 (by rfl) (by rfl) (by rfl) hrun ?_
    refine hK.out _ _ (fun _ => hb3') (fun hH => ?_)
    clear hK K hHeld
    have hHeld := hH (by decide)
    clear hH
    try simp only [Act.put, List.getElem_toArray, List.getElem_cons_zero, List.getElem_cons_succ, List.setIfInBounds_toArray, List.set_cons_zero, List.set_cons_succ]
    clear hrun hA0
    refine wpAnyK_take (i := 8) (v := .pointer (some ⟨pb, po + c, none⟩)) rfl (by kernel_rfl) (by kernel_rfl) (by kernel_rfl) (by kernel_rfl) (fun _ _ _ h => h) (Or.inl ⟨by rfl, fun w' hSw => ?_⟩) (by assumption) ?_
    · (try dsimp only at hSw); have z_0 := keepc hSw n1; have z_1 := keepc hSw y1; go_simp
    try simp only [Act.put, List.getElem_toArray, List.getElem_cons_zero, List.getElem_cons_succ, List.setIfInBounds_toArray, List.set_cons_zero, List.set_cons_succ]
    have hLc : d.L c - 1 = 0 := by have := HIC.out; omega
    obtain ⟨ua, uc, rfl⟩ := own_form hu
    obtain ⟨tag3, ta3⟩ := ta2.putB (c := c) (row := none) (n' := d.L c - 1) (f' := fun j => d.F c (j + 1)) hcl (grown_any hb3') (fun x e => by cases e) (by rw [hLc]; exact Orow.sr hu) (fun x off' n' cap' e hh => by
      obtain ⟨zz1, zz2⟩ := own_wc hu x off' n' cap' e
      have hq := hB4.size
      refine ⟨?_, by rw [hLc]; exact zz2, .inr zz1⟩
      have zz3 : V.heap.size ≤ x := zz1
      have := lt_of_block k4
      omega) (by have := lt_of_block k4; omega)
    have HCU := hide (own_cap hu)
    have f5 : w3.frozen? ⟨pb, po + c, none⟩ = false := (pb4.2.1.below hb3').facts.1 _
    have u5 := keepc hb3' pc5
    have hB5 := (hB4.trans (hb3'.mono hB4.size)).setCell (p := ⟨pb, po + c, none⟩) (by show w.heap.size ≤ pb; omega) (.slice ua 0 uc)
    have hnpb : w1.heap.size ≠ pb := fun q => by have := pb4.2.2; rw [← q, tnb] at this; omega
    have k3' : (w3.setCell ⟨pb, po + c, none⟩ (.slice ua 0 uc)).heap[w.heap.size + 1 + 1]? = _ := (heap_setCell_other _ _ _ _ (by show w.heap.size + 1 + 1 ≠ pb; omega)).trans (heap_b k3 hb3')
    have k4' : (w3.setCell ⟨pb, po + c, none⟩ (.slice ua 0 uc)).heap[w1.heap.size]? = _ := (heap_setCell_other _ _ _ _ hnpb).trans (heap_b k4 hb3')
    clear n1 y1 hu ta2 k2 k3 k4 hb3 hsr4
    refine wpAnyK_one (i := 9) (by kernel_rfl) rfl (fun K hK => ?_)
    go_simp
    refine hK.out _ _ (fun h => absurd rfl h) (fun _ => ?_)
    clear hK K hHeld u5 f5 hb3' hB4 pf pc5
    try simp only [Act.put, List.getElem_toArray, List.getElem_cons_zero, List.getElem_cons_succ, List.setIfInBounds_toArray, List.set_cons_zero, List.set_cons_succ]
    refine wpAnyK_done (by kernel_rfl) ?_
    obtain ⟨Q, hQ⟩ : ∃ Q, w3.setCell ⟨pb, po + c, none⟩ (.slice ua 0 uc) = Q := ⟨_, rfl⟩
    rw [hQ] at ta3 hB5 k3' k4' ⊢
    clear hQ
    rw [← HX1.out] at ta3
    obtain ⟨fr, r0, r1, r2⟩ := row3_facts k3'
    obtain ⟨_, n0, n1, n2⟩ := row3_facts k4'
    have HZ := hide (HO2.out)
    have HF := hide (And.intro (fin3 (RB := w.heap.size + 1 + 1) (d := nxt d C 4 c va vl rg) (by rw [HZ.out.2]; exact ta3) (by omega) (by omega) (hB5) (by omega)) ((Cpd.upd (c := c) HCP.out HCU.out)))
    clear ta3 hB5 k3' k4' HO2
    go_wp2
    refine bodyPost_ret (v := .tuple #[.agg #[.slice (some ⟨mb, mo, none⟩) d.zs.length ym, .slice (some ⟨pb, po, none⟩) C yb, .slice xr C yr], .int .i64 0]) (by simp [results, Try.results49, go_sem, r0, r1, r2]) rfl ⟨_, _, _, _, _, _, ?_, HF.out.1.1, HF.out.1.2, HF.out.2⟩
    rw [HZ.out.1]
  · refine wp_region_but (z := 9) (S := fun W' => Below V.heap.size V W') (by kernel_rfl) ((Below.refl _ _).drew) (fun hHeld => ?_)
    refine wpAnyK_take (i := 0) (v := .pointer (some ⟨w1.heap.size, 1, none⟩)) rfl (by kernel_rfl) (by kernel_rfl) (by kernel_rfl) (by kernel_rfl) (fun _ _ _ h => h) (Or.inl ⟨by rfl, fun w' hSw => ?_⟩) (by assumption) ?_
    · (try dsimp only at hSw); have z_0 := keepc hSw n1; have z_1 := keepc hSw y1; go_simp
    try simp only [Act.put, List.getElem_toArray, List.getElem_cons_zero, List.getElem_cons_succ, List.setIfInBounds_toArray, List.set_cons_zero, List.set_cons_succ]
    refine wpAnyK_take (i := 1) (v := .slice (some ⟨pb, po, none⟩) C yb) rfl (by kernel_rfl) (by kernel_rfl) (by kernel_rfl) (by kernel_rfl) (fun _ _ _ h => h) (Or.inl ⟨by rfl, fun w' hSw => ?_⟩) (by assumption) ?_
    · (try dsimp only at hSw); have z_0 := keepc hSw n1; have z_1 := keepc hSw y1; go_simp
    try simp only [Act.put, List.getElem_toArray, List.getElem_cons_zero, List.getElem_cons_succ, List.setIfInBounds_toArray, List.set_cons_zero, List.set_cons_succ]
    refine wpAnyK_take (i := 2) (v := .pointer (some ⟨w.heap.size + 1, 1, none⟩)) rfl (by kernel_rfl) (by kernel_rfl) (by kernel_rfl) (by kernel_rfl) (fun _ _ _ h => h) (Or.inl ⟨by rfl, fun w' hSw => ?_⟩) (by assumption) ?_
    · (try dsimp only at hSw); have z_0 := keepc hSw n1; have z_1 := keepc hSw y1; go_simp
    try simp only [Act.put, List.getElem_toArray, List.getElem_cons_zero, List.getElem_cons_succ, List.setIfInBounds_toArray, List.set_cons_zero, List.set_cons_succ]
    refine wpAnyK_take (i := 3) (v := .int .i64 c) rfl (by kernel_rfl) (by kernel_rfl) (by kernel_rfl) (by kernel_rfl) (fun _ _ _ h => h) (Or.inl ⟨by rfl, fun w' hSw => ?_⟩) (by assumption) ?_
    · (try dsimp only at hSw); have z_0 := keepc hSw n1; have z_1 := keepc hSw y1; go_simp
    try simp only [Act.put, List.getElem_toArray, List.getElem_cons_zero, List.getElem_cons_succ, List.setIfInBounds_toArray, List.set_cons_zero, List.set_cons_succ]
    refine wpAnyK_take (i := 5) (v := .slice (some ⟨g, off, none⟩) (d.L c) ic) rfl (by kernel_rfl) (by kernel_rfl) (by kernel_rfl) (by kernel_rfl) (fun _ _ _ h => h) (Or.inl ⟨by rfl, fun w' hSw => ?_⟩) (by assumption) ?_
    · (try dsimp only at hSw); have z_0 := keepc hSw n1; have z_1 := keepc hSw y1; go_simp
    try simp only [Act.put, List.getElem_toArray, List.getElem_cons_zero, List.getElem_cons_succ, List.setIfInBounds_toArray, List.set_cons_zero, List.set_cons_succ]
    refine wpAnyK_take (i := 6) (v := .slice (some ⟨g, off + 2, none⟩) (d.L c - 1) (ic - 1)) rfl (by kernel_rfl) (by kernel_rfl) (by kernel_rfl) (by kernel_rfl) (fun _ _ _ h => h) (Or.inl ⟨by rfl, fun w' hSw => ?_⟩) (by assumption) ?_
    · (try dsimp only at hSw); have z_0 := keepc hSw n1; have z_1 := keepc hSw y1; go_simp
    try simp only [Act.put, List.getElem_toArray, List.getElem_cons_zero, List.getElem_cons_succ, List.setIfInBounds_toArray, List.set_cons_zero, List.set_cons_succ]
    refine wpAnyK_one (i := 4) (by kernel_rfl) rfl (fun K hK => ?_)
    go_simp
    have hA0 : Below V.heap.size V (V.drew.alloc (.cells #[] 103)) := ((Below.refl _ _).drew).alloc (Nat.le_refl _) _
    refine hK.out _ _ (fun _ => hA0) (fun hH => ?_)
    clear hK K hHeld
    have hHeld := hH (by decide)
    clear hH
    try simp only [Act.put, List.getElem_toArray, List.getElem_cons_zero, List.getElem_cons_succ, List.setIfInBounds_toArray, List.set_cons_zero, List.set_cons_succ]
    obtain ⟨u, w3, hrun, hu, hb3⟩ := append_emptyS V.drew (some ⟨g, off + 2, none⟩) (d.L c - 1) (ic - 1) (fun j => d.F c (j + 1)) 90 ((Sr.shift hsr4 hpos).below hA0) (by have := HPC.out.1; omega)
    have hb3' : Below V.heap.size V w3 := ((Below.refl _ _).drew).trans (hb3.mono (Nat.le_refl _))
    refine wpAnyK_one (i := 7) (by kernel_rfl) rfl (fun K hK => ?_)
    refine step_append_run (by rfl) _ _ 90 (by rfl) (by rfl) (by rfl) hrun ?_
    refine hK.out _ _ (fun _ => hb3') (fun hH => ?_)
    clear hK K hHeld
    have hHeld := hH (by decide)
    clear hH
    try simp only [Act.put, List.getElem_toArray, List.getElem_cons_zero, List.getElem_cons_succ, List.setIfInBounds_toArray, List.set_cons_zero, List.set_cons_succ]
    clear hrun hA0
    refine wpAnyK_take (i := 8) (v := .pointer (some ⟨pb, po + c, none⟩)) rfl (by kernel_rfl) (by kernel_rfl) (by kernel_rfl) (by kernel_rfl) (fun _ _ _ h => h) (Or.inl ⟨by rfl, fun w' hSw => ?_⟩) (by assumption) ?_
    · (try dsimp only at hSw); have z_0 := keepc hSw n1; have z_1 := keepc hSw y1; go_simp
    try simp only [Act.put, List.getElem_toArray, List.getElem_cons_zero, List.getElem_cons_succ, List.setIfInBounds_toArray, List.set_cons_zero, List.set_cons_succ]
    have hLc : d.L c - 1 = d.L c - 1 := rfl
    obtain ⟨ua, uc, rfl⟩ := own_form hu
    obtain ⟨tag3, ta3⟩ := ta2.putB (c := c) (row := none) (n' := d.L c - 1) (f' := fun j => d.F c (j + 1)) hcl (grown_any hb3') (fun x e => by cases e) (by rw [hLc]; exact Orow.sr hu) (fun x off' n' cap' e hh => by
      obtain ⟨zz1, zz2⟩ := own_wc hu x off' n' cap' e
      have hq := hB4.size
      refine ⟨?_, by rw [hLc]; exact zz2, .inr zz1⟩
      have zz3 : V.heap.size ≤ x := zz1
      have := lt_of_block k4
      omega) (by have := lt_of_block k4; omega)
    have HCU := hide (own_cap hu)
    have f5 : w3.frozen? ⟨pb, po + c, none⟩ = false := (pb4.2.1.below hb3').facts.1 _
    have u5 := keepc hb3' pc5
    have hB5 := (hB4.trans (hb3'.mono hB4.size)).setCell (p := ⟨pb, po + c, none⟩) (by show w.heap.size ≤ pb; omega) (.slice ua (d.L c - 1) uc)
    have hnpb : w1.heap.size ≠ pb := fun q => by have := pb4.2.2; rw [← q, tnb] at this; omega
    have k3' : (w3.setCell ⟨pb, po + c, none⟩ (.slice ua (d.L c - 1) uc)).heap[w.heap.size + 1 + 1]? = _ := (heap_setCell_other _ _ _ _ (by show w.heap.size + 1 + 1 ≠ pb; omega)).trans (heap_b k3 hb3')
    have k4' : (w3.setCell ⟨pb, po + c, none⟩ (.slice ua (d.L c - 1) uc)).heap[w1.heap.size]? = _ := (heap_setCell_other _ _ _ _ hnpb).trans (heap_b k4 hb3')
    clear n1 y1 hu ta2 k2 k3 k4 hb3 hsr4
    refine wpAnyK_one (i := 9) (by kernel_rfl) rfl (fun K hK => ?_)
    go_simp
    refine hK.out _ _ (fun h => absurd rfl h) (fun _ => ?_)
    clear hK K hHeld u5 f5 hb3' hB4 pf pc5
    try simp only [Act.put, List.getElem_toArray, List.getElem_cons_zero, List.getElem_cons_succ, List.setIfInBounds_toArray, List.set_cons_zero, List.set_cons_succ]
    refine wpAnyK_done (by kernel_rfl) ?_
    obtain ⟨Q, hQ⟩ : ∃ Q, w3.setCell ⟨pb, po + c, none⟩ (.slice ua (d.L c - 1) uc) = Q := ⟨_, rfl⟩
    rw [hQ] at ta3 hB5 k3' k4' ⊢
    clear hQ
    rw [← HX1.out] at ta3
    obtain ⟨fr, r0, r1, r2⟩ := row3_facts k3'
    obtain ⟨_, n0, n1, n2⟩ := row3_facts k4'
    have HZ := hide (HO2.out)
    have HF := hide (And.intro (fin3 (RB := w.heap.size + 1 + 1) (d := nxt d C 4 c va vl rg) (by rw [HZ.out.2]; exact ta3) (by omega) (by omega) (hB5) (by omega)) ((Cpd.upd (c := c) HCP.out HCU.out)))
    clear ta3 hB5 k3' k4' HO2
    go_wp2
    refine bodyPost_ret (v := .tuple #[.agg #[.slice (some ⟨mb, mo, none⟩) d.zs.length ym, .slice (some ⟨pb, po, none⟩) C yb, .slice xr C yr], .int .i64 0]) (by simp [results, Try.results49, go_sem, r0, r1, r2]) rfl ?_
    exact ⟨_, _, _, by rw [HZ.out.1], _, ⟨_, _, HF.out.1.1⟩, HF.out.1.2, HF.out.2⟩

end Go.Proofs.Ytcocobmanlmjdaa
