/- impl.TsoDo -/
import Derived.Test.YtcocobmanlmjdaaTkJ
namespace Go.Proofs.Ytcocobmanlmjdaa
open Go.RowKit
set_option linter.unusedVariables false
set_option linter.unusedSimpArgs false

theorem Ta.retag {w : World} {base : Nat} {mv bv rv : Value} {zs : List Int} {C : Nat} {L : Nat → Nat} {F : Nat → Nat → Nat → Int} {R : Nat} {Z : Nat → List Int} {vb vr : Nat → Value} {tag tag' : Nat → Nat} (h : Ta w base mv bv rv zs C L F R Z vb vr tag) (hr : ∀ g, g < w.heap.size → tag' g = tag g) : Ta w base mv bv rv zs C L F R Z vb vr tag' :=
  ⟨h.ms, h.mb.retag (fun g hg e => by rw [hr g hg, e]), h.bs, h.bb.retag (fun g hg e => by rw [hr g hg, e]), h.rs, h.rb.retag (fun g hg e => by rw [hr g hg, e]), h.bi, fun c hc => (h.bI c hc).retag (fun g hg e => by rw [hr g hg, e]), h.ri, fun c hc => (h.rI c hc).retag (fun g hg e => by rw [hr g hg, e])⟩
theorem Tc.retag {w : World} {base : Nat} {mv bv rv : Value} {zs : List Int} {C : Nat} {L : Nat → Nat} {F : Nat → Nat → Nat → Int} {R : Nat} {Z : Nat → List Int} {vb vr : Nat → Value} {tag tag' : Nat → Nat} (h : Tc w base mv bv rv zs C L F R Z vb vr tag) (hr : ∀ g, g < w.heap.size → tag' g = tag g) : Tc w base mv bv rv zs C L F R Z vb vr tag' :=
  ⟨h.ta.retag hr, h.bo, fun c hc g e => by rw [hr g (World.ownsRow.lt (h.bo c hc) g e).2]; exact h.tc c hc g e⟩

/-- the answer of an act -/
def DoPost (d : Td) (C R : Nat) (k co va vl rg : Int) (w : World) (e : Ending) (w' : World) : Prop :=
  (tokB d.zs C d.L d.F R d.Z = false ∧ e = .returned (.tuple #[.agg #[nil3, nil3, nil3], .int .i64 1]) ∧ Below w.heap.size w w') ∨
  (tokB d.zs C d.L d.F R d.Z = true ∧ ∃ m b r vb vr tag, e = .returned (.tuple #[.agg #[m, b, r], .int .i64 (okc d C k co va vl rg)]) ∧ TaD w' w.heap.size m b r (nxt d C k co va vl rg) C vb vr tag ∧ Below w.heap.size w w')

theorem three_of {w : World} {mv bv rv : Value} {zs : List Int} {C : Nat} {L : Nat → Nat} {F : Nat → Nat → Nat → Int} {R : Nat} {Z : Nat → List Int} (h : Tv w mv bv rv zs C L F R Z) : (∃ a c, mv = .slice a zs.length c) ∧ (∃ a c, bv = .slice a C c) ∧ ∃ a c, rv = .slice a R c := by
  obtain ⟨⟨ma, mc, rfl, _⟩, ⟨ba, bc, rfl, _⟩, ⟨ra, rc, rfl, _⟩⟩ := h
  exact ⟨⟨_, _, rfl⟩, ⟨_, _, rfl⟩, _, _, rfl⟩

set_option maxHeartbeats 4000000 in
set_option maxRecDepth 20000 in
theorem implTsoDo_any (mv bv rv : Value) (d : Td) (C R : Nat) (k co va vl rg : Int) (w : World) (h : Tv w mv bv rv d.zs C d.L d.F R d.Z) :
    Calls Try.prog 71 #[.agg #[mv, bv, rv], .agg (five k co va vl rg)] w fun e w' => DoPost d C R k co va vl rg w e w' := by
  obtain ⟨⟨ma, mc, rfl⟩, ⟨ba, bc, rfl⟩, ⟨ra, rc, rfl⟩⟩ := three_of h
  have HT := hide h
  clear h
  obtain ⟨W, hW⟩ : ∃ W, ((w.alloc (.cells #[.slice ma d.zs.length mc, .slice ba C bc, .slice ra R rc] 37)).alloc (.cells (five k co va vl rg) 51)).alloc (.cells #[nil3, nil3, nil3] 37) = W := ⟨_, rfl⟩
  have hWs : W.heap.size = w.heap.size + 1 + 1 + 1 := by rw [← hW]; simp
  have hB0 : Below w.heap.size w W := by rw [← hW]; exact (((Below.refl _ _).alloc (Nat.le_refl _) _).alloc (by simp) _).alloc (by simp; omega) _
  have g1 : W.heap[w.heap.size]? = some (.cells #[.slice ma d.zs.length mc, .slice ba C bc, .slice ra R rc] 37 (0, 0)) := by rw [← hW, Below.heap_alloc _ _ _ (by simp; omega), Below.heap_alloc _ _ _ (by simp)]; exact heap_alloc_new _ _
  have g2 : W.heap[w.heap.size + 1]? = some (.cells (five k co va vl rg) 51 (0, 0)) := by
    rw [← hW, Below.heap_alloc _ _ _ (by simp)]
    have := heap_alloc_new (w.alloc (.cells #[.slice ma d.zs.length mc, .slice ba C bc, .slice ra R rc] 37)) (.cells (five k co va vl rg) 51)
    simpa only [World.size_alloc] using this
  have g3 : W.heap[w.heap.size + 1 + 1]? = some (.cells #[nil3, nil3, nil3] 37 (0, 0)) := by
    rw [← hW]
    have := heap_alloc_new ((w.alloc (.cells #[.slice ma d.zs.length mc, .slice ba C bc, .slice ra R rc] 37)).alloc (.cells (five k co va vl rg) 51)) (.cells #[nil3, nil3, nil3] 37)
    simpa only [World.size_alloc] using this
  have HE := hide (And.intro hWs (And.intro hB0 (And.intro g1 (And.intro g2 g3))))
  have hokc := fun W h => implTsoOk_any (.slice ma d.zs.length mc) (.slice ba C bc) (.slice ra R rc) d.zs C d.L d.F R d.Z W h
  subst hW
  clear hWs hB0 g1 g2 g3
  cases hx : tokB d.zs C d.L d.F R d.Z
  · rw [hx] at hokc
    go_enter Try.func71, Try.ntmps71
    go_wp2_with fail
    refine (hokc _ (HT.out.below HE.out.2.1)).mono ?_
    rintro e w1 ⟨rfl, hb1⟩
    obtain ⟨e1, e2, e3, e4, e5⟩ := HE.out
    have hB1 := e2.trans (hb1.mono e2.size)
    have g3 := heap_b e5 hb1
    obtain ⟨fr, r0, r1, r2⟩ := row3_facts g3
    have HB := hide (And.intro hx ((((hB1.setCell (p := ⟨w.heap.size + 1 + 1, 0, none⟩) (by show w.heap.size ≤ w.heap.size + 1 + 1; omega) nil3).setCell (p := ⟨w.heap.size + 1 + 1, 1, none⟩) (by show w.heap.size ≤ w.heap.size + 1 + 1; omega) nil3).setCell (p := ⟨w.heap.size + 1 + 1, 2, none⟩) (by show w.heap.size ≤ w.heap.size + 1 + 1; omega) nil3)))
    clear e1 e2 e3 e4 e5 hB1 g3 hb1 HE HT hokc hx
    go_wp2
    refine bodyPost_ret (v := .tuple #[.agg #[nil3, nil3, nil3], .int .i64 1]) (by simp [results, Try.results71, go_sem, r0, r1, r2]) rfl (.inl ⟨HB.out.1, rfl, HB.out.2⟩)
  · have hpa := tok_parts hx
    have hR : R = C := hpa.2.1
    subst hR
    have HX := hide hx
    rw [hx] at hokc
    have hcp := fun W h => tsoCopy_any (.slice ma d.zs.length mc) (.slice ba R bc) (.slice ra R rc) d.zs R d.L d.F d.Z W h (by omega) (by omega) (fun c hc => by have := (hpa.2.2.2.2 c hc).1; omega) (fun c hc => by have := (hpa.2.2.2.2 c hc).2.2.1; omega)
    clear hx hpa
    go_enter Try.func71, Try.ntmps71
    go_wp2_with fail
    refine (hokc _ (HT.out.below HE.out.2.1)).mono ?_
    rintro e w1 ⟨rfl, hb1⟩
    obtain ⟨e1, e2, e3, e4, e5⟩ := HE.out
    have hB1 := e2.trans (hb1.mono e2.size)
    have g1 := heap_b e3 hb1
    have g2 := heap_b e4 hb1
    have g3 := heap_b e5 hb1
    obtain ⟨_, x0, x1, x2⟩ := row3_facts g1
    have hT1 := HT.out.below hB1
    clear e1 e2 e3 e4 e5 hb1 HE HT hokc
    go_wp2_with fail
    refine (hcp _ hT1).mono ?_
    rintro e w2 ⟨m, b, r, vb, vr, tag, rfl, tc, hb2⟩
    obtain ⟨⟨ma2, mc2, rfl⟩, ⟨ba2, bc2, rfl⟩, ⟨ra2, rc2, rfl⟩⟩ := three_of tc.ta.tv
    have hA2 : Below w2.heap.size w2 (w2.alloc (.cells #[.slice ma2 d.zs.length mc2, .slice ba2 R bc2, .slice ra2 R rc2] 37)) := (Below.refl _ _).alloc (Nat.le_refl _) _
    have g4 : (w2.alloc (.cells #[.slice ma2 d.zs.length mc2, .slice ba2 R bc2, .slice ra2 R rc2] 37)).heap[w2.heap.size]? = some (.cells #[.slice ma2 d.zs.length mc2, .slice ba2 R bc2, .slice ra2 R rc2] 37 (0, 0)) := heap_alloc_new _ _
    have hB2 := hB1.trans (hb2.mono hB1.size)
    have hB3 := hB2.trans (hA2.mono hB2.size)
    have g2' := heap_b (heap_b g2 hb2) hA2
    have g3' := heap_b (heap_b g3 hb2) hA2
    have tc' := (tc.retag (tag' := fun g => if g = w2.heap.size then 100 else tag g) (fun g hg => if_neg (by omega))).below hA2
    obtain ⟨_, n0, n1, n2⟩ := row3_facts g4
    have y0 := (cell_of_row _ _ 0 _ _ _ g2').trans rfl
    have y1 := (cell_of_row _ _ 1 _ _ _ g2').trans rfl
    have y2 := (cell_of_row _ _ 2 _ _ _ g2').trans rfl
    have y3 := (cell_of_row _ _ 3 _ _ _ g2').trans rfl
    have y4 := (cell_of_row _ _ 4 _ _ _ g2').trans rfl
    have hs2 := hb2.size
    have hs3 := hA2.size
    have hl3 := lt_of_block g3
    have hl4 := lt_of_block g4
    clear g1 g2 hb2 tc hA2 hcp g2' hT1 x0 x1 x2
    go_wp2_with fail
    refine (do_any _ _ _ d R vb vr _ w1.heap.size k co va vl rg _ tc' HX.out (by omega)).mono ?_
    rintro e w3 ⟨rfl, ⟨vb', tag2, ta3⟩, hb3, hk3⟩
    have g4' := (hk3 w2.heap.size hl4 (by show 100 ≤ (if w2.heap.size = w2.heap.size then 100 else tag w2.heap.size); rw [if_pos rfl]; exact Nat.le_refl _)).trans g4
    have g3'' := (hb3.block (w.heap.size + 1 + 1) hl3).trans g3'
    obtain ⟨_, n0', n1', n2'⟩ := row3_facts g4'
    obtain ⟨fr, r0, r1, r2⟩ := row3_facts g3''
    have hwl : w.heap.size ≤ w1.heap.size := hB1.size
    have hB4 := hB3.trans (hb3.mono hwl)
    have hg : ∀ (V : World) (i : Nat) (x : Value), V.grownBy (V.setCell ⟨w.heap.size + 1 + 1, i, none⟩ x) (some (w.heap.size + 1 + 1)) := fun V i x => grown_set V _ i x
    have hro : ∀ g, some (w.heap.size + 1 + 1) = some g → g < w1.heap.size := fun g e => by simp only [Option.some.injEq] at e; omega
    have HF := hide (And.intro HX.out (And.intro ((((ta3.grown (hg w3 0 (.slice ma2 d.zs.length mc2)) hro).grown (hg _ 1 (.slice ba2 R bc2)) hro).grown (hg _ 2 (.slice ra2 R rc2)) hro).mono hwl) (((hB4.setCell (p := ⟨w.heap.size + 1 + 1, 0, none⟩) (by show w.heap.size ≤ w.heap.size + 1 + 1; omega) (.slice ma2 d.zs.length mc2)).setCell (p := ⟨w.heap.size + 1 + 1, 1, none⟩) (by show w.heap.size ≤ w.heap.size + 1 + 1; omega) (.slice ba2 R bc2)).setCell (p := ⟨w.heap.size + 1 + 1, 2, none⟩) (by show w.heap.size ≤ w.heap.size + 1 + 1; omega) (.slice ra2 R rc2))))
    have hne : ¬ w.heap.size + 1 + 1 = w2.heap.size := by omega
    generalize hco : okc d R k co va vl rg = code
    have HCO := hide hco
    clear hco
    clear ta3 hb3 hk3 g4' g3'' hB4 hg hro tc' g3' hB3 hB2 hB1 n0 n1 n2 y0 y1 y2 y3 y4 g3 g4
    go_wp2
    refine bodyPost_ret (v := .tuple #[.agg #[.slice ma2 d.zs.length mc2, .slice ba2 R bc2, .slice ra2 R rc2], .int .i64 code]) (by simp [results, Try.results71, go_sem, r0, r1, r2]) rfl (.inr ⟨HF.out.1, _, _, _, _, _, _, ?_, HF.out.2.1, HF.out.2.2⟩)
    rw [HCO.out]

end Go.Proofs.Ytcocobmanlmjdaa
