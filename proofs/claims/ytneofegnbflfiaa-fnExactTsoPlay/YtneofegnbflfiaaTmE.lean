/- spec.TsoDo; laws.toBAct -/
import Derived.Test.YtneofegnbflfiaaTmD
namespace Go.Proofs.Ytneofegnbflfiaa
open Go.RowKit
set_option linter.unusedVariables false
set_option linter.unusedSimpArgs false

set_option maxHeartbeats 4000000 in
theorem toBAct_any (k co va vl rg : Int) (w : World) :
    Calls Try.prog 70 #[.agg (five k co va vl rg)] w fun e w' => e = .returned (.agg (five k co va vl rg)) ∧ Below w.heap.size w w' := by
  go_enter Try.func70, Try.ntmps70
  go_wp2
  refine bodyPost_ret (v := .agg (five k co va vl rg)) (by simp [results, Try.results70, go_sem]) rfl ⟨rfl, ?_⟩
  repeat' (first | exact Below.refl _ _ | refine Below.setCell ?_ (by simp <;> omega) _ | refine Below.alloc ?_ (by simp <;> omega) _)

theorem Bcap.below {w w' : World} {bv : Value} {C : Nat} {L : Nat → Nat} {F : Nat → Nat → Nat → Int} (h : Bcap w bv C) (hs : Ss w bv C L F) (hb : Below w.heap.size w w') : Bcap w' bv C := by
  intro p o k c a n kk e hc hcell
  obtain ⟨ad, cap, e', hs⟩ := hs
  obtain ⟨b, off, e2, hs⟩ := hs (by omega)
  obtain ⟨ia, ic, q, _⟩ := hs c hc
  have e3 := e'.symm.trans e
  rw [e2] at e3
  simp only [Value.slice.injEq, Option.some.injEq, Addr.mk.injEq] at e3
  obtain ⟨⟨rfl, rfl, _⟩, _, rfl⟩ := e3
  have q' := keepc hb q
  rw [q'] at hcell
  simp only [Option.some.injEq, Value.slice.injEq] at hcell
  obtain ⟨rfl, rfl, rfl⟩ := hcell
  exact h _ _ _ _ _ _ _ e hc q

set_option maxHeartbeats 4000000 in
set_option maxRecDepth 20000 in
theorem specTsoDo_any (mv bv rv : Value) (d : Td) (C R : Nat) (k co va vl rg : Int) (w : World) (h : Tv w mv bv rv d.zs C d.L d.F R d.Z) (hcap : Bcap w bv C) :
    Calls Try.prog 19 #[.agg #[mv, bv, rv], .agg (five k co va vl rg)] w fun e w' => DoPost d C R k co va vl rg w e w' := by
  obtain ⟨⟨ma, mc, rfl⟩, ⟨ba, bc, rfl⟩, ⟨ra, rc, rfl⟩⟩ := three_of h
  have HT := hide h
  have HC := hide hcap
  clear h hcap
  obtain ⟨W, hW⟩ : ∃ W, ((w.alloc (.cells #[.slice ma d.zs.length mc, .slice ba C bc, .slice ra R rc] 28)).alloc (.cells (five k co va vl rg) 37)).alloc (.cells #[nil3, nil3, nil3] 28) = W := ⟨_, rfl⟩
  have hWs : W.heap.size = w.heap.size + 1 + 1 + 1 := by rw [← hW]; simp
  have hB0 : Below w.heap.size w W := by rw [← hW]; exact (((Below.refl _ _).alloc (Nat.le_refl _) _).alloc (by simp) _).alloc (by simp; omega) _
  have g1 : W.heap[w.heap.size]? = some (.cells #[.slice ma d.zs.length mc, .slice ba C bc, .slice ra R rc] 28 (0, 0)) := by rw [← hW, Below.heap_alloc _ _ _ (by simp; omega), Below.heap_alloc _ _ _ (by simp)]; exact heap_alloc_new _ _
  have g2 : W.heap[w.heap.size + 1]? = some (.cells (five k co va vl rg) 37 (0, 0)) := by
    rw [← hW, Below.heap_alloc _ _ _ (by simp)]
    have := heap_alloc_new (w.alloc (.cells #[.slice ma d.zs.length mc, .slice ba C bc, .slice ra R rc] 28)) (.cells (five k co va vl rg) 37)
    simpa only [World.size_alloc] using this
  have g3 : W.heap[w.heap.size + 1 + 1]? = some (.cells #[nil3, nil3, nil3] 28 (0, 0)) := by
    rw [← hW]
    have := heap_alloc_new ((w.alloc (.cells #[.slice ma d.zs.length mc, .slice ba C bc, .slice ra R rc] 28)).alloc (.cells (five k co va vl rg) 37)) (.cells #[nil3, nil3, nil3] 28)
    simpa only [World.size_alloc] using this
  have HE := hide (And.intro hWs (And.intro hB0 (And.intro g1 (And.intro g2 g3))))
  have hokc := fun W h => specTsoOk_any (.slice ma d.zs.length mc) (.slice ba C bc) (.slice ra R rc) d.zs C d.L d.F R d.Z W h
  subst hW
  clear hWs hB0 g1 g2 g3
  cases hx : tokB d.zs C d.L d.F R d.Z
  · rw [hx] at hokc
    go_enter Try.func19, Try.ntmps19
    go_wp2_with fail
    refine (hokc _ (HT.out.below HE.out.2.1)).mono ?_
    rintro e w1 ⟨rfl, hb1⟩
    obtain ⟨e1, e2, e3, e4, e5⟩ := HE.out
    have hB1 := e2.trans (hb1.mono e2.size)
    have g3 := heap_b e5 hb1
    obtain ⟨fr, r0, r1, r2⟩ := row3_facts g3
    have HB := hide (And.intro hx ((((hB1.setCell (p := ⟨w.heap.size + 1 + 1, 0, none⟩) (by show w.heap.size ≤ w.heap.size + 1 + 1; omega) nil3).setCell (p := ⟨w.heap.size + 1 + 1, 1, none⟩) (by show w.heap.size ≤ w.heap.size + 1 + 1; omega) nil3).setCell (p := ⟨w.heap.size + 1 + 1, 2, none⟩) (by show w.heap.size ≤ w.heap.size + 1 + 1; omega) nil3)))
    clear e1 e2 e3 e4 e5 hB1 g3 hb1 HE HT HC hokc hx
    go_wp2
    refine bodyPost_ret (v := .tuple #[.agg #[nil3, nil3, nil3], .int .i64 1]) (by simp [results, Try.results19, go_sem, r0, r1, r2]) rfl (.inl ⟨HB.out.1, rfl, HB.out.2⟩)
  · have hpa := tok_parts hx
    have hR : R = C := hpa.2.1
    subst hR
    have HX := hide hx
    rw [hx] at hokc
    clear hx hpa
    go_enter Try.func19, Try.ntmps19
    go_wp2_with fail
    refine (hokc _ (HT.out.below HE.out.2.1)).mono ?_
    rintro e w1 ⟨rfl, hb1⟩
    obtain ⟨e1, e2, e3, e4, e5⟩ := HE.out
    have hB1 := e2.trans (hb1.mono e2.size)
    have g1 := heap_b e3 hb1
    have g2 := heap_b e4 hb1
    have g3 := heap_b e5 hb1
    obtain ⟨_, x0, x1, x2⟩ := row3_facts g1
    have hT1 := HT.out.below hB1
    have hC1 : Bcap w1 (.slice ba R bc) R := Bcap.below HC.out HT.out.buf hB1
    have y0 := (cell_of_row _ _ 0 _ _ _ g2).trans rfl
    have y1 := (cell_of_row _ _ 1 _ _ _ g2).trans rfl
    have y2 := (cell_of_row _ _ 2 _ _ _ g2).trans rfl
    have y3 := (cell_of_row _ _ 3 _ _ _ g2).trans rfl
    have y4 := (cell_of_row _ _ 4 _ _ _ g2).trans rfl
    have hl3 := lt_of_block g3
    clear e1 e2 e3 e4 e5 hb1 HE HT hokc g1 g2
    go_wp2_with fail
    refine (l10Do_any _ _ _ d R k co va vl rg _ hT1 HX.out hC1).mono ?_
    rintro e w2 ⟨m, b, r, vb, vr, tag, rfl, ta, hb2, hcp⟩
    obtain ⟨⟨ma2, mc2, rfl⟩, ⟨ba2, bc2, rfl⟩, ⟨ra2, rc2, rfl⟩⟩ := three_of (Ta.tv ta)
    have g3' := heap_b g3 hb2
    obtain ⟨fr, r0, r1, r2⟩ := row3_facts g3'
    have hB2 := hB1.trans (hb2.mono hB1.size)
    have HF := hide (fin3 (w := w) (RB := w.heap.size + 1 + 1) ta (by omega) (by omega) hB2 (by have := hB1.size; omega))
    clear g3 g3' hB1 hB2 hb2 ta hT1 hC1 x0 x1 x2 y0 y1 y2 y3 y4 HC
    generalize hnl : (nxt d R k co va vl rg).zs.length = nl at HF ⊢
    generalize hok : okc d R k co va vl rg = ok at HF ⊢
    have HOK := hide hok
    clear hok hnl
    go_wp2
    refine bodyPost_ret (v := .tuple #[.agg #[.slice ma2 nl mc2, .slice ba2 R bc2, .slice ra2 R rc2], .int .i64 ok]) (by simp [results, Try.results19, go_sem, r0, r1, r2]) rfl (.inr ⟨HX.out, _, _, _, vb, vr, tag, by rw [HOK.out], HF.out.1, HF.out.2⟩)

end Go.Proofs.Ytneofegnbflfiaa
