/- an act keeps a right Tso right; spec.TsoDo once more, with the room of its buffers -/
import Derived.Test.YtneofegnbflfiaaTpD
namespace Go.Proofs.Ytneofegnbflfiaa
open Go.RowKit
set_option linter.unusedVariables false
set_option linter.unusedSimpArgs false

theorem sn_dig {zs : List Int} {f : Nat → Nat → Int} {v n : Nat} (h : ∀ j, j < 3 → 0 ≤ zs.getD j 0 ∧ zs.getD j 0 < 10) (hf : ∀ j, j < n → 0 ≤ f j 1 ∧ f j 1 < 10) (hv : v < 3) : 0 ≤ sn zs f v n ∧ sn zs f v n < 10 := by
  induction n with
  | zero => exact h v hv
  | succ n ih =>
    rw [sn]
    split
    · exact hf n (by omega)
    · exact ih (fun j hj => hf j (by omega))
theorem nxt_tok {d : Td} {C : Nat} {k co va vl rg : Int} (h : tokD d C = true) : tokD (nxt d C k co va vl rg) C = true := by
  obtain ⟨h1, h2, h3, h4, h5⟩ := tok_parts h
  cases hf : fmB C k co va vl rg
  · rw [(ok_form (d := d) hf).2]; exact h
  have hc := fm_core hf
  obtain ⟨c, rfl⟩ : ∃ c : Nat, co = c := ⟨co.toNat, by omega⟩
  have hcC : c < C := by omega
  obtain ⟨a, b, e, g⟩ := h5 c hcC
  by_cases k1 : k = 1
  · subst k1
    have q := ok1 (d := d) hf
    simp only [Int.toNat_natCast] at q
    by_cases h4' : 4 ≤ d.L c
    · rw [(q.1 h4').2]; exact h
    rw [(q.2 h4').2]
    have hv : (0 ≤ va ∧ va < 3) ∧ 0 ≤ vl ∧ vl < 10 := by
      unfold fmB at hf
      rw [if_pos rfl] at hf
      simp only [Bool.and_eq_true, inB, decide_eq_true_eq] at hf
      omega
    refine tok_of ⟨h1, rfl, h3, h4, fun c' hc' => ?_⟩
    obtain ⟨a', b', e', g'⟩ := h5 c' hc'
    by_cases q' : c' = c
    · subst q'
      simp only [upd_at]
      refine ⟨by omega, fun j hj => ?_, e', g'⟩
      by_cases ej : j = d.L c'
      · subst ej
        simp only [snocF, upd_at]
        exact hv
      · simp only [snocF, upd_ne ej]
        exact b' j (by omega)
    · simp only [upd_ne q']
      exact ⟨a', b', e', g'⟩
  by_cases k2 : k = 2
  · subst k2
    obtain ⟨⟨_, q⟩, hva, hrg⟩ := ok2 (d := d) hf
    rw [q]
    simp only [Int.toNat_natCast]
    refine tok_of ⟨h1, rfl, h3, h4, fun c' hc' => ?_⟩
    obtain ⟨a', b', e', g'⟩ := h5 c' hc'
    by_cases q' : c' = c
    · subst q'
      simp only [upd_at]
      exact ⟨a', b', by rw [List.length_set]; exact e', set_dig g' e' (sn_dig h4 (fun j hj => (b' j hj).2) (by omega))⟩
    · simp only [upd_ne q']
      exact ⟨a', b', e', g'⟩
  by_cases k3 : k = 3
  · subst k3
    rw [(ok3 (d := d) hf).2]; exact h
  have k4 : k = 4 := by
    unfold fmB at hf
    rw [if_neg k1, if_neg k2] at hf
    simp only [Bool.and_eq_true, Bool.or_eq_true, decide_eq_true_eq] at hf
    omega
  subst k4
  have q := ok4 (d := d) hf
  simp only [Int.toNat_natCast] at q
  by_cases hp : d.L c = 0
  · rw [(q.1 hp).2]; exact h
  · rw [(q.2 (by omega)).2]
    exact dn_tok h hcC (by omega)

set_option maxHeartbeats 4000000 in
set_option maxRecDepth 20000 in
theorem specTsoDo_cap (mv bv rv : Value) (d : Td) (C : Nat) (k co va vl rg : Int) (w : World) (h : Tv w mv bv rv d.zs C d.L d.F C d.Z) (hok : tokD d C = true) (hcap : Bcap w bv C) :
    Calls Try.prog 19 #[.agg #[mv, bv, rv], .agg (five k co va vl rg)] w fun e w' => ∃ m b r vb vr tag, e = .returned (.tuple #[.agg #[m, b, r], .int .i64 (okc d C k co va vl rg)]) ∧ TaD w' w.heap.size m b r (nxt d C k co va vl rg) C vb vr tag ∧ Below w.heap.size w w' ∧ Cpd vb C := by
  obtain ⟨⟨ma, mc, rfl⟩, ⟨ba, bc, rfl⟩, ⟨ra, rc, rfl⟩⟩ := three_of h
  have HT := hide h
  have HC := hide hcap
  clear h hcap
  obtain ⟨W, hW⟩ : ∃ W, ((w.alloc (.cells #[.slice ma d.zs.length mc, .slice ba C bc, .slice ra C rc] 28)).alloc (.cells (five k co va vl rg) 37)).alloc (.cells #[nil3, nil3, nil3] 28) = W := ⟨_, rfl⟩
  have hWs : W.heap.size = w.heap.size + 1 + 1 + 1 := by rw [← hW]; simp
  have hB0 : Below w.heap.size w W := by rw [← hW]; exact (((Below.refl _ _).alloc (Nat.le_refl _) _).alloc (by simp) _).alloc (by simp; omega) _
  have g1 : W.heap[w.heap.size]? = some (.cells #[.slice ma d.zs.length mc, .slice ba C bc, .slice ra C rc] 28 (0, 0)) := by rw [← hW, Below.heap_alloc _ _ _ (by simp; omega), Below.heap_alloc _ _ _ (by simp)]; exact heap_alloc_new _ _
  have g2 : W.heap[w.heap.size + 1]? = some (.cells (five k co va vl rg) 37 (0, 0)) := by
    rw [← hW, Below.heap_alloc _ _ _ (by simp)]
    have := heap_alloc_new (w.alloc (.cells #[.slice ma d.zs.length mc, .slice ba C bc, .slice ra C rc] 28)) (.cells (five k co va vl rg) 37)
    simpa only [World.size_alloc] using this
  have g3 : W.heap[w.heap.size + 1 + 1]? = some (.cells #[nil3, nil3, nil3] 28 (0, 0)) := by
    rw [← hW]
    have := heap_alloc_new ((w.alloc (.cells #[.slice ma d.zs.length mc, .slice ba C bc, .slice ra C rc] 28)).alloc (.cells (five k co va vl rg) 37)) (.cells #[nil3, nil3, nil3] 28)
    simpa only [World.size_alloc] using this
  have HE := hide (And.intro hWs (And.intro hB0 (And.intro g1 (And.intro g2 g3))))
  have hokc := fun W h => specTsoOk_any (.slice ma d.zs.length mc) (.slice ba C bc) (.slice ra C rc) d.zs C d.L d.F C d.Z W h
  subst hW
  clear hWs hB0 g1 g2 g3
  have HX := hide hok
  have hok2 : tokB d.zs C d.L d.F C d.Z = true := hok
  rw [hok2] at hokc
  clear hok hok2
  go_enter Try.func19, Try.ntmps19
  go_wp2_with fail
  refine (hokc _ (HT.out.below HE.out.2.1)).mono ?_
  rintro e w1 ⟨rfl, hb1⟩
  obtain ⟨e1, e2, e3, e4, e5⟩ := HE.out
  have hB1 := e2.trans (hb1.mono e2.size)
  have g1 := heap_b e3 hb1
  have g2 := heap_b e4 hb1
  have g3 := heap_b e5 hb1
  obtain ⟨_, x0, x1, x2⟩ := row3_facts g1
  have hT1 := HT.out.below hB1
  have hC1 : Bcap w1 (.slice ba C bc) C := Bcap.below HC.out HT.out.buf hB1
  have y0 := (cell_of_row _ _ 0 _ _ _ g2).trans rfl
  have y1 := (cell_of_row _ _ 1 _ _ _ g2).trans rfl
  have y2 := (cell_of_row _ _ 2 _ _ _ g2).trans rfl
  have y3 := (cell_of_row _ _ 3 _ _ _ g2).trans rfl
  have y4 := (cell_of_row _ _ 4 _ _ _ g2).trans rfl
  have hl3 := lt_of_block g3
  clear e1 e2 e3 e4 e5 hb1 HE HT hokc g1 g2
  go_wp2_with fail
  refine (l10Do_any _ _ _ d C k co va vl rg _ hT1 HX.out hC1).mono ?_
  rintro e w2 ⟨m, b, r, vb, vr, tag, rfl, ta, hb2, hcp⟩
  obtain ⟨⟨ma2, mc2, rfl⟩, ⟨ba2, bc2, rfl⟩, ⟨ra2, rc2, rfl⟩⟩ := three_of (Ta.tv ta)
  have g3' := heap_b g3 hb2
  obtain ⟨fr, r0, r1, r2⟩ := row3_facts g3'
  have hB2 := hB1.trans (hb2.mono hB1.size)
  have HF := hide (fin3 (w := w) (RB := w.heap.size + 1 + 1) ta (by omega) (by omega) hB2 (by have := hB1.size; omega))
  clear g3 g3' hB1 hB2 hb2 ta hT1 hC1 x0 x1 x2 y0 y1 y2 y3 y4 HC
  generalize hnl : (nxt d C k co va vl rg).zs.length = nl at HF ⊢
  generalize hok : okc d C k co va vl rg = ok at HF ⊢
  have HOK := hide hok
  clear hok hnl
  go_wp2
  refine bodyPost_ret (v := .tuple #[.agg #[.slice ma2 nl mc2, .slice ba2 C bc2, .slice ra2 C rc2], .int .i64 ok]) (by simp [results, Try.results19, go_sem, r0, r1, r2]) rfl ⟨_, _, _, vb, vr, tag, by rw [HOK.out], HF.out.1, HF.out.2, hcp⟩


end Go.Proofs.Ytneofegnbflfiaa
