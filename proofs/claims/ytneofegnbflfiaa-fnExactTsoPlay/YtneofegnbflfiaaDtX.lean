/- DtA, DtB, DtC, DtD, DtE, DtF, in one text (written by mkMerge.py) -/
import Derived.Test.YtneofegnbflfiaaTpD
import Derived.Deep.Heap
import Derived.Deep.RegionHeld3
/- an act keeps a right Tso right; spec.TsoDo once more, with the room of its buffers -/
namespace Go.Proofs.Ytneofegnbflfiaa
open Go.RowKit
set_option linter.unusedVariables false
set_option linter.unusedSimpArgs false

theorem sn_dig {zs : List Int} {f : Nat → Nat → Int} {v n : Nat} (h : ∀ j, j < 3 → 0 ≤ zs.getD j 0 ∧ zs.getD j 0 < 10) (hf : ∀ j, j < n → 0 ≤ f j 1 ∧ f j 1 < 10) (hv : v < 3) : 0 ≤ sn zs f v n ∧ sn zs f v n < 10 := by
  induction n with
  | zero => exact h v hv
  | succ n ih =>
    rw [sn]
    split
    · exact hf n (by omega)
    · exact ih (fun j hj => hf j (by omega))
theorem nxt_tok {d : Td} {C : Nat} {k co va vl rg : Int} (h : tokD d C = true) : tokD (nxt d C k co va vl rg) C = true := by
  obtain ⟨h1, h2, h3, h4, h5⟩ := tok_parts h
  cases hf : fmB C k co va vl rg
  · rw [(ok_form (d := d) hf).2]; exact h
  have hc := fm_core hf
  obtain ⟨c, rfl⟩ : ∃ c : Nat, co = c := ⟨co.toNat, by omega⟩
  have hcC : c < C := by omega
  obtain ⟨a, b, e, g⟩ := h5 c hcC
  by_cases k1 : k = 1
  · subst k1
    have q := ok1 (d := d) hf
    simp only [Int.toNat_natCast] at q
    by_cases h4' : 4 ≤ d.L c
    · rw [(q.1 h4').2]; exact h
    rw [(q.2 h4').2]
    have hv : (0 ≤ va ∧ va < 3) ∧ 0 ≤ vl ∧ vl < 10 := by
      unfold fmB at hf
      rw [if_pos rfl] at hf
      simp only [Bool.and_eq_true, inB, decide_eq_true_eq] at hf
      omega
    refine tok_of ⟨h1, rfl, h3, h4, fun c' hc' => ?_⟩
    obtain ⟨a', b', e', g'⟩ := h5 c' hc'
    by_cases q' : c' = c
    · subst q'
      simp only [upd_at]
      refine ⟨by omega, fun j hj => ?_, e', g'⟩
      by_cases ej : j = d.L c'
      · subst ej
        simp only [snocF, upd_at]
        exact hv
      · simp only [snocF, upd_ne ej]
        exact b' j (by omega)
    · simp only [upd_ne q']
      exact ⟨a', b', e', g'⟩
  by_cases k2 : k = 2
  · subst k2
    obtain ⟨⟨_, q⟩, hva, hrg⟩ := ok2 (d := d) hf
    rw [q]
    simp only [Int.toNat_natCast]
    refine tok_of ⟨h1, rfl, h3, h4, fun c' hc' => ?_⟩
    obtain ⟨a', b', e', g'⟩ := h5 c' hc'
    by_cases q' : c' = c
    · subst q'
      simp only [upd_at]
      exact ⟨a', b', by rw [List.length_set]; exact e', set_dig g' e' (sn_dig h4 (fun j hj => (b' j hj).2) (by omega))⟩
    · simp only [upd_ne q']
      exact ⟨a', b', e', g'⟩
  by_cases k3 : k = 3
  · subst k3
    rw [(ok3 (d := d) hf).2]; exact h
  have k4 : k = 4 := by
    unfold fmB at hf
    rw [if_neg k1, if_neg k2] at hf
    simp only [Bool.and_eq_true, Bool.or_eq_true, decide_eq_true_eq] at hf
    omega
  subst k4
  have q := ok4 (d := d) hf
  simp only [Int.toNat_natCast] at q
  by_cases hp : d.L c = 0
  · rw [(q.1 hp).2]; exact h
  · rw [(q.2 (by omega)).2]
    exact dn_tok h hcC (by omega)

set_option maxHeartbeats 4000000 in
set_option maxRecDepth 20000 in
theorem specTsoDo_cap (mv bv rv : Value) (d : Td) (C : Nat) (k co va vl rg : Int) (w : World) (h : Tv w mv bv rv d.zs C d.L d.F C d.Z) (hok : tokD d C = true) (hcap : Bcap w bv C) :
    Calls Try.prog 19 #[.agg #[mv, bv, rv], .agg (five k co va vl rg)] w fun e w' => ∃ m b r vb vr tag, e = .returned (.tuple #[.agg #[m, b, r], .int .i64 (okc d C k co va vl rg)]) ∧ TaD w' w.heap.size m b r (nxt d C k co va vl rg) C vb vr tag ∧ Below w.heap.size w w' ∧ Cpd vb C := by
  obtain ⟨⟨ma, mc, rfl⟩, ⟨ba, bc, rfl⟩, ⟨ra, rc, rfl⟩⟩ := three_of h
  have HT := hide h
  have HC := hide hcap
  clear h hcap
  obtain ⟨W, hW⟩ : ∃ W, ((w.alloc (.cells #[.slice ma d.zs.length mc, .slice ba C bc, .slice ra C rc] 28)).alloc (.cells (five k co va vl rg) 37)).alloc (.cells #[nil3, nil3, nil3] 28) = W := ⟨_, rfl⟩
  have hWs : W.heap.size = w.heap.size + 1 + 1 + 1 := by rw [← hW]; simp
  have hB0 : Below w.heap.size w W := by rw [← hW]; exact (((Below.refl _ _).alloc (Nat.le_refl _) _).alloc (by simp) _).alloc (by simp; omega) _
  have g1 : W.heap[w.heap.size]? = some (.cells #[.slice ma d.zs.length mc, .slice ba C bc, .slice ra C rc] 28 (0, 0)) := by rw [← hW, Below.heap_alloc _ _ _ (by simp; omega), Below.heap_alloc _ _ _ (by simp)]; exact heap_alloc_new _ _
  have g2 : W.heap[w.heap.size + 1]? = some (.cells (five k co va vl rg) 37 (0, 0)) := by
    rw [← hW, Below.heap_alloc _ _ _ (by simp)]
    have := heap_alloc_new (w.alloc (.cells #[.slice ma d.zs.length mc, .slice ba C bc, .slice ra C rc] 28)) (.cells (five k co va vl rg) 37)
    simpa only [World.size_alloc] using this
  have g3 : W.heap[w.heap.size + 1 + 1]? = some (.cells #[nil3, nil3, nil3] 28 (0, 0)) := by
    rw [← hW]
    have := heap_alloc_new ((w.alloc (.cells #[.slice ma d.zs.length mc, .slice ba C bc, .slice ra C rc] 28)).alloc (.cells (five k co va vl rg) 37)) (.cells #[nil3, nil3, nil3] 28)
    simpa only [World.size_alloc] using this
  have HE := hide (And.intro hWs (And.intro hB0 (And.intro g1 (And.intro g2 g3))))
  have hokc := fun W h => specTsoOk_any (.slice ma d.zs.length mc) (.slice ba C bc) (.slice ra C rc) d.zs C d.L d.F C d.Z W h
  subst hW
  clear hWs hB0 g1 g2 g3
  have HX := hide hok
  have hok2 : tokB d.zs C d.L d.F C d.Z = true := hok
  rw [hok2] at hokc
  clear hok hok2
  go_enter Try.func19, Try.ntmps19
  go_wp2_with fail
  refine (hokc _ (HT.out.below HE.out.2.1)).mono ?_
  rintro e w1 ⟨rfl, hb1⟩
  obtain ⟨e1, e2, e3, e4, e5⟩ := HE.out
  have hB1 := e2.trans (hb1.mono e2.size)
  have g1 := heap_b e3 hb1
  have g2 := heap_b e4 hb1
  have g3 := heap_b e5 hb1
  obtain ⟨_, x0, x1, x2⟩ := row3_facts g1
  have hT1 := HT.out.below hB1
  have hC1 : Bcap w1 (.slice ba C bc) C := Bcap.below HC.out HT.out.buf hB1
  have y0 := (cell_of_row _ _ 0 _ _ _ g2).trans rfl
  have y1 := (cell_of_row _ _ 1 _ _ _ g2).trans rfl
  have y2 := (cell_of_row _ _ 2 _ _ _ g2).trans rfl
  have y3 := (cell_of_row _ _ 3 _ _ _ g2).trans rfl
  have y4 := (cell_of_row _ _ 4 _ _ _ g2).trans rfl
  have hl3 := lt_of_block g3
  clear e1 e2 e3 e4 e5 hb1 HE HT hokc g1 g2
  go_wp2_with fail
  refine (l10Do_any _ _ _ d C k co va vl rg _ hT1 HX.out hC1).mono ?_
  rintro e w2 ⟨m, b, r, vb, vr, tag, rfl, ta, hb2, hcp⟩
  obtain ⟨⟨ma2, mc2, rfl⟩, ⟨ba2, bc2, rfl⟩, ⟨ra2, rc2, rfl⟩⟩ := three_of (Ta.tv ta)
  have g3' := heap_b g3 hb2
  obtain ⟨fr, r0, r1, r2⟩ := row3_facts g3'
  have hB2 := hB1.trans (hb2.mono hB1.size)
  have HF := hide (fin3 (w := w) (RB := w.heap.size + 1 + 1) ta (by omega) (by omega) hB2 (by have := hB1.size; omega))
  clear g3 g3' hB1 hB2 hb2 ta hT1 hC1 x0 x1 x2 y0 y1 y2 y3 y4 HC
  generalize hnl : (nxt d C k co va vl rg).zs.length = nl at HF ⊢
  generalize hok : okc d C k co va vl rg = ok at HF ⊢
  have HOK := hide hok
  clear hok hnl
  go_wp2
  refine bodyPost_ret (v := .tuple #[.agg #[.slice ma2 nl mc2, .slice ba2 C bc2, .slice ra2 C rc2], .int .i64 ok]) (by simp [results, Try.results19, go_sem, r0, r1, r2]) rfl ⟨_, _, _, vb, vr, tag, by rw [HOK.out], HF.out.1, HF.out.2, hcp⟩


end Go.Proofs.Ytneofegnbflfiaa

/- the reader's act (written by mkDtB.py) -/
namespace Go.Proofs.Ytneofegnbflfiaa
open Go.RowKit
set_option linter.unusedVariables false
set_option linter.unusedSimpArgs false

theorem gr_young {w wr w2 : World} {g : Nat} {row : Option Nat} (h : w.grownBy wr (some g)) (k : wr.grownBy w2 row) (hr : ∀ j, row = some j → w.heap.size ≤ j) : w.grownBy w2 (some g) :=
  ⟨k.os.trans h.os, k.tape.trans h.tape, k.output.trans h.output, Nat.le_trans h.size k.size, fun j hj hne => (k.block j (Nat.lt_of_lt_of_le hj h.size) (fun e => by have := hr j e.symm; omega)).trans (h.block j hj hne)⟩
/-- the world of an act that is drawn: the reader, the result's block, the act's -/
structure BW (w0 w : World) (g S : Nat) (a b c d f : Int) : Prop where
  rd : Rdr w g
  gr : w0.grownBy w (some g)
  res : w.heap[w0.heap.size]? = some (.cells (five 0 0 0 0 0) 37 (0, 0))
  sl : w.heap[S]? = some (.cells (five a b c d f) 37 (0, 0))
  lg : g < w0.heap.size
  lS : w0.heap.size < S
theorem bw_start {w w1 : World} {g : Nat} (h : Rdr w1 g) (hlt : g < w.heap.size) (hg : (w.alloc (.cells (five 0 0 0 0 0) 37)).grownBy w1 (some g)) (c : Int) : BW w (w1.alloc (.cells (five 0 c 0 0 0) 37)) g w1.heap.size 0 c 0 0 0 := by
  have hz := hg.size
  simp only [World.size_alloc] at hz
  refine ⟨h.grown (grown_alloc _ _ none) (fun k hk => by cases hk), grown_trans (grown_trans (grown_alloc _ _ _) hg) (grown_alloc _ _ _), ?_, heap_alloc_new _ _, hlt, by omega⟩
  rw [Below.heap_alloc _ _ _ (by omega), hg.block _ (by simp) (fun e => by simp at e; omega)]
  exact heap_alloc_new _ _
theorem BW.read {w0 w w' : World} {g S : Nat} {a b c d f : Int} (h : BW w0 w g S a b c d f) (hr : Rdr w' g) (hg : w.grownBy w' (some g)) : BW w0 w' g S a b c d f := by
  have hlt : S < w.heap.size := lt_of_block h.sl
  have := h.lg
  have := h.lS
  refine ⟨hr, grown_trans h.gr hg, ?_, ?_, h.lg, h.lS⟩
  · rw [hg.block _ (by omega) (fun e => by simp at e; omega)]; exact h.res
  · rw [hg.block _ hlt (fun e => by simp at e; omega)]; exact h.sl
theorem BW.facts {w0 w : World} {g S : Nat} {a b c d f : Int} (h : BW w0 w g S a b c d f) :
    (∀ i, w.frozen? ⟨S, i, none⟩ = false) ∧ w.cell? ⟨S, 0, none⟩ = some (.int .i64 a) ∧ w.cell? ⟨S, 1, none⟩ = some (.int .i64 b) ∧ w.cell? ⟨S, 2, none⟩ = some (.int .i64 c) ∧ w.cell? ⟨S, 3, none⟩ = some (.int .i64 d) ∧ w.cell? ⟨S, 4, none⟩ = some (.int .i64 f) := by
  refine ⟨fun i => frozen_of_row w S i _ _ h.sl, ?_, ?_, ?_, ?_, ?_⟩
  all_goals rw [cell_of_row w S _ _ _ _ h.sl]; rfl
theorem BW.ends {w0 w : World} {g S : Nat} {a b c d f : Int} (h : BW w0 w g S a b c d f) :
    (∀ i, w.frozen? ⟨w0.heap.size, i, none⟩ = false) ∧ w.cell? ⟨w0.heap.size, 0, none⟩ = some (.int .i64 0) ∧ w.cell? ⟨w0.heap.size, 1, none⟩ = some (.int .i64 0) ∧ w.cell? ⟨w0.heap.size, 2, none⟩ = some (.int .i64 0) ∧ w.cell? ⟨w0.heap.size, 3, none⟩ = some (.int .i64 0) ∧ w.cell? ⟨w0.heap.size, 4, none⟩ = some (.int .i64 0) := by
  refine ⟨fun i => frozen_of_row w _ i _ _ h.res, ?_, ?_, ?_, ?_, ?_⟩
  all_goals rw [cell_of_row w _ _ _ _ _ h.res]; rfl
theorem BW.put {w0 w : World} {g S : Nat} {a b c d f a' b' c' d' f' : Int} (h : BW w0 w g S a b c d f) (i : Nat) (x : Int) (he : (five a b c d f).setIfInBounds i (.int .i64 x) = five a' b' c' d' f') : BW w0 (w.setCell ⟨S, i, none⟩ (.int .i64 x)) g S a' b' c' d' f' := by
  have h1 := h.lg
  have h2 := h.lS
  refine ⟨h.rd.grown (grown_set w S i _) (fun k hk => by simp only [Option.some.injEq] at hk; omega), gr_young h.gr (grown_set w S i _) (fun k hk => by simp only [Option.some.injEq] at hk; omega), ?_, ?_, h1, h2⟩
  · rw [heap_setCell_other _ _ _ _ (by show w0.heap.size ≠ S; omega)]; exact h.res
  · rw [← he]; exact heap_setCell_same w S i _ _ _ h.sl
/-- the end: the result's block written -/
theorem BW.fin {w0 w : World} {g S : Nat} {a b c d f : Int} (h : BW w0 w g S a b c d f) (v0 v1 v2 v3 v4 : Value) :
    Rdr (((((w.setCell ⟨w0.heap.size, 0, none⟩ v0).setCell ⟨w0.heap.size, 1, none⟩ v1).setCell ⟨w0.heap.size, 2, none⟩ v2).setCell ⟨w0.heap.size, 3, none⟩ v3).setCell ⟨w0.heap.size, 4, none⟩ v4) g ∧ w0.grownBy (((((w.setCell ⟨w0.heap.size, 0, none⟩ v0).setCell ⟨w0.heap.size, 1, none⟩ v1).setCell ⟨w0.heap.size, 2, none⟩ v2).setCell ⟨w0.heap.size, 3, none⟩ v3).setCell ⟨w0.heap.size, 4, none⟩ v4) (some g) := by
  have h1 := h.lg
  have hg := grown_trans (grown_trans (grown_trans (grown_trans (grown_set w w0.heap.size 0 v0) (grown_set _ w0.heap.size 1 v1)) (grown_set _ w0.heap.size 2 v2)) (grown_set _ w0.heap.size 3 v3)) (grown_set _ w0.heap.size 4 v4)
  exact ⟨h.rd.grown hg (fun k hk => by simp only [Option.some.injEq] at hk; omega), gr_young h.gr hg (fun k hk => by simp only [Option.some.injEq] at hk; omega)⟩

set_option maxHeartbeats 8000000 in
set_option maxRecDepth 20000 in
theorem bact_any (g : Nat) (w : World) (h : Rdr w g) : Calls Try.prog 53 #[.pointer (some ⟨g, 0, none⟩)] w fun e w' => ∃ a b c d f : Int, e = .returned (.agg (five a b c d f)) ∧ Rdr w' g ∧ w.grownBy w' (some g) := by
  have hgl := h.lt
  go_enter Try.func53, Try.ntmps53
  go_wp2_with fail
  refine (below_any g 2 _ (h.grown (grown_alloc _ _ none) (fun k hk => by cases hk)) (by decide) (by decide)).mono ?_
  rintro e w1 ⟨co, rfl, _, _, hr, hg⟩
  have sw := bw_start hr hgl hg co
  have hne1 : ¬ w.heap.size = w1.heap.size := by have := sw.lS; omega
  have hne2 : ¬ w1.heap.size = w.heap.size := fun e => hne1 e.symm
  clear hr hg h
  go_wp2_with fail
  refine (below_any g 8 _ sw.rd (by decide) (by decide)).mono ?_
  rintro e w2 ⟨x, rfl, hx0, hx1, hr, hg⟩
  replace sw := sw.read hr hg
  clear hr hg
  rcases (show x = 0 ∨ x = 1 ∨ x = 2 ∨ x = 3 ∨ x = 4 ∨ x = 5 ∨ x = 6 ∨ x = 7 by omega) with hx | hx | hx | hx | hx | hx | hx | hx
  · subst hx
    clear hx0 hx1
    obtain ⟨fz, q0, q1, q2, q3, q4⟩ := sw.facts
    go_wp2_with fail
    replace sw := sw.put 0 1 rfl
    clear fz q0 q1 q2 q3 q4
    refine (below_any g 3 _ sw.rd (by decide) (by decide)).mono ?_
    rintro e w10 ⟨va, rfl, hva0, hva1, hr, hg⟩
    replace sw := sw.read hr hg
    clear hr hg
    obtain ⟨fz, q0, q1, q2, q3, q4⟩ := sw.facts
    go_wp2_with fail
    replace sw := sw.put 2 va rfl
    clear fz q0 q1 q2 q3 q4
    refine (below_any g 3 _ sw.rd (by decide) (by decide)).mono ?_
    rintro e w10 ⟨vl, rfl, hvl0, hvl1, hr, hg⟩
    replace sw := sw.read hr hg
    clear hr hg
    obtain ⟨fz, q0, q1, q2, q3, q4⟩ := sw.facts
    have hw : wrap64 (1 + vl) = 1 + vl := Go.IntWalk.wrap64_in _ (by omega)
    go_wp2_with fail
    replace sw := sw.put 3 (1 + vl) rfl
    clear fz q0 q1 q2 q3 q4
    refine (once_any g 30 _ sw.rd (by decide) (by decide)).mono ?_
    rintro e w7 ⟨t, rfl, hr, hg⟩
    replace sw := sw.read hr hg
    clear hr hg
    obtain ⟨fz, q0, q1, q2, q3, q4⟩ := sw.facts
    cases t with
    | false =>
      obtain ⟨fy, y0, y1, y2, y3, y4⟩ := sw.ends
      have HF := hide (sw.fin (.int .i64 (1)) (.int .i64 (co)) (.int .i64 (va)) (.int .i64 (1 + vl)) (.int .i64 (0)))
      clear sw
      go_wp2
      refine bodyPost_ret (v := .agg (five (1) (co) (va) (1 + vl) (0))) (by simp [results, Try.results53, go_sem, y0, y1, y2, y3, y4, hne1, hne2]) rfl ⟨_, _, _, _, _, rfl, ?_, ?_⟩
      · exact HF.out.1
      · exact HF.out.2
    | true =>
      go_wp2_with fail
      clear fz q0 q1 q2 q3 q4
      refine (off_any g 0 2 _ sw.rd (by decide) (by decide) (by decide)).mono ?_
      rintro e w8 ⟨z, rfl, hr, hg⟩
      replace sw := sw.read hr hg
      clear hr hg
      obtain ⟨fz, q0, q1, q2, q3, q4⟩ := sw.facts
      obtain ⟨fy, y0, y1, y2, y3, y4⟩ := sw.ends
      replace sw := sw.put 2 z rfl
      have HF := hide (sw.fin (.int .i64 (1)) (.int .i64 (co)) (.int .i64 (z)) (.int .i64 (1 + vl)) (.int .i64 (0)))
      clear sw
      go_wp2
      refine bodyPost_ret (v := .agg (five (1) (co) (z) (1 + vl) (0))) (by simp [results, Try.results53, go_sem, y0, y1, y2, y3, y4, hne1, hne2]) rfl ⟨_, _, _, _, _, rfl, ?_, ?_⟩
      · exact HF.out.1
      · exact HF.out.2
  · subst hx
    clear hx0 hx1
    obtain ⟨fz, q0, q1, q2, q3, q4⟩ := sw.facts
    go_wp2_with fail
    replace sw := sw.put 0 1 rfl
    clear fz q0 q1 q2 q3 q4
    refine (below_any g 3 _ sw.rd (by decide) (by decide)).mono ?_
    rintro e w10 ⟨va, rfl, hva0, hva1, hr, hg⟩
    replace sw := sw.read hr hg
    clear hr hg
    obtain ⟨fz, q0, q1, q2, q3, q4⟩ := sw.facts
    go_wp2_with fail
    replace sw := sw.put 2 va rfl
    clear fz q0 q1 q2 q3 q4
    refine (below_any g 3 _ sw.rd (by decide) (by decide)).mono ?_
    rintro e w10 ⟨vl, rfl, hvl0, hvl1, hr, hg⟩
    replace sw := sw.read hr hg
    clear hr hg
    obtain ⟨fz, q0, q1, q2, q3, q4⟩ := sw.facts
    have hw : wrap64 (1 + vl) = 1 + vl := Go.IntWalk.wrap64_in _ (by omega)
    go_wp2_with fail
    replace sw := sw.put 3 (1 + vl) rfl
    clear fz q0 q1 q2 q3 q4
    refine (once_any g 30 _ sw.rd (by decide) (by decide)).mono ?_
    rintro e w7 ⟨t, rfl, hr, hg⟩
    replace sw := sw.read hr hg
    clear hr hg
    obtain ⟨fz, q0, q1, q2, q3, q4⟩ := sw.facts
    cases t with
    | false =>
      obtain ⟨fy, y0, y1, y2, y3, y4⟩ := sw.ends
      have HF := hide (sw.fin (.int .i64 (1)) (.int .i64 (co)) (.int .i64 (va)) (.int .i64 (1 + vl)) (.int .i64 (0)))
      clear sw
      go_wp2
      refine bodyPost_ret (v := .agg (five (1) (co) (va) (1 + vl) (0))) (by simp [results, Try.results53, go_sem, y0, y1, y2, y3, y4, hne1, hne2]) rfl ⟨_, _, _, _, _, rfl, ?_, ?_⟩
      · exact HF.out.1
      · exact HF.out.2
    | true =>
      go_wp2_with fail
      clear fz q0 q1 q2 q3 q4
      refine (off_any g 0 2 _ sw.rd (by decide) (by decide) (by decide)).mono ?_
      rintro e w8 ⟨z, rfl, hr, hg⟩
      replace sw := sw.read hr hg
      clear hr hg
      obtain ⟨fz, q0, q1, q2, q3, q4⟩ := sw.facts
      obtain ⟨fy, y0, y1, y2, y3, y4⟩ := sw.ends
      replace sw := sw.put 2 z rfl
      have HF := hide (sw.fin (.int .i64 (1)) (.int .i64 (co)) (.int .i64 (z)) (.int .i64 (1 + vl)) (.int .i64 (0)))
      clear sw
      go_wp2
      refine bodyPost_ret (v := .agg (five (1) (co) (z) (1 + vl) (0))) (by simp [results, Try.results53, go_sem, y0, y1, y2, y3, y4, hne1, hne2]) rfl ⟨_, _, _, _, _, rfl, ?_, ?_⟩
      · exact HF.out.1
      · exact HF.out.2
  · subst hx
    clear hx0 hx1
    obtain ⟨fz, q0, q1, q2, q3, q4⟩ := sw.facts
    go_wp2_with fail
    replace sw := sw.put 0 1 rfl
    clear fz q0 q1 q2 q3 q4
    refine (below_any g 3 _ sw.rd (by decide) (by decide)).mono ?_
    rintro e w10 ⟨va, rfl, hva0, hva1, hr, hg⟩
    replace sw := sw.read hr hg
    clear hr hg
    obtain ⟨fz, q0, q1, q2, q3, q4⟩ := sw.facts
    go_wp2_with fail
    replace sw := sw.put 2 va rfl
    clear fz q0 q1 q2 q3 q4
    refine (below_any g 3 _ sw.rd (by decide) (by decide)).mono ?_
    rintro e w10 ⟨vl, rfl, hvl0, hvl1, hr, hg⟩
    replace sw := sw.read hr hg
    clear hr hg
    obtain ⟨fz, q0, q1, q2, q3, q4⟩ := sw.facts
    have hw : wrap64 (1 + vl) = 1 + vl := Go.IntWalk.wrap64_in _ (by omega)
    go_wp2_with fail
    replace sw := sw.put 3 (1 + vl) rfl
    clear fz q0 q1 q2 q3 q4
    refine (once_any g 30 _ sw.rd (by decide) (by decide)).mono ?_
    rintro e w7 ⟨t, rfl, hr, hg⟩
    replace sw := sw.read hr hg
    clear hr hg
    obtain ⟨fz, q0, q1, q2, q3, q4⟩ := sw.facts
    cases t with
    | false =>
      obtain ⟨fy, y0, y1, y2, y3, y4⟩ := sw.ends
      have HF := hide (sw.fin (.int .i64 (1)) (.int .i64 (co)) (.int .i64 (va)) (.int .i64 (1 + vl)) (.int .i64 (0)))
      clear sw
      go_wp2
      refine bodyPost_ret (v := .agg (five (1) (co) (va) (1 + vl) (0))) (by simp [results, Try.results53, go_sem, y0, y1, y2, y3, y4, hne1, hne2]) rfl ⟨_, _, _, _, _, rfl, ?_, ?_⟩
      · exact HF.out.1
      · exact HF.out.2
    | true =>
      go_wp2_with fail
      clear fz q0 q1 q2 q3 q4
      refine (off_any g 0 2 _ sw.rd (by decide) (by decide) (by decide)).mono ?_
      rintro e w8 ⟨z, rfl, hr, hg⟩
      replace sw := sw.read hr hg
      clear hr hg
      obtain ⟨fz, q0, q1, q2, q3, q4⟩ := sw.facts
      obtain ⟨fy, y0, y1, y2, y3, y4⟩ := sw.ends
      replace sw := sw.put 2 z rfl
      have HF := hide (sw.fin (.int .i64 (1)) (.int .i64 (co)) (.int .i64 (z)) (.int .i64 (1 + vl)) (.int .i64 (0)))
      clear sw
      go_wp2
      refine bodyPost_ret (v := .agg (five (1) (co) (z) (1 + vl) (0))) (by simp [results, Try.results53, go_sem, y0, y1, y2, y3, y4, hne1, hne2]) rfl ⟨_, _, _, _, _, rfl, ?_, ?_⟩
      · exact HF.out.1
      · exact HF.out.2
  · subst hx
    clear hx0 hx1
    obtain ⟨fz, q0, q1, q2, q3, q4⟩ := sw.facts
    go_wp2_with fail
    replace sw := sw.put 0 2 rfl
    clear fz q0 q1 q2 q3 q4
    refine (below_any g 3 _ sw.rd (by decide) (by decide)).mono ?_
    rintro e w10 ⟨va, rfl, hva0, hva1, hr, hg⟩
    replace sw := sw.read hr hg
    clear hr hg
    obtain ⟨fz, q0, q1, q2, q3, q4⟩ := sw.facts
    go_wp2_with fail
    replace sw := sw.put 2 va rfl
    clear fz q0 q1 q2 q3 q4
    refine (below_any g 2 _ sw.rd (by decide) (by decide)).mono ?_
    rintro e w10 ⟨rg, rfl, hrg0, hrg1, hr, hg⟩
    replace sw := sw.read hr hg
    clear hr hg
    obtain ⟨fz, q0, q1, q2, q3, q4⟩ := sw.facts
    go_wp2_with fail
    replace sw := sw.put 4 rg rfl
    clear fz q0 q1 q2 q3 q4
    refine (once_any g 30 _ sw.rd (by decide) (by decide)).mono ?_
    rintro e w7 ⟨t, rfl, hr, hg⟩
    replace sw := sw.read hr hg
    clear hr hg
    obtain ⟨fz, q0, q1, q2, q3, q4⟩ := sw.facts
    cases t with
    | false =>
      obtain ⟨fy, y0, y1, y2, y3, y4⟩ := sw.ends
      have HF := hide (sw.fin (.int .i64 (2)) (.int .i64 (co)) (.int .i64 (va)) (.int .i64 (0)) (.int .i64 (rg)))
      clear sw
      go_wp2
      refine bodyPost_ret (v := .agg (five (2) (co) (va) (0) (rg))) (by simp [results, Try.results53, go_sem, y0, y1, y2, y3, y4, hne1, hne2]) rfl ⟨_, _, _, _, _, rfl, ?_, ?_⟩
      · exact HF.out.1
      · exact HF.out.2
    | true =>
      go_wp2_with fail
      clear fz q0 q1 q2 q3 q4
      refine (off_any g 0 2 _ sw.rd (by decide) (by decide) (by decide)).mono ?_
      rintro e w8 ⟨z, rfl, hr, hg⟩
      replace sw := sw.read hr hg
      clear hr hg
      obtain ⟨fz, q0, q1, q2, q3, q4⟩ := sw.facts
      obtain ⟨fy, y0, y1, y2, y3, y4⟩ := sw.ends
      replace sw := sw.put 2 z rfl
      have HF := hide (sw.fin (.int .i64 (2)) (.int .i64 (co)) (.int .i64 (z)) (.int .i64 (0)) (.int .i64 (rg)))
      clear sw
      go_wp2
      refine bodyPost_ret (v := .agg (five (2) (co) (z) (0) (rg))) (by simp [results, Try.results53, go_sem, y0, y1, y2, y3, y4, hne1, hne2]) rfl ⟨_, _, _, _, _, rfl, ?_, ?_⟩
      · exact HF.out.1
      · exact HF.out.2
  · subst hx
    clear hx0 hx1
    obtain ⟨fz, q0, q1, q2, q3, q4⟩ := sw.facts
    go_wp2_with fail
    replace sw := sw.put 0 2 rfl
    clear fz q0 q1 q2 q3 q4
    refine (below_any g 3 _ sw.rd (by decide) (by decide)).mono ?_
    rintro e w10 ⟨va, rfl, hva0, hva1, hr, hg⟩
    replace sw := sw.read hr hg
    clear hr hg
    obtain ⟨fz, q0, q1, q2, q3, q4⟩ := sw.facts
    go_wp2_with fail
    replace sw := sw.put 2 va rfl
    clear fz q0 q1 q2 q3 q4
    refine (below_any g 2 _ sw.rd (by decide) (by decide)).mono ?_
    rintro e w10 ⟨rg, rfl, hrg0, hrg1, hr, hg⟩
    replace sw := sw.read hr hg
    clear hr hg
    obtain ⟨fz, q0, q1, q2, q3, q4⟩ := sw.facts
    go_wp2_with fail
    replace sw := sw.put 4 rg rfl
    clear fz q0 q1 q2 q3 q4
    refine (once_any g 30 _ sw.rd (by decide) (by decide)).mono ?_
    rintro e w7 ⟨t, rfl, hr, hg⟩
    replace sw := sw.read hr hg
    clear hr hg
    obtain ⟨fz, q0, q1, q2, q3, q4⟩ := sw.facts
    cases t with
    | false =>
      obtain ⟨fy, y0, y1, y2, y3, y4⟩ := sw.ends
      have HF := hide (sw.fin (.int .i64 (2)) (.int .i64 (co)) (.int .i64 (va)) (.int .i64 (0)) (.int .i64 (rg)))
      clear sw
      go_wp2
      refine bodyPost_ret (v := .agg (five (2) (co) (va) (0) (rg))) (by simp [results, Try.results53, go_sem, y0, y1, y2, y3, y4, hne1, hne2]) rfl ⟨_, _, _, _, _, rfl, ?_, ?_⟩
      · exact HF.out.1
      · exact HF.out.2
    | true =>
      go_wp2_with fail
      clear fz q0 q1 q2 q3 q4
      refine (off_any g 0 2 _ sw.rd (by decide) (by decide) (by decide)).mono ?_
      rintro e w8 ⟨z, rfl, hr, hg⟩
      replace sw := sw.read hr hg
      clear hr hg
      obtain ⟨fz, q0, q1, q2, q3, q4⟩ := sw.facts
      obtain ⟨fy, y0, y1, y2, y3, y4⟩ := sw.ends
      replace sw := sw.put 2 z rfl
      have HF := hide (sw.fin (.int .i64 (2)) (.int .i64 (co)) (.int .i64 (z)) (.int .i64 (0)) (.int .i64 (rg)))
      clear sw
      go_wp2
      refine bodyPost_ret (v := .agg (five (2) (co) (z) (0) (rg))) (by simp [results, Try.results53, go_sem, y0, y1, y2, y3, y4, hne1, hne2]) rfl ⟨_, _, _, _, _, rfl, ?_, ?_⟩
      · exact HF.out.1
      · exact HF.out.2
  · subst hx
    clear hx0 hx1
    obtain ⟨fz, q0, q1, q2, q3, q4⟩ := sw.facts
    go_wp2_with fail
    replace sw := sw.put 0 3 rfl
    clear fz q0 q1 q2 q3 q4
    refine (once_any g 30 _ sw.rd (by decide) (by decide)).mono ?_
    rintro e w7 ⟨t, rfl, hr, hg⟩
    replace sw := sw.read hr hg
    clear hr hg
    obtain ⟨fz, q0, q1, q2, q3, q4⟩ := sw.facts
    cases t with
    | false =>
      obtain ⟨fy, y0, y1, y2, y3, y4⟩ := sw.ends
      have HF := hide (sw.fin (.int .i64 (3)) (.int .i64 (co)) (.int .i64 (0)) (.int .i64 (0)) (.int .i64 (0)))
      clear sw
      go_wp2
      refine bodyPost_ret (v := .agg (five (3) (co) (0) (0) (0))) (by simp [results, Try.results53, go_sem, y0, y1, y2, y3, y4, hne1, hne2]) rfl ⟨_, _, _, _, _, rfl, ?_, ?_⟩
      · exact HF.out.1
      · exact HF.out.2
    | true =>
      go_wp2_with fail
      clear fz q0 q1 q2 q3 q4
      refine (off_any g 0 2 _ sw.rd (by decide) (by decide) (by decide)).mono ?_
      rintro e w8 ⟨z, rfl, hr, hg⟩
      replace sw := sw.read hr hg
      clear hr hg
      obtain ⟨fz, q0, q1, q2, q3, q4⟩ := sw.facts
      obtain ⟨fy, y0, y1, y2, y3, y4⟩ := sw.ends
      replace sw := sw.put 2 z rfl
      have HF := hide (sw.fin (.int .i64 (3)) (.int .i64 (co)) (.int .i64 (z)) (.int .i64 (0)) (.int .i64 (0)))
      clear sw
      go_wp2
      refine bodyPost_ret (v := .agg (five (3) (co) (z) (0) (0))) (by simp [results, Try.results53, go_sem, y0, y1, y2, y3, y4, hne1, hne2]) rfl ⟨_, _, _, _, _, rfl, ?_, ?_⟩
      · exact HF.out.1
      · exact HF.out.2
  · subst hx
    clear hx0 hx1
    obtain ⟨fz, q0, q1, q2, q3, q4⟩ := sw.facts
    go_wp2_with fail
    replace sw := sw.put 0 4 rfl
    clear fz q0 q1 q2 q3 q4
    refine (once_any g 30 _ sw.rd (by decide) (by decide)).mono ?_
    rintro e w7 ⟨t, rfl, hr, hg⟩
    replace sw := sw.read hr hg
    clear hr hg
    obtain ⟨fz, q0, q1, q2, q3, q4⟩ := sw.facts
    cases t with
    | false =>
      obtain ⟨fy, y0, y1, y2, y3, y4⟩ := sw.ends
      have HF := hide (sw.fin (.int .i64 (4)) (.int .i64 (co)) (.int .i64 (0)) (.int .i64 (0)) (.int .i64 (0)))
      clear sw
      go_wp2
      refine bodyPost_ret (v := .agg (five (4) (co) (0) (0) (0))) (by simp [results, Try.results53, go_sem, y0, y1, y2, y3, y4, hne1, hne2]) rfl ⟨_, _, _, _, _, rfl, ?_, ?_⟩
      · exact HF.out.1
      · exact HF.out.2
    | true =>
      go_wp2_with fail
      clear fz q0 q1 q2 q3 q4
      refine (off_any g 0 2 _ sw.rd (by decide) (by decide) (by decide)).mono ?_
      rintro e w8 ⟨z, rfl, hr, hg⟩
      replace sw := sw.read hr hg
      clear hr hg
      obtain ⟨fz, q0, q1, q2, q3, q4⟩ := sw.facts
      obtain ⟨fy, y0, y1, y2, y3, y4⟩ := sw.ends
      replace sw := sw.put 2 z rfl
      have HF := hide (sw.fin (.int .i64 (4)) (.int .i64 (co)) (.int .i64 (z)) (.int .i64 (0)) (.int .i64 (0)))
      clear sw
      go_wp2
      refine bodyPost_ret (v := .agg (five (4) (co) (z) (0) (0))) (by simp [results, Try.results53, go_sem, y0, y1, y2, y3, y4, hne1, hne2]) rfl ⟨_, _, _, _, _, rfl, ?_, ?_⟩
      · exact HF.out.1
      · exact HF.out.2
  · subst hx
    clear hx0 hx1
    obtain ⟨fz, q0, q1, q2, q3, q4⟩ := sw.facts
    go_wp2_with fail
    replace sw := sw.put 0 4 rfl
    clear fz q0 q1 q2 q3 q4
    refine (once_any g 30 _ sw.rd (by decide) (by decide)).mono ?_
    rintro e w7 ⟨t, rfl, hr, hg⟩
    replace sw := sw.read hr hg
    clear hr hg
    obtain ⟨fz, q0, q1, q2, q3, q4⟩ := sw.facts
    cases t with
    | false =>
      obtain ⟨fy, y0, y1, y2, y3, y4⟩ := sw.ends
      have HF := hide (sw.fin (.int .i64 (4)) (.int .i64 (co)) (.int .i64 (0)) (.int .i64 (0)) (.int .i64 (0)))
      clear sw
      go_wp2
      refine bodyPost_ret (v := .agg (five (4) (co) (0) (0) (0))) (by simp [results, Try.results53, go_sem, y0, y1, y2, y3, y4, hne1, hne2]) rfl ⟨_, _, _, _, _, rfl, ?_, ?_⟩
      · exact HF.out.1
      · exact HF.out.2
    | true =>
      go_wp2_with fail
      clear fz q0 q1 q2 q3 q4
      refine (off_any g 0 2 _ sw.rd (by decide) (by decide) (by decide)).mono ?_
      rintro e w8 ⟨z, rfl, hr, hg⟩
      replace sw := sw.read hr hg
      clear hr hg
      obtain ⟨fz, q0, q1, q2, q3, q4⟩ := sw.facts
      obtain ⟨fy, y0, y1, y2, y3, y4⟩ := sw.ends
      replace sw := sw.put 2 z rfl
      have HF := hide (sw.fin (.int .i64 (4)) (.int .i64 (co)) (.int .i64 (z)) (.int .i64 (0)) (.int .i64 (0)))
      clear sw
      go_wp2
      refine bodyPost_ret (v := .agg (five (4) (co) (z) (0) (0))) (by simp [results, Try.results53, go_sem, y0, y1, y2, y3, y4, hne1, hne2]) rfl ⟨_, _, _, _, _, rfl, ?_, ?_⟩
      · exact HF.out.1
      · exact HF.out.2

end Go.Proofs.Ytneofegnbflfiaa

/- the reader's Tso (written by mkDtC.py) -/
namespace Go.Proofs.Ytneofegnbflfiaa
open Go.RowKit
set_option linter.unusedVariables false
set_option linter.unusedSimpArgs false

/-- a Tso in a variable B, the answer's variable ahead of it (the world's first block), beside an elder reader g -/
structure Dt (w V : World) (g B base : Nat) (m b r : Value) (d : Td) (C : Nat) (vb vr : Nat → Value) (tag : Nat → Nat) : Prop where
  rd : Rdr V g
  gr : w.grownBy V (some g)
  res : V.heap[w.heap.size]? = some (.cells #[nil3, nil3, nil3] 28 (0, 0))
  box : V.heap[B]? = some (.cells #[m, b, r] 28 (0, 0))
  ta : TaD V base m b r d C vb vr tag
  cp : Cpd vb C
  off : B < base ∨ tag B = 100000
  lo : g < w.heap.size ∧ w.heap.size < B ∧ w.heap.size < base
theorem Dt.below {w V : World} {g B base : Nat} {m b r : Value} {d : Td} {C : Nat} {vb vr : Nat → Value} {tag : Nat → Nat} {V' : World} (h : Dt w V g B base m b r d C vb vr tag) (hb : Below V.heap.size V V') : Dt w V' g B base m b r d C vb vr tag :=
  ⟨h.rd.below hb, gr_young h.gr (grown_any (row := none) hb) (fun k hk => by cases hk), heap_b h.res hb, heap_b h.box hb, Ta.below h.ta hb, h.cp, h.off, h.lo⟩
theorem Dt.read {w V : World} {g B base : Nat} {m b r : Value} {d : Td} {C : Nat} {vb vr : Nat → Value} {tag : Nat → Nat} {V' : World} (h : Dt w V g B base m b r d C vb vr tag) (hr : Rdr V' g) (hg : V.grownBy V' (some g)) : Dt w V' g B base m b r d C vb vr tag := by
  obtain ⟨l1, l2, l3⟩ := h.lo
  exact ⟨hr, grown_trans h.gr hg, (hg.block _ (lt_of_block h.res) (by simp; omega)).trans h.res, (hg.block _ (lt_of_block h.box) (by simp; omega)).trans h.box, Ta.grown h.ta hg (fun k hk => by simp only [Option.some.injEq] at hk; omega), h.cp, h.off, h.lo⟩
/-- another Tso put into the variable -/
theorem Dt.put {w V : World} {g B base : Nat} {m b r : Value} {d : Td} {C : Nat} {vb vr : Nat → Value} {tag : Nat → Nat} {V' : World} {m' b' r' : Value} {d' : Td} {vb' vr' : Nat → Value} {tag' : Nat → Nat} (h : Dt w V g B base m b r d C vb vr tag) (ta : TaD V' V.heap.size m' b' r' d' C vb' vr' tag') (hb : Below V.heap.size V V') (hc : Cpd vb' C) :
    Dt w (((V'.setCell ⟨B, 0, none⟩ m').setCell ⟨B, 1, none⟩ b').setCell ⟨B, 2, none⟩ r') g B V.heap.size m' b' r' d' C vb' vr' tag' := by
  obtain ⟨l1, l2, l3⟩ := h.lo
  have h' := h.below hb
  have hlt := lt_of_block h.box
  have hlr := lt_of_block h.res
  have hgr : V'.grownBy (((V'.setCell ⟨B, 0, none⟩ m').setCell ⟨B, 1, none⟩ b').setCell ⟨B, 2, none⟩ r') (some B) := grown_trans (grown_trans (grown_set _ _ _ _) (grown_set _ _ _ _)) (grown_set _ _ _ _)
  refine ⟨h'.rd.grown hgr (fun k hk => by simp only [Option.some.injEq] at hk; omega), gr_young h'.gr hgr (fun k hk => by simp only [Option.some.injEq] at hk; omega), (hgr.block _ (lt_of_block h'.res) (by simp; omega)).trans h'.res, ?_, Ta.grown ta hgr (fun k hk => by simp only [Option.some.injEq] at hk; omega), hc, .inl hlt, ⟨l1, l2, by omega⟩⟩
  rw [heap_setCell_same _ _ 2 _ _ _ (heap_setCell_same _ _ 1 _ _ _ (heap_setCell_same _ _ 0 _ _ _ h'.box))]; rfl
/-- a cell of memory is another number -/
theorem Dt.poke {w V : World} {g B base : Nat} {b r : Value} {d : Td} {C : Nat} {vb vr : Nat → Value} {tag : Nat → Nat} {p o cap : Nat} (h : Dt w V g B base (.slice (some ⟨p, o, none⟩) d.zs.length cap) b r d C vb vr tag) (hz : 0 < d.zs.length) (z : Int) :
    Dt w (V.setCell ⟨p, o, none⟩ (.int .i64 z)) g B base (.slice (some ⟨p, o, none⟩) d.zs.length cap) b r ⟨d.zs.set 0 z, d.L, d.F, d.Z⟩ C vb vr tag := by
  obtain ⟨l1, l2, l3⟩ := h.lo
  obtain ⟨k1, k2, k3⟩ := h.ta.mb p o _ cap rfl hz
  have hgs := grown_set V p o (.int .i64 z)
  have hpB : B ≠ p := fun e => by rcases h.off with q | q
                                  · omega
                                  · rw [e, k3] at q; omega
  exact ⟨h.rd.grown hgs (fun k hk => by simp only [Option.some.injEq] at hk; omega), gr_young h.gr hgs (fun k hk => by simp only [Option.some.injEq] at hk; omega), (hgs.block _ (lt_of_block h.res) (by simp; omega)).trans h.res, (hgs.block _ (lt_of_block h.box) (by simpa using hpB)).trans h.box, Ta.setM (v := 0) h.ta hz, h.cp, h.off, h.lo⟩
theorem Dt.start {w w1 w2 : World} {g : Nat} {m b r : Value} {C : Nat} {vr : Nat → Value} {tag : Nat → Nat} (hr : Rdr w1 g) (hgl : g < w.heap.size) (hg : (w.alloc (.cells #[nil3, nil3, nil3] 28)).grownBy w1 (some g)) (ta : Ta w2 w1.heap.size m b r [0, 0, 0] C z0L z0F C z0Z z0V vr tag) (hb : Below w1.heap.size w1 w2) :
    ∃ tag', Dt w (w2.alloc (.cells #[m, b, r] 28)) g w2.heap.size w1.heap.size m b r nD C z0V vr tag' := by
  have hz := hg.size
  simp only [World.size_alloc] at hz
  have hA : Below w2.heap.size w2 (w2.alloc (.cells #[m, b, r] 28)) := (Below.refl _ _).alloc (Nat.le_refl _) _
  have hbA := hb.trans (hA.mono hb.size)
  have hs := hb.size
  have hres : w1.heap[w.heap.size]? = some (.cells #[nil3, nil3, nil3] 28 (0, 0)) := by
    rw [hg.block _ (by simp) (fun e => by simp at e; omega)]
    exact heap_alloc_new _ _
  refine ⟨fun g => if g < w2.heap.size then tag g else 100000, hr.below hbA, gr_young (grown_trans (grown_alloc _ _ _) hg) (grown_any (row := none) hbA) (fun k hk => by cases hk), heap_b hres hbA, heap_alloc_new _ _, (Ta.retag ta (fun g hg => if_pos hg)).below hA, fun c hc a n k e => ?_, .inr (if_neg (by omega)), ⟨hgl, by omega, by omega⟩⟩
  simp only [z0V, Value.slice.injEq] at e
  omega
theorem Dt.fin {w V : World} {g B base : Nat} {m b r : Value} {d : Td} {C : Nat} {vb vr : Nat → Value} {tag : Nat → Nat} (h : Dt w V g B base m b r d C vb vr tag) : TaD (((V.setCell ⟨w.heap.size, 0, none⟩ m).setCell ⟨w.heap.size, 1, none⟩ b).setCell ⟨w.heap.size, 2, none⟩ r) w.heap.size m b r d C vb vr tag ∧ Cpd vb C ∧ Rdr (((V.setCell ⟨w.heap.size, 0, none⟩ m).setCell ⟨w.heap.size, 1, none⟩ b).setCell ⟨w.heap.size, 2, none⟩ r) g ∧ w.grownBy (((V.setCell ⟨w.heap.size, 0, none⟩ m).setCell ⟨w.heap.size, 1, none⟩ b).setCell ⟨w.heap.size, 2, none⟩ r) (some g) := by
  obtain ⟨l1, l2, l3⟩ := h.lo
  have hgr : V.grownBy (((V.setCell ⟨w.heap.size, 0, none⟩ m).setCell ⟨w.heap.size, 1, none⟩ b).setCell ⟨w.heap.size, 2, none⟩ r) (some w.heap.size) := grown_trans (grown_trans (grown_set _ _ _ _) (grown_set _ _ _ _)) (grown_set _ _ _ _)
  exact ⟨(Ta.grown h.ta hgr (fun k hk => by simp only [Option.some.injEq] at hk; omega)).mono (by omega), h.cp, h.rd.grown hgr (fun k hk => by simp only [Option.some.injEq] at hk; omega), gr_young h.gr hgr (fun k hk => by simp only [Option.some.injEq] at hk; omega)⟩
theorem tok_small {d : Td} {C : Nat} (h : tokD d C = true) : Sml d C := by
  obtain ⟨h1, h2, h3, _, h5⟩ := tok_parts h
  exact ⟨by omega, by omega, fun c hc => by have := (h5 c hc).1; omega, fun c hc => by have := (h5 c hc).2.2.1; omega⟩
theorem Sml.poke {d : Td} {C : Nat} (h : Sml d C) (z : Int) : Sml ⟨d.zs.set 0 z, d.L, d.F, d.Z⟩ C := ⟨by show (d.zs.set 0 z).length ≤ _; rw [List.length_set]; exact h.zs, h.c, h.l, h.z⟩

set_option maxHeartbeats 8000000 in
set_option maxRecDepth 20000 in
theorem tso_any (g : Nat) (most : Int) (w : World) (h : Rdr w g) (hm0 : 0 ≤ most) (hm1 : most ≤ 1000) : Calls Try.prog 46 #[.pointer (some ⟨g, 0, none⟩), .int .i64 most] w fun e w' => ∃ m b r d C vb vr tag, e = .returned (.agg #[m, b, r]) ∧ TaD w' w.heap.size m b r d C vb vr tag ∧ Cpd vb C ∧ Sml d C ∧ Rdr w' g ∧ w.grownBy w' (some g) := by
  have hgl := h.lt
  have hmw : wrap64 (most + 1) = most + 1 := Go.IntWalk.wrap64_in _ (by omega)
  go_enter Try.func46, Try.ntmps46
  go_wp2_with fail
  refine (below_any g 2 _ (h.grown (grown_alloc _ _ none) (fun k hk => by cases hk)) (by decide) (by decide)).mono ?_
  rintro e w1 ⟨c, rfl, hc0, hc1, hr1, hg1⟩
  have hwc : wrap64 (2 + c) = 2 + c := Go.IntWalk.wrap64_in _ (by omega)
  obtain ⟨C, hC⟩ : ∃ C : Nat, 2 + c = C := ⟨(2 + c).toNat, by omega⟩
  have hnew : ∀ W, Calls Try.prog 44 #[.int .i64 C] W (NPost W [0, 0, 0] C true) := fun W => specNewT_yes C (by omega) (by omega) W
  have HT0 := hide (nD_tok C (by omega) (by omega))
  go_wp2_with fail
  refine (hnew _).mono ?_
  rintro e w2 ⟨m, b, r, vr, tag, rfl, ta, hb2⟩
  obtain ⟨xm, ym, xb, yb, xr, yr, rfl, rfl, rfl⟩ := Ta.three (n := 3) ta rfl
  obtain ⟨tag1, hD⟩ := Dt.start hr1 hgl hg1 ta hb2
  clear ta hb2 hr1 hg1 hnew h hwc hc0 hc1
  go_wp2_with fail
  refine (below_any g (most + 1) _ hD.rd (by omega) (by omega)).mono ?_
  rintro e w3 ⟨i, rfl, hi0, hi1, hr3, hg3⟩
  have HD : Hid (Dt w w3 g w2.heap.size w1.heap.size (.slice xm 3 ym) (.slice xb C yb) (.slice xr C yr) nD C z0V vr tag1 ∧ tokD nD C = true) := hide ⟨hD.read hr3 hg3, HT0.out⟩
  obtain ⟨n, rfl⟩ : ∃ n : Nat, i = n := ⟨i.toNat, by omega⟩
  generalize w2.heap.size = B at *
  clear hD hr3 hg3 hmw hi0
  go_wp2
  go_loopw [7] (fun i wr => ∃ (n : Nat) (m b r : Value) (d : Td) (vb vr : Nat → Value) (tag : Nat → Nat) (base : Nat), n ≤ 1000 ∧ i = .int .i64 n ∧ Hid (Dt w wr g B base m b r d C vb vr tag ∧ tokD d C = true)) (fun i _ => (intOf i).toNat)
  case atStart => exact ⟨n, _, _, _, _, _, _, _, _, by omega, rfl, HD⟩
  case round =>
    clear HD
    obtain ⟨n, m, b, r, d, vb, vr, tag, base, hn, rfl, HD⟩ := hrel
    have hz3 : d.zs.length = 3 := (tok_parts HD.out.2).2.2.1
    obtain ⟨ma, mc, ba, bc, ra, rc, rfl, rfl, rfl⟩ := Ta.three (n := 3) HD.out.1.ta hz3
    by_cases hlt : 0 < n
    · have hpos : (0 : Int) < (n : Int) := by omega
      have hkw : wrap64 ((n : Int) - 1) = ((n - 1 : Nat) : Int) := by rw [Go.IntWalk.wrap64_in _ (by omega)]; omega
      have D1 := HD.out.1.below ((Below.refl _ _).drew)
      have hbx := D1.box
      go_wp2
      refine wp_region_held_drew (S := fun _ => True) (by kernel_rfl) trivial (fun hHeld => ?_)
      refine wpAnyH_take (i := 1) (v := .pointer (some ⟨g, 0, none⟩)) rfl (by kernel_rfl) (by kernel_rfl) (by kernel_rfl) (fun _ _ _ h => h) (Or.inl ⟨by rfl, fun w' hSw => ?_⟩) (by assumption) ?_
      · (try dsimp only at hSw); skip; go_simp
      try simp only [Act.put, List.getElem_toArray, List.getElem_cons_zero, List.getElem_cons_succ, List.setIfInBounds_toArray, List.set_cons_zero, List.set_cons_succ]
      refine wpAnyH_ready (rs := [0, 2]) (by kernel_rfl) (by simp) ?_
      refine AllReadyH.cons rfl (fun K hK => ?_) (AllReadyH.cons rfl (fun K hK => ?_) AllReadyH.nil)
      · obtain ⟨_, z0, z1, z2⟩ := row3_facts D1.box
        go_simp
        refine hK.out _ _ trivial (fun hHeld => ?_)
        clear hK K z0 z1 z2
        try simp only [Act.put, List.getElem_toArray, List.getElem_cons_zero, List.getElem_cons_succ, List.setIfInBounds_toArray, List.set_cons_zero, List.set_cons_succ]
        refine wpAnyH_ready (rs := [2]) (by kernel_rfl) (by simp) ?_
        refine AllReadyH.cons rfl (fun K hK => ?_) AllReadyH.nil
        go_simp
        refine (bact_any g _ D1.rd).mono ?_
        rintro e V2 ⟨a1, a2, a3, a4, a5, rfl, hr2, hg2⟩
        have D2 := D1.read hr2 hg2
        clear hr2 hg2 D1 hbx
        refine hK.out _ _ trivial (fun hHeld => ?_)
        clear hK K
        try simp only [Act.put, List.getElem_toArray, List.getElem_cons_zero, List.getElem_cons_succ, List.setIfInBounds_toArray, List.set_cons_zero, List.set_cons_succ]
        refine wpAnyH_ready (rs := [3]) (by kernel_rfl) (by simp) ?_
        refine AllReadyH.cons rfl (fun K hK => ?_) AllReadyH.nil
        go_simp
        refine (specTsoDo_cap _ _ _ d C a1 a2 a3 a4 a5 _ (Ta.tv D2.ta) HD.out.2 (Bcap.of D2.ta.bs D2.cp)).mono ?_
        rintro e V3 ⟨m2, b2, r2, vb2, vr2, tag2, rfl, ta3, hb3, hcp3⟩
        have HK3 := hide (nxt_tok (k := a1) (co := a2) (va := a3) (vl := a4) (rg := a5) HD.out.2)
        obtain ⟨ma2, mc2, ba2, bc2, ra2, rc2, rfl, rfl, rfl⟩ := Ta.three (n := 3) ta3 ((tok_parts HK3.out).2.2.1)
        have D3 := D2.below hb3
        have hbx3 := D3.box
        have HP := hide (And.intro (D2.put ta3 hb3 hcp3) HK3.out)
        generalize hco : okc d C a1 a2 a3 a4 a5 = code
        clear hco ta3 hb3 hcp3 D2 D3 HK3 HD
        refine hK.out _ _ trivial (fun hHeld => ?_)
        clear hK K
        try simp only [Act.put, List.getElem_toArray, List.getElem_cons_zero, List.getElem_cons_succ, List.setIfInBounds_toArray, List.set_cons_zero, List.set_cons_succ]
        refine wpAnyH_take (i := 4) (v := .tuple #[.agg #[.slice ma2 3 mc2, .slice ba2 C bc2, .slice ra2 C rc2], .int .i64 code]) rfl (by kernel_rfl) (by kernel_rfl) (by kernel_rfl) (fun _ _ _ h => h) (Or.inl ⟨by rfl, fun w' hSw => ?_⟩) (by assumption) ?_
        · (try dsimp only at hSw); skip; go_simp
        try simp only [Act.put, List.getElem_toArray, List.getElem_cons_zero, List.getElem_cons_succ, List.setIfInBounds_toArray, List.set_cons_zero, List.set_cons_succ]
        refine wpAnyH_take (i := 5) (v := .agg #[.slice ma2 3 mc2, .slice ba2 C bc2, .slice ra2 C rc2]) rfl (by kernel_rfl) (by kernel_rfl) (by kernel_rfl) (fun _ _ _ h => h) (Or.inl ⟨by rfl, fun w' hSw => ?_⟩) (by assumption) ?_
        · (try dsimp only at hSw); skip; go_simp
        try simp only [Act.put, List.getElem_toArray, List.getElem_cons_zero, List.getElem_cons_succ, List.setIfInBounds_toArray, List.set_cons_zero, List.set_cons_succ]
        refine wpAnyH_take (i := 6) (v := .int .i64 code) rfl (by kernel_rfl) (by kernel_rfl) (by kernel_rfl) (fun _ _ _ h => h) (Or.inl ⟨by rfl, fun w' hSw => ?_⟩) (by assumption) ?_
        · (try dsimp only at hSw); skip; go_simp
        try simp only [Act.put, List.getElem_toArray, List.getElem_cons_zero, List.getElem_cons_succ, List.setIfInBounds_toArray, List.set_cons_zero, List.set_cons_succ]
        obtain ⟨fz, z0, z1, z2⟩ := row3_facts hbx3
        refine wpAnyH_ready (rs := [7]) (by kernel_rfl) (by simp) ?_
        refine AllReadyH.cons rfl (fun K hK => ?_) AllReadyH.nil
        go_simp
        refine hK.out _ _ trivial (fun hHeld => ?_)
        clear hK K hHeld hbx3 fz z0 z1 z2
        try simp only [Act.put, List.getElem_toArray, List.getElem_cons_zero, List.getElem_cons_succ, List.setIfInBounds_toArray, List.set_cons_zero, List.set_cons_succ]
        refine wpAnyH_done (by kernel_rfl) ?_ _
        go_wp2
        go_roundw
        case rel => exact ⟨n - 1, _, _, _, _, _, _, _, _, by omega, by first | rfl | go_num | (rw [hkw]), HP⟩
        case measure =>
          (try simp only [hkw])
          simp [intOf]
          omega
      · go_simp
        refine (bact_any g _ D1.rd).mono ?_
        rintro e V2 ⟨a1, a2, a3, a4, a5, rfl, hr2, hg2⟩
        have D2 := D1.read hr2 hg2
        clear hr2 hg2 D1 hbx
        refine hK.out _ _ trivial (fun hHeld => ?_)
        clear hK K
        try simp only [Act.put, List.getElem_toArray, List.getElem_cons_zero, List.getElem_cons_succ, List.setIfInBounds_toArray, List.set_cons_zero, List.set_cons_succ]
        refine wpAnyH_ready (rs := [0]) (by kernel_rfl) (by simp) ?_
        refine AllReadyH.cons rfl (fun K hK => ?_) AllReadyH.nil
        obtain ⟨_, z0, z1, z2⟩ := row3_facts D2.box
        go_simp
        refine hK.out _ _ trivial (fun hHeld => ?_)
        clear hK K z0 z1 z2
        try simp only [Act.put, List.getElem_toArray, List.getElem_cons_zero, List.getElem_cons_succ, List.setIfInBounds_toArray, List.set_cons_zero, List.set_cons_succ]
        refine wpAnyH_ready (rs := [3]) (by kernel_rfl) (by simp) ?_
        refine AllReadyH.cons rfl (fun K hK => ?_) AllReadyH.nil
        go_simp
        refine (specTsoDo_cap _ _ _ d C a1 a2 a3 a4 a5 _ (Ta.tv D2.ta) HD.out.2 (Bcap.of D2.ta.bs D2.cp)).mono ?_
        rintro e V3 ⟨m2, b2, r2, vb2, vr2, tag2, rfl, ta3, hb3, hcp3⟩
        have HK3 := hide (nxt_tok (k := a1) (co := a2) (va := a3) (vl := a4) (rg := a5) HD.out.2)
        obtain ⟨ma2, mc2, ba2, bc2, ra2, rc2, rfl, rfl, rfl⟩ := Ta.three (n := 3) ta3 ((tok_parts HK3.out).2.2.1)
        have D3 := D2.below hb3
        have hbx3 := D3.box
        have HP := hide (And.intro (D2.put ta3 hb3 hcp3) HK3.out)
        generalize hco : okc d C a1 a2 a3 a4 a5 = code
        clear hco ta3 hb3 hcp3 D2 D3 HK3 HD
        refine hK.out _ _ trivial (fun hHeld => ?_)
        clear hK K
        try simp only [Act.put, List.getElem_toArray, List.getElem_cons_zero, List.getElem_cons_succ, List.setIfInBounds_toArray, List.set_cons_zero, List.set_cons_succ]
        refine wpAnyH_take (i := 4) (v := .tuple #[.agg #[.slice ma2 3 mc2, .slice ba2 C bc2, .slice ra2 C rc2], .int .i64 code]) rfl (by kernel_rfl) (by kernel_rfl) (by kernel_rfl) (fun _ _ _ h => h) (Or.inl ⟨by rfl, fun w' hSw => ?_⟩) (by assumption) ?_
        · (try dsimp only at hSw); skip; go_simp
        try simp only [Act.put, List.getElem_toArray, List.getElem_cons_zero, List.getElem_cons_succ, List.setIfInBounds_toArray, List.set_cons_zero, List.set_cons_succ]
        refine wpAnyH_take (i := 5) (v := .agg #[.slice ma2 3 mc2, .slice ba2 C bc2, .slice ra2 C rc2]) rfl (by kernel_rfl) (by kernel_rfl) (by kernel_rfl) (fun _ _ _ h => h) (Or.inl ⟨by rfl, fun w' hSw => ?_⟩) (by assumption) ?_
        · (try dsimp only at hSw); skip; go_simp
        try simp only [Act.put, List.getElem_toArray, List.getElem_cons_zero, List.getElem_cons_succ, List.setIfInBounds_toArray, List.set_cons_zero, List.set_cons_succ]
        refine wpAnyH_take (i := 6) (v := .int .i64 code) rfl (by kernel_rfl) (by kernel_rfl) (by kernel_rfl) (fun _ _ _ h => h) (Or.inl ⟨by rfl, fun w' hSw => ?_⟩) (by assumption) ?_
        · (try dsimp only at hSw); skip; go_simp
        try simp only [Act.put, List.getElem_toArray, List.getElem_cons_zero, List.getElem_cons_succ, List.setIfInBounds_toArray, List.set_cons_zero, List.set_cons_succ]
        obtain ⟨fz, z0, z1, z2⟩ := row3_facts hbx3
        refine wpAnyH_ready (rs := [7]) (by kernel_rfl) (by simp) ?_
        refine AllReadyH.cons rfl (fun K hK => ?_) AllReadyH.nil
        go_simp
        refine hK.out _ _ trivial (fun hHeld => ?_)
        clear hK K hHeld hbx3 fz z0 z1 z2
        try simp only [Act.put, List.getElem_toArray, List.getElem_cons_zero, List.getElem_cons_succ, List.setIfInBounds_toArray, List.set_cons_zero, List.set_cons_succ]
        refine wpAnyH_done (by kernel_rfl) ?_ _
        go_wp2
        go_roundw
        case rel => exact ⟨n - 1, _, _, _, _, _, _, _, _, by omega, by first | rfl | go_num | (rw [hkw]), HP⟩
        case measure =>
          (try simp only [hkw])
          simp [intOf]
          omega
    · have e : n = 0 := by omega
      subst e
      go_wp2_with fail
      refine (once_any g 30 _ HD.out.1.rd (by decide) (by decide)).mono ?_
      rintro e V2 ⟨t, rfl, hr2, hg2⟩
      have D2 := HD.out.1.read hr2 hg2
      have HS := hide (tok_small HD.out.2)
      clear hr2 hg2 HD
      cases t with
      | false =>
        obtain ⟨_, x0, x1, x2⟩ := row3_facts D2.box
        obtain ⟨fr, r0, r1, r2⟩ := row3_facts D2.res
        have hne : ¬ w.heap.size = B := by have := D2.lo; omega
        have HF := hide D2.fin
        clear D2
        go_wp2
        refine bodyPost_ret (v := .agg #[.slice ma 3 mc, .slice ba C bc, .slice ra C rc]) (by simp [results, Try.results46, go_sem, r0, r1, r2]) rfl ⟨_, _, _, d, C, vb, vr, tag, rfl, HF.out.1, HF.out.2.1, HS.out, HF.out.2.2.1, HF.out.2.2.2⟩
      | true =>
        obtain ⟨p, po, pc, em, k1, k2, k3, hcell⟩ := D2.ta.memAt (by omega)
        rw [hz3] at em
        simp only [Value.slice.injEq, true_and] at em
        obtain ⟨rfl, rfl⟩ := em
        have D3 := D2.below ((Below.refl _ _).drew)
        have hbx := D3.box
        clear hcell k2
        go_wp2
        refine wp_region_held_drew (S := fun W' => W'.heap[B]? = some (.cells #[.slice (some ⟨p, po, none⟩) 3 mc, .slice ba C bc, .slice ra C rc] 28 (0, 0))) (by kernel_rfl) hbx (fun hHeld => ?_)
        refine wpAnyH_take (i := 0) (v := .pointer (some ⟨B, 0, none⟩)) rfl (by kernel_rfl) (by kernel_rfl) (by kernel_rfl) (fun _ _ _ h => h) (Or.inl ⟨by rfl, fun w' hSw => ?_⟩) (by assumption) ?_
        · (try dsimp only at hSw); obtain ⟨_, z0, z1, z2⟩ := row3_facts hSw; go_simp
        try simp only [Act.put, List.getElem_toArray, List.getElem_cons_zero, List.getElem_cons_succ, List.setIfInBounds_toArray, List.set_cons_zero, List.set_cons_succ]
        refine wpAnyH_take (i := 1) (v := .slice (some ⟨p, po, none⟩) 3 mc) rfl (by kernel_rfl) (by kernel_rfl) (by kernel_rfl) (fun _ _ _ h => h) (Or.inl ⟨by rfl, fun w' hSw => ?_⟩) (by assumption) ?_
        · (try dsimp only at hSw); obtain ⟨_, z0, z1, z2⟩ := row3_facts hSw; go_simp
        try simp only [Act.put, List.getElem_toArray, List.getElem_cons_zero, List.getElem_cons_succ, List.setIfInBounds_toArray, List.set_cons_zero, List.set_cons_succ]
        refine wpAnyH_take (i := 2) (v := .pointer (some ⟨g, 0, none⟩)) rfl (by kernel_rfl) (by kernel_rfl) (by kernel_rfl) (fun _ _ _ h => h) (Or.inl ⟨by rfl, fun w' hSw => ?_⟩) (by assumption) ?_
        · (try dsimp only at hSw); skip; go_simp
        try simp only [Act.put, List.getElem_toArray, List.getElem_cons_zero, List.getElem_cons_succ, List.setIfInBounds_toArray, List.set_cons_zero, List.set_cons_succ]
        refine wpAnyH_ready (rs := [3]) (by kernel_rfl) (by simp) ?_
        refine AllReadyH.cons rfl (fun K hK => ?_) AllReadyH.nil
        go_simp
        refine (off_any g 0 9 _ D3.rd (by decide) (by decide) (by decide)).mono ?_
        rintro e V4 ⟨z, rfl, hr4, hg4⟩
        have D4 := D3.read hr4 hg4
        clear hr4 hg4 D3 hbx
        refine hK.out _ _ D4.box (fun hHeld => ?_)
        clear hK K
        try simp only [Act.put, List.getElem_toArray, List.getElem_cons_zero, List.getElem_cons_succ, List.setIfInBounds_toArray, List.set_cons_zero, List.set_cons_succ]
        refine wpAnyH_take (i := 4) (v := .pointer (some ⟨p, po, none⟩)) rfl (by kernel_rfl) (by kernel_rfl) (by kernel_rfl) (fun _ _ _ h => h) (Or.inl ⟨by rfl, fun w' hSw => ?_⟩) (by assumption) ?_
        · (try dsimp only at hSw); obtain ⟨_, z0, z1, z2⟩ := row3_facts hSw; go_simp
        try simp only [Act.put, List.getElem_toArray, List.getElem_cons_zero, List.getElem_cons_succ, List.setIfInBounds_toArray, List.set_cons_zero, List.set_cons_succ]
        have D4z : Dt w V4 g B base (.slice (some ⟨p, po, none⟩) d.zs.length mc) (.slice ba C bc) (.slice ra C rc) d C vb vr tag := by rw [hz3]; exact D4
        have D5 := D4z.poke (by omega) z
        rw [hz3] at D5
        obtain ⟨_, k2, _⟩ := D4.ta.mb p po _ mc rfl (by omega)
        have fz := k2.facts.1 po
        obtain ⟨ov, hov⟩ := k2.facts.2 po (by omega)
        have HS5 := hide (HS.out.poke z)
        have hb5 := D5.box
        refine wpAnyH_ready (rs := [5]) (by kernel_rfl) (by simp) ?_
        refine AllReadyH.cons rfl (fun K hK => ?_) AllReadyH.nil
        go_simp
        refine hK.out _ _ hb5 (fun hHeld => ?_)
        clear hK K
        try simp only [Act.put, List.getElem_toArray, List.getElem_cons_zero, List.getElem_cons_succ, List.setIfInBounds_toArray, List.set_cons_zero, List.set_cons_succ]
        refine wpAnyH_done (by kernel_rfl) ?_ _
        obtain ⟨_, x0, x1, x2⟩ := row3_facts D5.box
        obtain ⟨fr, r0, r1, r2⟩ := row3_facts D5.res
        have hne : ¬ w.heap.size = B := by have := D5.lo; omega
        have HF := hide D5.fin
        clear D5 D4 D4z D2 fz hov hb5 k2
        generalize hV5 : V4.setCell ⟨p, po, none⟩ (.int .i64 z) = V5 at *
        go_wp2
        refine bodyPost_ret (v := .agg #[.slice (some ⟨p, po, none⟩) 3 mc, .slice ba C bc, .slice ra C rc]) (by simp [results, Try.results46, go_sem, r0, r1, r2]) rfl ⟨_, _, _, _, C, vb, vr, tag, rfl, HF.out.1, HF.out.2.1, HS5.out, HF.out.2.2.1, HF.out.2.2.2⟩

end Go.Proofs.Ytneofegnbflfiaa

/- what the drawn laws of the buffers draw (written by mkDtD.py) -/
namespace Go.Proofs.Ytneofegnbflfiaa
open Go.RowKit
set_option linter.unusedVariables false
set_option linter.unusedSimpArgs false

/-- a Tso in a variable B of its own, beside a reader g; all that lay in W stands -/
structure Dv (W V : World) (g B base : Nat) (m b r : Value) (d : Td) (C : Nat) (vb vr : Nat → Value) (tag : Nat → Nat) : Prop where
  rd : Rdr V g
  box : V.heap[B]? = some (.cells #[m, b, r] 28 (0, 0))
  ta : TaD V base m b r d C vb vr tag
  bel : Below W.heap.size W V
  lo : W.heap.size ≤ g ∧ g < B ∧ g < base
theorem Dv.drew {W V : World} {g B base : Nat} {m b r : Value} {d : Td} {C : Nat} {vb vr : Nat → Value} {tag : Nat → Nat} (h : Dv W V g B base m b r d C vb vr tag) : Dv W V.drew g B base m b r d C vb vr tag :=
  ⟨h.rd.below ((Below.refl _ _).drew), h.box, Ta.below h.ta ((Below.refl _ _).drew), h.bel.drew, h.lo⟩
theorem Dv.read {W V : World} {g B base : Nat} {m b r : Value} {d : Td} {C : Nat} {vb vr : Nat → Value} {tag : Nat → Nat} {V' : World} (h : Dv W V g B base m b r d C vb vr tag) (hr : Rdr V' g) (hg : V.grownBy V' (some g)) : Dv W V' g B base m b r d C vb vr tag := by
  obtain ⟨l1, l2, l3⟩ := h.lo
  exact ⟨hr, (hg.block _ (lt_of_block h.box) (by simp; omega)).trans h.box, Ta.grown h.ta hg (fun k hk => by simp only [Option.some.injEq] at hk; omega), below_read h.bel hg l1 h.bel.size, h.lo⟩
theorem Dv.start {W w1 w2 : World} {g : Nat} {m b r : Value} {d : Td} {C : Nat} {vb vr : Nat → Value} {tag : Nat → Nat} (h0 : W.heap.size ≤ g) (hr1 : Rdr w1 g) (hb : Below W.heap.size W w1) (ta : TaD w2 w1.heap.size m b r d C vb vr tag) (hr : Rdr w2 g) (hg : w1.grownBy w2 (some g)) :
    Dv W (w2.alloc (.cells #[m, b, r] 28)) g w2.heap.size w1.heap.size m b r d C vb vr tag := by
  have hA2 : Below w2.heap.size w2 (w2.alloc (.cells #[m, b, r] 28)) := (Below.refl _ _).alloc (Nat.le_refl _) _
  have hB2 := below_read hb hg h0 hb.size
  exact ⟨hr.below hA2, heap_alloc_new _ _, Ta.below ta hA2, hB2.trans (hA2.mono hB2.size), h0, hr.lt, hr1.lt⟩
/-- the answer is laid into a variable that lay in W -/
theorem Dv.fin {W V : World} {g B base : Nat} {m b r : Value} {d : Td} {C : Nat} {vb vr : Nat → Value} {tag : Nat → Nat} {w : World} {p : Nat} (h : Dv W V g B base m b r d C vb vr tag) (hw : Below w.heap.size w W) (h1 : w.heap.size ≤ p) (h2 : p < W.heap.size) : (w.heap.size ≤ base ∧ TaD (((V.setCell ⟨p, 0, none⟩ m).setCell ⟨p, 1, none⟩ b).setCell ⟨p, 2, none⟩ r) base m b r d C vb vr tag) ∧
    TaD (((V.setCell ⟨p, 0, none⟩ m).setCell ⟨p, 1, none⟩ b).setCell ⟨p, 2, none⟩ r) w.heap.size m b r d C vb vr tag ∧ Below w.heap.size w (((V.setCell ⟨p, 0, none⟩ m).setCell ⟨p, 1, none⟩ b).setCell ⟨p, 2, none⟩ r) := by
  obtain ⟨l1, l2, l3⟩ := h.lo
  have hro : ∀ g, some p = some g → g < base := fun g e => by simp only [Option.some.injEq] at e; omega
  have hB := hw.trans (h.bel.mono hw.size)
  have hs := hw.size
  have t3 : TaD (((V.setCell ⟨p, 0, none⟩ m).setCell ⟨p, 1, none⟩ b).setCell ⟨p, 2, none⟩ r) base m b r d C vb vr tag := Ta.grown (Ta.grown (Ta.grown h.ta (grown_set V p 0 m) hro) (grown_set _ p 1 b) hro) (grown_set _ p 2 r) hro
  exact ⟨⟨by omega, t3⟩, t3.mono (by omega), ((hB.setCell (p := ⟨p, 0, none⟩) h1 m).setCell (p := ⟨p, 1, none⟩) h1 b).setCell (p := ⟨p, 2, none⟩) h1 r⟩
/-- another variable, one that lay in W, is set, too -/
theorem tad_set {W : World} {k j x : Nat} {v : Value} {m b r : Value} {d : Td} {C : Nat} {vb vr : Nat → Value} {tag : Nat → Nat} (h : TaD W k m b r d C vb vr tag) (hj : j < k) : TaD (W.setCell ⟨j, x, none⟩ v) k m b r d C vb vr tag :=
  Ta.grown h (grown_set W j x v) (fun g e => by simp only [Option.some.injEq] at e; omega)
theorem put3_other {V : World} {p B i : Nat} {x y z v : Value} (h : V.cell? ⟨B, i, none⟩ = some v) (hne : B ≠ p) : (((V.setCell ⟨p, 0, none⟩ x).setCell ⟨p, 1, none⟩ y).setCell ⟨p, 2, none⟩ z).cell? ⟨B, i, none⟩ = some v := by
  rw [other_set (Ne.symm hne), other_set (Ne.symm hne), other_set (Ne.symm hne)]; exact h

theorem Bt.below {w w' : World} {ad : Option Addr} {n : Nat} (h : Bt w ad n) (hb : Below w.heap.size w w') : Bt w' ad n := by
  intro h0
  obtain ⟨b, off, rfl, hc⟩ := h h0
  refine ⟨b, off, rfl, fun j hj => ?_⟩
  obtain ⟨c, h1, h2, h3⟩ := hc j hj
  exact ⟨c, h1, h2, Below.keep hb _ _ h3⟩

set_option maxHeartbeats 4000000 in
set_option maxRecDepth 20000 in
theorem drawSeenBy_any (ad : Option Addr) (n cap : Nat) (w : World) (hb : Bt w ad n) (hn : n ≤ 1048576) :
    Calls Try.prog 14 #[.slice ad n cap] w fun e w' => ∃ m b r d C vb vr tag, ∃ x y : Int, e = .returned (.tuple #[.agg #[m, b, r], .int .i64 x, .int .i64 y]) ∧ TaD w' w.heap.size m b r d C vb vr tag ∧ Cpd vb C ∧ Sml d C ∧ Below w.heap.size w w' := by
  have hb' := hb.below ((Below.refl _ w).alloc (Nat.le_refl _) (.cells #[nil3, nil3, nil3] 28))
  clear hb
  go_enter Try.func14, Try.ntmps14
  go_wp2_with fail
  refine (open_any ad n cap _ hb' hn).mono ?_
  rintro e w1 ⟨g, rfl, hg1, hr1, hb1⟩
  clear hb'
  go_wp2_with fail
  refine (tso_any g 12 _ hr1 (by decide) (by decide)).mono ?_
  rintro e w2 ⟨m, b, r, d, C, vb, vr, tag, rfl, ta2, hcp, hsm, hr2, hg2⟩
  obtain ⟨xm, ym, xb, yb, xr, yr, rfl, rfl, rfl⟩ := Ta.three (n := d.zs.length) ta2 rfl
  have dv := Dv.start hg1 hr1 hb1 ta2 hr2 hg2
  obtain ⟨B, hB⟩ : ∃ B, w2.heap.size = B := ⟨_, rfl⟩
  rw [hB] at dv
  have hres : (w.alloc (.cells #[nil3, nil3, nil3] 28)).heap[w.heap.size]? = some (.cells #[nil3, nil3, nil3] 28 (0, 0)) := heap_alloc_new _ _
  have hwW : Below w.heap.size w (w.alloc (.cells #[nil3, nil3, nil3] 28)) := (Below.refl _ w).alloc (Nat.le_refl _) _
  have hwz : w.heap.size < (w.alloc (.cells #[nil3, nil3, nil3] 28)).heap.size := by simp
  clear hg1 hr1 hb1 ta2 hr2 hg2
  generalize (w.alloc (.cells #[nil3, nil3, nil3] 28)) = W at *
  obtain ⟨hfz, c0, c1, c2⟩ := row3_facts dv.box
  obtain ⟨l1, l2, l3⟩ := dv.lo
  go_wp2
  go_region_held3 (fun w' => w'.cell? ⟨B, 0, none⟩ = some (.slice xm d.zs.length ym) ∧ w'.cell? ⟨B, 1, none⟩ = some (.slice xb C yb) ∧ w'.cell? ⟨B, 2, none⟩ = some (.slice xr C yr)) (first | exact ⟨c0, c1, c2⟩ | exact ⟨e0, e1, e2⟩ | exact ⟨f0, f1, f2⟩ | exact ⟨g0, g1, g2⟩) (first | (go_at_call 47; refine (off_any g 0 1 _ dv.drew.rd (by decide) (by decide) (by decide)).mono ?_; rintro e V3 ⟨x, rfl, hr3, hg3⟩; have d3 := dv.drew.read hr3 hg3; clear hr3 hg3 dv; obtain ⟨_, e0, e1, e2⟩ := row3_facts d3.box) | (go_at_call 47; refine (off_any g 0 2 _ d3.rd (by decide) (by decide) (by decide)).mono ?_; rintro e V4 ⟨y, rfl, hr4, hg4⟩; have d4 := d3.read hr4 hg4; clear hr4 hg4 d3; obtain ⟨_, f0, f1, f2⟩ := row3_facts d4.box; obtain ⟨hrz, r0, r1, r2⟩ := row3_facts (heap_b hres d4.bel); have g0 := put3_other (p := w.heap.size) (x := .slice xm d.zs.length ym) (y := .slice xb C yb) (z := .slice xr C yr) f0 (by omega); have g1 := put3_other (p := w.heap.size) (x := .slice xm d.zs.length ym) (y := .slice xb C yb) (z := .slice xr C yr) f1 (by omega); have g2 := put3_other (p := w.heap.size) (x := .slice xm d.zs.length ym) (y := .slice xb C yb) (z := .slice xr C yr) f2 (by omega)))
  have HF := hide (d4.fin hwW (Nat.le_refl _) hwz)
  clear d4
  go_wp2
  refine bodyPost_ret (v := .tuple #[.agg #[.slice xm d.zs.length ym, .slice xb C yb, .slice xr C yr], .int .i64 x, .int .i64 y]) (by simp [results, Try.results14, go_sem, r0, r1, r2]) rfl ⟨_, _, _, _, _, _, _, _, _, _, rfl, HF.out.2.1, hcp, hsm, HF.out.2.2⟩

set_option maxHeartbeats 4000000 in
set_option maxRecDepth 20000 in
theorem drawDrained_any (ad : Option Addr) (n cap : Nat) (w : World) (hb : Bt w ad n) (hn : n ≤ 1048576) :
    Calls Try.prog 24 #[.slice ad n cap] w fun e w' => ∃ m b r d C vb vr tag, e = .returned (.agg #[m, b, r]) ∧ TaD w' w.heap.size m b r d C vb vr tag ∧ Cpd vb C ∧ Sml d C ∧ Below w.heap.size w w' := by
  have hb' := hb.below ((Below.refl _ w).alloc (Nat.le_refl _) (.cells #[nil3, nil3, nil3] 28))
  clear hb
  go_enter Try.func24, Try.ntmps24
  go_wp2_with fail
  refine (open_any ad n cap _ hb' hn).mono ?_
  rintro e w1 ⟨g, rfl, hg1, hr1, hb1⟩
  clear hb'
  go_wp2_with fail
  refine (tso_any g 14 _ hr1 (by decide) (by decide)).mono ?_
  rintro e w2 ⟨m, b, r, d, C, vb, vr, tag, rfl, ta2, hcp, hsm, hr2, hg2⟩
  obtain ⟨xm, ym, xb, yb, xr, yr, rfl, rfl, rfl⟩ := Ta.three (n := d.zs.length) ta2 rfl
  have hres : (w.alloc (.cells #[nil3, nil3, nil3] 28)).heap[w.heap.size]? = some (.cells #[nil3, nil3, nil3] 28 (0, 0)) := heap_alloc_new _ _
  have hwW : Below w.heap.size w (w.alloc (.cells #[nil3, nil3, nil3] 28)) := (Below.refl _ w).alloc (Nat.le_refl _) _
  have hwz : w.heap.size < (w.alloc (.cells #[nil3, nil3, nil3] 28)).heap.size := by simp
  have HF := hide (Dv.start hg1 hr1 hb1 ta2 hr2 hg2)
  have hB2 := hwW.trans ((below_read hb1 hg2 hg1 hb1.size).mono hwW.size)
  have hrow := heap_b hres (below_read hb1 hg2 hg1 hb1.size)
  have hro : ∀ g, some w.heap.size = some g → g < w1.heap.size := fun g e => by have := hb1.size; simp only [Option.some.injEq] at e; omega
  have HT := hide (And.intro ((Ta.grown (Ta.grown (Ta.grown ta2 (grown_set w2 w.heap.size 0 (.slice xm d.zs.length ym)) hro) (grown_set _ w.heap.size 1 (.slice xb C yb)) hro) (grown_set _ w.heap.size 2 (.slice xr C yr)) hro).mono (Nat.le_trans (Nat.le_of_lt hwz) hb1.size)) (((hB2.setCell (p := ⟨w.heap.size, 0, none⟩) (Nat.le_refl _) (.slice xm d.zs.length ym)).setCell (p := ⟨w.heap.size, 1, none⟩) (Nat.le_refl _) (.slice xb C yb)).setCell (p := ⟨w.heap.size, 2, none⟩) (Nat.le_refl _) (.slice xr C yr)))
  obtain ⟨hrz, r0, r1, r2⟩ := row3_facts hrow
  clear hg1 hr1 hb1 ta2 hr2 hg2 hres hwW hwz hB2 hro hrow HF
  go_wp2
  refine bodyPost_ret (v := .agg #[.slice xm d.zs.length ym, .slice xb C yb, .slice xr C yr]) (by simp [results, Try.results24, go_sem, r0, r1, r2]) rfl ⟨_, _, _, _, _, _, _, _, rfl, HT.out.1, hcp, hsm, HT.out.2⟩

theorem row5z {V : World} {p q : Nat} {x y z : Value} {T : TypeId} (h : V.heap[q]? = some (.cells #[.int .i64 0, .int .i64 0, .int .i64 0, .int .i64 0, .int .i64 0] T (0, 0))) (hne : p ≠ q) : (∀ i, (((V.setCell ⟨p, 0, none⟩ x).setCell ⟨p, 1, none⟩ y).setCell ⟨p, 2, none⟩ z).frozen? ⟨q, i, none⟩ = false) ∧ ((((V.setCell ⟨p, 0, none⟩ x).setCell ⟨p, 1, none⟩ y).setCell ⟨p, 2, none⟩ z).cell? ⟨q, 0, none⟩ = some (.int .i64 0) ∧ (((V.setCell ⟨p, 0, none⟩ x).setCell ⟨p, 1, none⟩ y).setCell ⟨p, 2, none⟩ z).cell? ⟨q, 1, none⟩ = some (.int .i64 0) ∧ (((V.setCell ⟨p, 0, none⟩ x).setCell ⟨p, 1, none⟩ y).setCell ⟨p, 2, none⟩ z).cell? ⟨q, 2, none⟩ = some (.int .i64 0) ∧ (((V.setCell ⟨p, 0, none⟩ x).setCell ⟨p, 1, none⟩ y).setCell ⟨p, 2, none⟩ z).cell? ⟨q, 3, none⟩ = some (.int .i64 0) ∧ (((V.setCell ⟨p, 0, none⟩ x).setCell ⟨p, 1, none⟩ y).setCell ⟨p, 2, none⟩ z).cell? ⟨q, 4, none⟩ = some (.int .i64 0)) := by
  have h' : (((V.setCell ⟨p, 0, none⟩ x).setCell ⟨p, 1, none⟩ y).setCell ⟨p, 2, none⟩ z).heap[q]? = some (.cells #[.int .i64 0, .int .i64 0, .int .i64 0, .int .i64 0, .int .i64 0] T (0, 0)) := by
    rw [heap_setCell_other _ _ _ _ (fun e => hne e.symm), heap_setCell_other _ _ _ _ (fun e => hne e.symm), heap_setCell_other _ _ _ _ (fun e => hne e.symm)]; exact h
  exact ⟨fun i => frozen_of_row _ _ i _ _ h', (cell_of_row _ _ 0 _ _ _ h').trans rfl, (cell_of_row _ _ 1 _ _ _ h').trans rfl, (cell_of_row _ _ 2 _ _ _ h').trans rfl, (cell_of_row _ _ 3 _ _ _ h').trans rfl, (cell_of_row _ _ 4 _ _ _ h').trans rfl⟩
theorem put5_other {V : World} {p B i : Nat} {q0 q1 q2 q3 q4 : Int} {v : Value} (h : V.cell? ⟨B, i, none⟩ = some v) (hne : p ≠ B) : (((((V.setCell ⟨p, 0, none⟩ (.int .i64 q0)).setCell ⟨p, 1, none⟩ (.int .i64 q1)).setCell ⟨p, 2, none⟩ (.int .i64 q2)).setCell ⟨p, 3, none⟩ (.int .i64 q3)).setCell ⟨p, 4, none⟩ (.int .i64 q4)).cell? ⟨B, i, none⟩ = some v := by
  rw [other_set hne, other_set hne, other_set hne, other_set hne, other_set hne]; exact h
theorem fin5 {W w : World} {p : Nat} {m b r : Value} {d : Td} {C : Nat} {vb vr : Nat → Value} {tag : Nat → Nat} {x y z u v : Int} (h : TaD W w.heap.size m b r d C vb vr tag) (hB : Below w.heap.size w W) (hp : w.heap.size < p) (hW : ∃ base, w.heap.size ≤ base ∧ p < base ∧ TaD W base m b r d C vb vr tag) :
    TaD (((((W.setCell ⟨p, 0, none⟩ (.int .i64 x)).setCell ⟨p, 1, none⟩ (.int .i64 y)).setCell ⟨p, 2, none⟩ (.int .i64 z)).setCell ⟨p, 3, none⟩ (.int .i64 u)).setCell ⟨p, 4, none⟩ (.int .i64 v)) w.heap.size m b r d C vb vr tag ∧
      Below w.heap.size w (((((W.setCell ⟨p, 0, none⟩ (.int .i64 x)).setCell ⟨p, 1, none⟩ (.int .i64 y)).setCell ⟨p, 2, none⟩ (.int .i64 z)).setCell ⟨p, 3, none⟩ (.int .i64 u)).setCell ⟨p, 4, none⟩ (.int .i64 v)) := by
  obtain ⟨base, hb1, hb2, ta⟩ := hW
  have hp' := Nat.le_of_lt hp
  exact ⟨(tad_set (tad_set (tad_set (tad_set (tad_set ta hb2) hb2) hb2) hb2) hb2).mono hb1, (((((hB.setCell (p := ⟨p, 0, none⟩) hp' _).setCell (p := ⟨p, 1, none⟩) hp' _).setCell (p := ⟨p, 2, none⟩) hp' _).setCell (p := ⟨p, 3, none⟩) hp' _).setCell (p := ⟨p, 4, none⟩) hp' _)⟩

set_option maxHeartbeats 4000000 in
set_option maxRecDepth 20000 in
theorem drawTsoDo_any (ad : Option Addr) (n cap : Nat) (w : World) (hb : Bt w ad n) (hn : n ≤ 1048576) :
    Calls Try.prog 17 #[.slice ad n cap] w fun e w' => ∃ m b r d C vb vr tag, ∃ x y z u v : Int, e = .returned (.tuple #[.agg #[m, b, r], .agg (five x y z u v)]) ∧ TaD w' w.heap.size m b r d C vb vr tag ∧ Cpd vb C ∧ Sml d C ∧ Below w.heap.size w w' := by
  have hb' := hb.below (((Below.refl _ w).alloc (Nat.le_refl _) (.cells #[nil3, nil3, nil3] 28)).alloc (by simp) (.cells #[.int .i64 0, .int .i64 0, .int .i64 0, .int .i64 0, .int .i64 0] 37))
  clear hb
  go_enter Try.func17, Try.ntmps17
  go_wp2_with fail
  refine (open_any ad n cap _ hb' hn).mono ?_
  rintro e w1 ⟨g, rfl, hg1, hr1, hb1⟩
  clear hb'
  go_wp2_with fail
  refine (tso_any g 12 _ hr1 (by decide) (by decide)).mono ?_
  rintro e w2 ⟨m, b, r, d, C, vb, vr, tag, rfl, ta2, hcp, hsm, hr2, hg2⟩
  obtain ⟨xm, ym, xb, yb, xr, yr, rfl, rfl, rfl⟩ := Ta.three (n := d.zs.length) ta2 rfl
  have dv := Dv.start hg1 hr1 hb1 ta2 hr2 hg2
  obtain ⟨B, hB⟩ : ∃ B, w2.heap.size = B := ⟨_, rfl⟩
  rw [hB] at dv
  have hres : ((w.alloc (.cells #[nil3, nil3, nil3] 28)).alloc (.cells #[.int .i64 0, .int .i64 0, .int .i64 0, .int .i64 0, .int .i64 0] 37)).heap[w.heap.size]? = some (.cells #[nil3, nil3, nil3] 28 (0, 0)) := by rw [Below.heap_alloc _ _ _ (by simp)]; exact heap_alloc_new _ _
  have hrea : ((w.alloc (.cells #[nil3, nil3, nil3] 28)).alloc (.cells #[.int .i64 0, .int .i64 0, .int .i64 0, .int .i64 0, .int .i64 0] 37)).heap[w.heap.size + 1]? = some (.cells #[.int .i64 0, .int .i64 0, .int .i64 0, .int .i64 0, .int .i64 0] 37 (0, 0)) := by
    have := heap_alloc_new (w.alloc (.cells #[nil3, nil3, nil3] 28)) (.cells #[.int .i64 0, .int .i64 0, .int .i64 0, .int .i64 0, .int .i64 0] 37)
    simpa using this
  have hwW : Below w.heap.size w ((w.alloc (.cells #[nil3, nil3, nil3] 28)).alloc (.cells #[.int .i64 0, .int .i64 0, .int .i64 0, .int .i64 0, .int .i64 0] 37)) := ((Below.refl _ w).alloc (Nat.le_refl _) (.cells #[nil3, nil3, nil3] 28)).alloc (by simp) (.cells #[.int .i64 0, .int .i64 0, .int .i64 0, .int .i64 0, .int .i64 0] 37)
  have hwz : w.heap.size + 1 < ((w.alloc (.cells #[nil3, nil3, nil3] 28)).alloc (.cells #[.int .i64 0, .int .i64 0, .int .i64 0, .int .i64 0, .int .i64 0] 37)).heap.size := by simp
  clear hg1 hr1 hb1 ta2 hr2 hg2
  generalize ((w.alloc (.cells #[nil3, nil3, nil3] 28)).alloc (.cells #[.int .i64 0, .int .i64 0, .int .i64 0, .int .i64 0, .int .i64 0] 37)) = W at *
  obtain ⟨hfz, c0, c1, c2⟩ := row3_facts dv.box
  obtain ⟨l1, l2, l3⟩ := dv.lo
  go_wp2
  refine wp_region_held_drew (S := fun _ => True) (by kernel_rfl) trivial (fun hHeld => ?_)
  have D1 := dv.drew
  clear dv c0 c1 c2
  refine wpAnyH_take (i := 1) (v := .pointer (some ⟨g, 0, none⟩)) rfl (by kernel_rfl) (by kernel_rfl) (by kernel_rfl) (fun _ _ _ h => h) (Or.inl ⟨by rfl, fun w' hSw => ?_⟩) (by assumption) ?_
  · (try dsimp only at hSw); skip; go_simp
  try simp only [Act.put, List.getElem_toArray, List.getElem_cons_zero, List.getElem_cons_succ, List.setIfInBounds_toArray, List.set_cons_zero, List.set_cons_succ]
  refine wpAnyH_ready (rs := [0, 2]) (by kernel_rfl) (by simp) ?_
  refine AllReadyH.cons rfl (fun K hK => ?_) (AllReadyH.cons rfl (fun K hK => ?_) AllReadyH.nil)
  · obtain ⟨_, z0, z1, z2⟩ := row3_facts D1.box
    go_simp
    refine hK.out _ _ trivial (fun hHeld => ?_)
    clear hK K z0 z1 z2
    try simp only [Act.put, List.getElem_toArray, List.getElem_cons_zero, List.getElem_cons_succ, List.setIfInBounds_toArray, List.set_cons_zero, List.set_cons_succ]
    refine wpAnyH_ready (rs := [2]) (by kernel_rfl) (by simp) ?_
    refine AllReadyH.cons rfl (fun K hK => ?_) AllReadyH.nil
    go_simp
    refine (bact_any g _ D1.rd).mono ?_
    rintro e V3 ⟨x, y, z, u, v, rfl, hr3, hg3⟩
    have d3 := D1.read hr3 hg3
    clear hr3 hg3 D1
    refine hK.out _ _ trivial (fun hHeld => ?_)
    clear hK K
    try simp only [Act.put, List.getElem_toArray, List.getElem_cons_zero, List.getElem_cons_succ, List.setIfInBounds_toArray, List.set_cons_zero, List.set_cons_succ]
    obtain ⟨hrz, r0, r1, r2⟩ := row3_facts (heap_b hres d3.bel)
    refine wpAnyH_ready (rs := [3]) (by kernel_rfl) (by simp) ?_
    refine AllReadyH.cons rfl (fun K hK => ?_) AllReadyH.nil
    go_simp
    refine hK.out _ _ trivial (fun hHeld => ?_)
    clear hK K
    try simp only [Act.put, List.getElem_toArray, List.getElem_cons_zero, List.getElem_cons_succ, List.setIfInBounds_toArray, List.set_cons_zero, List.set_cons_succ]
    obtain ⟨haz, a0, a1, a2, a3, a4⟩ := row5z (p := w.heap.size) (x := .slice xm d.zs.length ym) (y := .slice xb C yb) (z := .slice xr C yr) (heap_b hrea d3.bel) (by omega)
    refine wpAnyH_ready (rs := [4]) (by kernel_rfl) (by simp) ?_
    refine AllReadyH.cons rfl (fun K hK => ?_) AllReadyH.nil
    go_simp
    refine hK.out _ _ trivial (fun hHeld => ?_)
    clear hK K hHeld
    try simp only [Act.put, List.getElem_toArray, List.getElem_cons_zero, List.getElem_cons_succ, List.setIfInBounds_toArray, List.set_cons_zero, List.set_cons_succ]
    refine wpAnyH_done (by kernel_rfl) ?_ _
    have HF := hide (d3.fin hwW (Nat.le_refl _) (Nat.lt_of_succ_lt hwz))
    have HG := hide (fin5 (x := x) (y := y) (z := z) (u := u) (v := v) (p := w.heap.size + 1) HF.out.2.1 HF.out.2.2 (by omega) ⟨_, HF.out.1.1, by omega, HF.out.1.2⟩)
    clear HF d3
    go_wp2
    refine bodyPost_ret (v := .tuple #[.agg #[.slice xm d.zs.length ym, .slice xb C yb, .slice xr C yr], .agg (five x y z u v)]) (by simp [results, Try.results17, go_sem, r0, r1, r2, a0, a1, a2, a3, a4]) rfl ⟨_, _, _, _, _, _, _, _, _, _, _, _, _, rfl, HG.out.1, hcp, hsm, HG.out.2⟩
  · go_simp
    refine (bact_any g _ D1.rd).mono ?_
    rintro e V3 ⟨x, y, z, u, v, rfl, hr3, hg3⟩
    have d3 := D1.read hr3 hg3
    clear hr3 hg3 D1
    refine hK.out _ _ trivial (fun hHeld => ?_)
    clear hK K
    try simp only [Act.put, List.getElem_toArray, List.getElem_cons_zero, List.getElem_cons_succ, List.setIfInBounds_toArray, List.set_cons_zero, List.set_cons_succ]
    refine wpAnyH_ready (rs := [0]) (by kernel_rfl) (by simp) ?_
    refine AllReadyH.cons rfl (fun K hK => ?_) AllReadyH.nil
    obtain ⟨_, z0, z1, z2⟩ := row3_facts d3.box
    go_simp
    refine hK.out _ _ trivial (fun hHeld => ?_)
    clear hK K z0 z1 z2
    try simp only [Act.put, List.getElem_toArray, List.getElem_cons_zero, List.getElem_cons_succ, List.setIfInBounds_toArray, List.set_cons_zero, List.set_cons_succ]
    obtain ⟨hrz, r0, r1, r2⟩ := row3_facts (heap_b hres d3.bel)
    refine wpAnyH_ready (rs := [3]) (by kernel_rfl) (by simp) ?_
    refine AllReadyH.cons rfl (fun K hK => ?_) AllReadyH.nil
    go_simp
    refine hK.out _ _ trivial (fun hHeld => ?_)
    clear hK K
    try simp only [Act.put, List.getElem_toArray, List.getElem_cons_zero, List.getElem_cons_succ, List.setIfInBounds_toArray, List.set_cons_zero, List.set_cons_succ]
    obtain ⟨haz, a0, a1, a2, a3, a4⟩ := row5z (p := w.heap.size) (x := .slice xm d.zs.length ym) (y := .slice xb C yb) (z := .slice xr C yr) (heap_b hrea d3.bel) (by omega)
    refine wpAnyH_ready (rs := [4]) (by kernel_rfl) (by simp) ?_
    refine AllReadyH.cons rfl (fun K hK => ?_) AllReadyH.nil
    go_simp
    refine hK.out _ _ trivial (fun hHeld => ?_)
    clear hK K hHeld
    try simp only [Act.put, List.getElem_toArray, List.getElem_cons_zero, List.getElem_cons_succ, List.setIfInBounds_toArray, List.set_cons_zero, List.set_cons_succ]
    refine wpAnyH_done (by kernel_rfl) ?_ _
    have HF := hide (d3.fin hwW (Nat.le_refl _) (Nat.lt_of_succ_lt hwz))
    have HG := hide (fin5 (x := x) (y := y) (z := z) (u := u) (v := v) (p := w.heap.size + 1) HF.out.2.1 HF.out.2.2 (by omega) ⟨_, HF.out.1.1, by omega, HF.out.1.2⟩)
    clear HF d3
    go_wp2
    refine bodyPost_ret (v := .tuple #[.agg #[.slice xm d.zs.length ym, .slice xb C yb, .slice xr C yr], .agg (five x y z u v)]) (by simp [results, Try.results17, go_sem, r0, r1, r2, a0, a1, a2, a3, a4]) rfl ⟨_, _, _, _, _, _, _, _, _, _, _, _, _, rfl, HG.out.1, hcp, hsm, HG.out.2⟩

end Go.Proofs.Ytneofegnbflfiaa

/- a Tso in its variable; what the drawn laws of the buffers say, plainly -/
namespace Go.Proofs.Ytneofegnbflfiaa
open Go.RowKit
set_option linter.unusedVariables false
set_option linter.unusedSimpArgs false

/-- a Tso in a variable of its own -/
structure Bq (V : World) (B : Nat) (m b r : Value) (d : Td) (C : Nat) : Prop where
  box : V.heap[B]? = some (.cells #[m, b, r] 28 (0, 0))
  tv : Tv V m b r d.zs C d.L d.F C d.Z
theorem Bq.below {V V' : World} {B : Nat} {m b r : Value} {d : Td} {C : Nat} (h : Bq V B m b r d C) (hb : Below V.heap.size V V') : Bq V' B m b r d C := ⟨heap_b h.box hb, h.tv.below hb⟩
theorem Bq.new {V : World} {m b r : Value} {d : Td} {C : Nat} (h : Tv V m b r d.zs C d.L d.F C d.Z) : Bq (V.alloc (.cells #[m, b, r] 28)) V.heap.size m b r d C ∧ Below V.heap.size V (V.alloc (.cells #[m, b, r] 28)) :=
  have hA : Below V.heap.size V (V.alloc (.cells #[m, b, r] 28)) := (Below.refl _ _).alloc (Nat.le_refl _) _
  ⟨⟨heap_alloc_new _ _, h.below hA⟩, hA⟩
theorem Bq.new2 {V : World} {m b r : Value} {d : Td} {C : Nat} (k co va vl rg : Int) (h : Tv V m b r d.zs C d.L d.F C d.Z) : Bq ((V.alloc (.cells #[m, b, r] 28)).alloc (.cells (five k co va vl rg) 37)) V.heap.size m b r d C ∧ Below V.heap.size V ((V.alloc (.cells #[m, b, r] 28)).alloc (.cells (five k co va vl rg) 37)) ∧ ((V.alloc (.cells #[m, b, r] 28)).alloc (.cells (five k co va vl rg) 37)).heap[V.heap.size + 1]? = some (.cells (five k co va vl rg) 37 (0, 0)) :=
  have hA := boxes2 V m b r k co va vl rg 28 37
  ⟨⟨hA.2.1, h.below hA.1⟩, hA.1, hA.2.2⟩

theorem seB_true {d : Td} {C : Nat} {c v : Int} (h : seB d.zs C d.L d.F C d.Z c v = true) : tokD d C = true ∧ (0 ≤ c ∧ c < C) ∧ 0 ≤ v ∧ v < 3 := by
  unfold seB at h
  simp only [Bool.and_eq_true, inB, decide_eq_true_eq] at h
  exact ⟨h.1.1, h.1.2, h.2⟩
theorem seB_of {d : Td} {C : Nat} {c v : Nat} (h : tokD d C = true) (hc : c < C) (hv : v < 3) : seB d.zs C d.L d.F C d.Z c v = true ∧ seV d.zs C d.L d.F C d.Z c v = sn d.zs (d.F c) v (d.L c) := by
  have e : seB d.zs C d.L d.F C d.Z c v = true := by
    unfold seB
    simp only [Bool.and_eq_true, inB, decide_eq_true_eq]
    exact ⟨⟨h, by omega⟩, by omega⟩
  exact ⟨e, by unfold seV; rw [if_pos e]; simp⟩
theorem seV_true {d : Td} {C : Nat} {c v : Nat} (h : seB d.zs C d.L d.F C d.Z c v = true) : seV d.zs C d.L d.F C d.Z c v = sn d.zs (d.F c) v (d.L c) := by
  unfold seV; rw [if_pos h]; simp

theorem sn_congr {zs : List Int} {f g : Nat → Nat → Int} {v k : Nat} (h : ∀ j, j < k → f j = g j) : sn zs f v k = sn zs g v k := by
  induction k with
  | zero => rfl
  | succ k ih => rw [sn, sn, h k (by omega), ih (fun j hj => h j (by omega))]
theorem sn_snoc (zs : List Int) (f : Nat → Nat → Int) (v n : Nat) (va vl : Int) : sn zs (snocF f n va vl) v (n + 1) = if (v : Int) = va then vl else sn zs f v n := by
  rw [sn]
  have e0 : snocF f n va vl n 0 = va := by rw [snocF, upd_at, if_pos rfl]
  have e1 : snocF f n va vl n 1 = vl := by rw [snocF, upd_at, if_neg (by decide)]
  rw [e0, e1, sn_congr (g := f) (fun j hj => by rw [snocF, upd_ne (by omega)])]
  by_cases q : va = (v : Int)
  · rw [if_pos q, if_pos q.symm]
  · rw [if_neg q, if_neg (fun e => q e.symm)]
theorem getD_set {zs : List Int} {i v : Nat} {x : Int} (hi : i < zs.length) : (zs.set i x).getD v 0 = if v = i then x else zs.getD v 0 := by
  by_cases q : v = i
  · subst q
    rw [if_pos rfl, List.getD_eq_getElem?_getD, List.getElem?_set_self hi]; rfl
  · rw [if_neg q, List.getD_eq_getElem?_getD, List.getElem?_set_ne (fun e => q e.symm), List.getD_eq_getElem?_getD]
theorem sn_drain (zs : List Int) (f : Nat → Nat → Int) (v : Nat) (h0 : 0 ≤ f 0 0) (h1 : f 0 0 < zs.length) : ∀ n, sn (zs.set (f 0 0).toNat (f 0 1)) (fun j => f (j + 1)) v n = sn zs f v (n + 1)
  | 0 => by
    show (zs.set (f 0 0).toNat (f 0 1)).getD v 0 = if f 0 0 = (v : Int) then f 0 1 else zs.getD v 0
    rw [getD_set (by omega)]
    by_cases q : v = (f 0 0).toNat
    · rw [if_pos q, if_pos (by omega)]
    · rw [if_neg q, if_neg (by omega)]
  | n + 1 => by
    rw [sn, sn_drain zs f v h0 h1 n]
    exact (sn.eq_2 zs f v (n + 1)).symm

theorem okc_form {d : Td} {C : Nat} {k co va vl rg : Int} (h : okc d C k co va vl rg = 0) : fmB C k co va vl rg = true := by
  cases hf : fmB C k co va vl rg
  · rw [(ok_form hf).1] at h
    exact absurd h (by decide)
  · rfl
theorem nxt_ref {d : Td} {C : Nat} {k co va vl rg : Int} (h : ¬ okc d C k co va vl rg = 0) : nxt d C k co va vl rg = d := by unfold nxt; rw [if_pos h]
theorem okc_one {d : Td} {C : Nat} {k co va vl rg : Int} : okc d C k co va vl rg ≠ 1 := by
  unfold okc
  repeat' split
  all_goals decide
theorem own_says {d : Td} {C : Nat} {co va vl rg : Int} (h : okc d C 1 co va vl rg = 0) (c v : Nat) : sn (nxt d C 1 co va vl rg).zs ((nxt d C 1 co va vl rg).F c) v ((nxt d C 1 co va vl rg).L c) = if (c : Int) = co ∧ (v : Int) = va then vl else sn d.zs (d.F c) v (d.L c) := by
  have hf := okc_form h
  have hc := fm_core hf
  obtain ⟨x, rfl⟩ : ∃ x : Nat, co = x := ⟨co.toNat, by omega⟩
  have q := ok1 (d := d) hf
  simp only [Int.toNat_natCast] at q
  by_cases h4 : 4 ≤ d.L x
  · rw [(q.1 h4).1] at h; exact absurd h (by decide)
  rw [(q.2 h4).2]
  show sn d.zs (upd d.F x (snocF (d.F x) (d.L x) va vl) c) v (upd d.L x (d.L x + 1) c) = _
  by_cases e : c = x
  · subst e
    rw [upd_at, upd_at, sn_snoc]
    by_cases e2 : (v : Int) = va
    · rw [if_pos e2, if_pos ⟨rfl, e2⟩]
    · rw [if_neg e2, if_neg (fun q => e2 q.2)]
  · rw [upd_ne e, upd_ne e, if_neg (fun q => e (by omega))]
theorem fifo_says {d : Td} {C : Nat} {co : Int} (ht : tokD d C = true) (h : okc d C 4 co 0 0 0 = 0) : ∃ x : Nat, co = x ∧ x < C ∧ 0 < d.L x ∧ (∃ s : Nat, d.F x 0 0 = s ∧ s < 3 ∧ (nxt d C 4 co 0 0 0).zs.getD s 0 = d.F x 0 1 ∧ ∀ v : Nat, v ≠ s → (nxt d C 4 co 0 0 0).zs.getD v 0 = d.zs.getD v 0) ∧ (∀ v, sn (nxt d C 4 co 0 0 0).zs ((nxt d C 4 co 0 0 0).F x) v ((nxt d C 4 co 0 0 0).L x) = sn d.zs (d.F x) v (d.L x)) ∧ (nxt d C 4 co 0 0 0).L x = d.L x - 1 := by
  have hf := okc_form h
  have hc := fm_core hf
  obtain ⟨x, rfl⟩ : ∃ x : Nat, co = x := ⟨co.toNat, by omega⟩
  have hx : x < C := by omega
  obtain ⟨_, _, h3, _, h5⟩ := tok_parts ht
  have q := ok4 (d := d) hf
  simp only [Int.toNat_natCast] at q
  by_cases h4 : d.L x = 0
  · rw [(q.1 h4).1] at h; exact absurd h (by decide)
  have hp : 0 < d.L x := by omega
  rw [(q.2 hp).2]
  have hs := ((h5 x hx).2.1 0 hp).1
  obtain ⟨s, hse⟩ : ∃ s : Nat, d.F x 0 0 = s := ⟨(d.F x 0 0).toNat, by omega⟩
  refine ⟨x, rfl, hx, hp, ⟨s, hse, by omega, ?_, fun v hv => ?_⟩, fun v => ?_, upd_at _ _ _⟩
  · show (d.zs.set (d.F x 0 0).toNat (d.F x 0 1)).getD s 0 = _
    rw [getD_set (by omega), if_pos (by omega)]
  · show (d.zs.set (d.F x 0 0).toNat (d.F x 0 1)).getD v 0 = _
    rw [getD_set (by omega), if_neg (by omega)]
  · show sn (d.zs.set (d.F x 0 0).toNat (d.F x 0 1)) (upd d.F x (fun j => d.F x (j + 1)) x) v (upd d.L x (d.L x - 1) x) = _
    rw [upd_at, upd_at, sn_drain _ _ _ hs.1 (by omega)]
    congr 1
    omega
theorem okc_kind {d : Td} {C : Nat} {k co va vl rg : Int} (h : okc d C k co va vl rg = 0) : k = 1 ∨ k = 2 ∨ k = 3 ∨ k = 4 := by
  by_cases h1 : k = 1
  · exact .inl h1
  by_cases h2 : k = 2
  · exact .inr (.inl h2)
  by_cases h3 : k = 3
  · exact .inr (.inr (.inl h3))
  exact .inr (.inr (.inr (fm_four (okc_form h) h1 h2 h3)))
theorem nxt_mem {d : Td} {C : Nat} {k co va vl rg : Int} (h : k ≠ 4) : (nxt d C k co va vl rg).zs = d.zs := by
  by_cases h0 : okc d C k co va vl rg = 0
  · have hf := okc_form h0
    rcases okc_kind h0 with rfl | rfl | rfl | rfl
    · have q := ok1 (d := d) hf
      by_cases h4 : 4 ≤ d.L co.toNat
      · rw [(q.1 h4).2]
      · rw [(q.2 h4).2]
    · rw [(ok2 (d := d) hf).1.2]
    · rw [(ok3 (d := d) hf).2]
    · exact absurd rfl h
  · rw [nxt_ref h0]
theorem nxt_regs {d : Td} {C : Nat} {k co va vl rg : Int} (h : okc d C k co va vl rg = 0) (h2 : k ≠ 2) : (nxt d C k co va vl rg).Z = d.Z := by
  have hf := okc_form h
  rcases okc_kind h with rfl | rfl | rfl | rfl
  · have q := ok1 (d := d) hf
    by_cases h4 : 4 ≤ d.L co.toNat
    · rw [(q.1 h4).2]
    · rw [(q.2 h4).2]
  · exact absurd rfl h2
  · rw [(ok3 (d := d) hf).2]
  · have q := ok4 (d := d) hf
    by_cases h4 : d.L co.toNat = 0
    · rw [(q.1 h4).2]
    · rw [(q.2 (by omega)).2]
theorem loads_says {d : Td} {C : Nat} {k co va vl rg : Int} (ht : tokD d C = true) (h : okc d C k co va vl rg = 0) (i j : Nat) (hi : i < C) (hj : j < 2) : (k = 2 → (0 ≤ co ∧ co < C) ∧ 0 ≤ va ∧ va < 3) ∧ ((nxt d C k co va vl rg).Z i).getD j 0 = if k = 2 ∧ (i : Int) = co ∧ (j : Int) = rg then sn d.zs (d.F co.toNat) va.toNat (d.L co.toNat) else (d.Z i).getD j 0 := by
  have hf := okc_form h
  have hc := fm_core hf
  by_cases h2 : k = 2
  · subst h2
    obtain ⟨⟨_, q⟩, hva, hrg⟩ := ok2 (d := d) hf
    refine ⟨fun _ => ⟨hc, hva⟩, ?_⟩
    rw [q]
    obtain ⟨x, rfl⟩ : ∃ x : Nat, co = x := ⟨co.toNat, by omega⟩
    obtain ⟨y, rfl⟩ : ∃ y : Nat, rg = y := ⟨rg.toNat, by omega⟩
    simp only [Int.toNat_natCast]
    obtain ⟨_, _, _, _, h5⟩ := tok_parts ht
    have hl := (h5 x (by omega)).2.2.1
    by_cases e : i = x
    · subst e
      rw [upd_at, getD_set (by omega)]
      by_cases e2 : j = y
      · rw [if_pos e2, if_pos ⟨trivial, rfl, by omega⟩]
      · rw [if_neg e2, if_neg (fun q => e2 (by omega))]
    · rw [upd_ne e, if_neg (fun q => e (by omega))]
  · exact ⟨fun e => absurd e h2, by rw [nxt_regs h h2, if_neg (fun q => h2 q.1)]⟩

theorem dnN_other {d : Td} {c n : Nat} : (dnN d c n).Z = d.Z ∧ ∀ c', c' ≠ c → (dnN d c n).L c' = d.L c' := by
  induction n with
  | zero => exact ⟨rfl, fun c' _ => rfl⟩
  | succ n ih =>
    refine ⟨ih.1, fun c' hc' => ?_⟩
    show upd (dnN d c n).L c _ c' = _
    rw [upd_ne hc']
    exact ih.2 c' hc'
theorem dal_other {d : Td} {k : Nat} : (dal d k).Z = d.Z ∧ ∀ c, c < k → (dal d k).L c = 0 := by
  induction k with
  | zero => exact ⟨rfl, fun c hc => absurd hc (by omega)⟩
  | succ k ih =>
    refine ⟨(dnN_other (d := dal d k) (c := k)).1.trans ih.1, fun c hc => ?_⟩
    by_cases e : c = k
    · subst e
      show (dnN (dal d c) c ((dal d c).L c)).L c = 0
      rw [dnN_L]; omega
    · show (dnN (dal d k) k ((dal d k).L k)).L c = 0
      rw [(dnN_other (d := dal d k) (c := k)).2 c e]
      exact ih.2 c (by omega)
theorem dal_again {d : Td} {k : Nat} (h : ∀ c, c < k → d.L c = 0) : dal d k = d := by
  induction k with
  | zero => rfl
  | succ k ih =>
    have e := ih (fun c hc => h c (by omega))
    show dnN (dal d k) k ((dal d k).L k) = d
    rw [e, h k (by omega)]; rfl

theorem act_yes {d : Td} {C : Nat} {k co va vl rg : Int} (h : tokD d C = true) : aK d C C k co va vl rg = okc d C k co va vl rg ∧ aD d C C k co va vl rg = nxt d C k co va vl rg ∧ aC d C C = C := by
  have h' : tokB d.zs C d.L d.F C d.Z = true := h
  exact ⟨by unfold aK; rw [if_pos h'], by unfold aD; rw [if_pos h'], by unfold aC; rw [if_pos h']⟩
theorem act_no {d : Td} {C : Nat} {k co va vl rg : Int} (h : tokD d C = false) : aK d C C k co va vl rg = 1 := by
  have h' : ¬ tokB d.zs C d.L d.F C d.Z = true := by intro e; rw [show tokB d.zs C d.L d.F C d.Z = false from h] at e; exact absurd e (by decide)
  unfold aK; rw [if_neg h']
theorem zero_says {d : Td} {C : Nat} {k co va vl rg : Int} (h : aK d C C k co va vl rg = 0) : tokD d C = true ∧ okc d C k co va vl rg = 0 ∧ aD d C C k co va vl rg = nxt d C k co va vl rg ∧ aC d C C = C := by
  cases hx : tokD d C
  · rw [act_no hx] at h; exact absurd h (by decide)
  · obtain ⟨a, b, c⟩ := act_yes (k := k) (co := co) (va := va) (vl := vl) (rg := rg) hx
    exact ⟨rfl, a.symm.trans h, b, c⟩
theorem fence_says (d : Td) (C : Nat) (co : Int) : aK d C C 3 co 0 0 0 = 1 ∨ aK d C C 3 co 0 0 0 = 2 ∨ (aD d C C 3 co 0 0 0 = d ∧ aC d C C = C ∧ tokD d C = true ∧ ∃ c : Nat, co = c ∧ c < C ∧ ((aK d C C 3 co 0 0 0 = 4 ∧ 0 < d.L c) ∨ (aK d C C 3 co 0 0 0 = 0 ∧ d.L c = 0))) := by
  cases hx : tokD d C
  · exact .inl (act_no hx)
  · obtain ⟨a, b, e⟩ := act_yes (k := 3) (co := co) (va := 0) (vl := 0) (rg := 0) hx
    rw [a, b, e]
    cases hf : fmB C 3 co 0 0 0
    · exact .inr (.inl (ok_form hf).1)
    · have hc := fm_core hf
      obtain ⟨c, rfl⟩ : ∃ c : Nat, co = c := ⟨co.toNat, by omega⟩
      obtain ⟨q1, q2⟩ := ok3 (d := d) hf
      simp only [Int.toNat_natCast] at q1
      refine .inr (.inr ⟨q2, rfl, rfl, c, rfl, by omega, ?_⟩)
      rw [q1]
      by_cases hp : 0 < d.L c
      · exact .inl ⟨if_pos hp, hp⟩
      · exact .inr ⟨if_neg hp, by omega⟩
theorem done_says (d : Td) (C : Nat) (k co va vl rg : Int) : (aK d C C k co va vl rg = 1 ∧ tokD d C = false) ∨ (tokD d C = true ∧ aC d C C = C ∧ ((aK d C C k co va vl rg ≠ 0 ∧ aK d C C k co va vl rg ≠ 1 ∧ aD d C C k co va vl rg = d) ∨ (aK d C C k co va vl rg = 0 ∧ tokD (aD d C C k co va vl rg) C = true ∧ (k = 4 ∨ (k ≠ 4 ∧ (aD d C C k co va vl rg).zs = d.zs))))) := by
  cases hx : tokD d C
  · exact .inl ⟨act_no hx, rfl⟩
  · obtain ⟨a, b, e⟩ := act_yes (k := k) (co := co) (va := va) (vl := vl) (rg := rg) hx
    rw [a, b, e]
    refine .inr ⟨rfl, rfl, ?_⟩
    by_cases h0 : okc d C k co va vl rg = 0
    · refine .inr ⟨h0, nxt_tok hx, ?_⟩
      by_cases h4 : k = 4
      · exact .inl h4
      · exact .inr ⟨h4, nxt_mem h4⟩
    · exact .inl ⟨h0, okc_one, nxt_ref h0⟩

/-- what a law's loops keep: the Tso, the answer, the act, each in its variable -/
def Lw (w : World) (B1 B2 : Nat) (m b r m2 b2 r2 : Value) (d D : Td) (C : Nat) (a : Array Value) (wr : World) : Prop := Bq wr B1 m b r d C ∧ Bq wr B2 m2 b2 r2 D C ∧ wr.heap[B1 + 1]? = some (.cells a 37 (0, 0)) ∧ Below w.heap.size w wr
theorem Lw.below {w : World} {B1 B2 : Nat} {m b r m2 b2 r2 : Value} {d D : Td} {C : Nat} {a : Array Value} {wr wr' : World} (h : Lw w B1 B2 m b r m2 b2 r2 d D C a wr) (hb : Below wr.heap.size wr wr') : Lw w B1 B2 m b r m2 b2 r2 d D C a wr' :=
  ⟨h.1.below hb, h.2.1.below hb, heap_b h.2.2.1 hb, h.2.2.2.trans (hb.mono h.2.2.2.size)⟩
theorem Tv.regAt {w : World} {mv bv rv : Value} {zs : List Int} {C : Nat} {L : Nat → Nat} {F : Nat → Nat → Nat → Int} {R : Nat} {Z : Nat → List Int} (h : Tv w mv bv rv zs C L F R Z) {c : Nat} (hc : c < R) (hp : 0 < (Z c).length) :
    ∃ rb ro rc p o ic, rv = .slice (some ⟨rb, ro, none⟩) R rc ∧ w.cell? ⟨rb, ro + c, none⟩ = some (.slice (some ⟨p, o, none⟩) (Z c).length ic) ∧ ∀ j, j < (Z c).length → w.cell? ⟨p, o + j, none⟩ = some (.int .i64 ((Z c).getD j 0)) := by
  obtain ⟨_, _, ⟨ra, rc, rfl, h1⟩⟩ := h
  obtain ⟨rb, ro, rfl, h2⟩ := h1 (by omega)
  obtain ⟨ia, ic, h3, ad, cap, e, h4⟩ := h2 c hc
  obtain ⟨rfl, rfl⟩ : ia = ad ∧ ic = cap := by simp at e; exact e
  obtain ⟨p, o, rfl, h5⟩ := h4 hp
  exact ⟨rb, ro, rc, p, o, ic, rfl, h3, h5⟩
theorem Tv.bufAt2 {w : World} {mv bv rv : Value} {zs : List Int} {C : Nat} {L : Nat → Nat} {F : Nat → Nat → Nat → Int} {R : Nat} {Z : Nat → List Int} (h : Tv w mv bv rv zs C L F R Z) {c : Nat} (hc : c < C) :
    ∃ bb bo bc ia ic, bv = .slice (some ⟨bb, bo, none⟩) C bc ∧ w.cell? ⟨bb, bo + c, none⟩ = some (.slice ia (L c) ic) ∧ Sr w (.slice ia (L c) ic) 2 (L c) (F c) := by
  obtain ⟨_, ⟨ba, bc, rfl, h1⟩, _⟩ := h
  obtain ⟨bb, bo, rfl, h3⟩ := h1 (by omega)
  obtain ⟨ia, ic, q, r⟩ := h3 c hc
  exact ⟨bb, bo, bc, ia, ic, rfl, q, r⟩
theorem Tv.memAt {w : World} {mv bv rv : Value} {zs : List Int} {C : Nat} {L : Nat → Nat} {F : Nat → Nat → Nat → Int} {R : Nat} {Z : Nat → List Int} (h : Tv w mv bv rv zs C L F R Z) (hp : 0 < zs.length) :
    ∃ mb mo mc, mv = .slice (some ⟨mb, mo, none⟩) zs.length mc ∧ ∀ v, v < zs.length → w.cell? ⟨mb, mo + v, none⟩ = some (.int .i64 (zs.getD v 0)) := by
  obtain ⟨⟨ma, mc, rfl, h0⟩, _, _⟩ := h
  obtain ⟨mb, mo, rfl, h2⟩ := h0 hp
  exact ⟨mb, mo, mc, rfl, h2⟩

end Go.Proofs.Ytneofegnbflfiaa

/- a Tso's rows read one by one -/
namespace Go.Proofs.Ytneofegnbflfiaa
open Go.RowKit
set_option linter.unusedVariables false
set_option linter.unusedSimpArgs false

theorem Tv.regForm {w : World} {mv bv : Value} {xr : Option Addr} {zs : List Int} {C : Nat} {L : Nat → Nat} {F : Nat → Nat → Nat → Int} {R yr : Nat} {Z : Nat → List Int} (h : Tv w mv bv (.slice xr R yr) zs C L F R Z) (hp : 0 < R) : ∃ rb ro, xr = some ⟨rb, ro, none⟩ := by
  obtain ⟨_, _, ⟨ra, rc, e, h1⟩⟩ := h
  obtain ⟨rb, ro, rfl, _⟩ := h1 hp
  simp only [Value.slice.injEq] at e
  exact ⟨rb, ro, e.1⟩
theorem Tv.bufForm {w : World} {mv rv : Value} {xb : Option Addr} {zs : List Int} {C : Nat} {L : Nat → Nat} {F : Nat → Nat → Nat → Int} {R yb : Nat} {Z : Nat → List Int} (h : Tv w mv (.slice xb C yb) rv zs C L F R Z) (hp : 0 < C) : ∃ bb bo, xb = some ⟨bb, bo, none⟩ := by
  obtain ⟨_, ⟨ra, rc, e, h1⟩, _⟩ := h
  obtain ⟨rb, ro, rfl, _⟩ := h1 hp
  simp only [Value.slice.injEq] at e
  exact ⟨rb, ro, e.1⟩
theorem Tv.memForm {w : World} {bv rv : Value} {xm : Option Addr} {zs : List Int} {C n : Nat} {L : Nat → Nat} {F : Nat → Nat → Nat → Int} {R ym : Nat} {Z : Nat → List Int} (h : Tv w (.slice xm n ym) bv rv zs C L F R Z) (hp : 0 < zs.length) : ∃ mb mo, xm = some ⟨mb, mo, none⟩ := by
  obtain ⟨⟨ra, rc, e, h1⟩, _, _⟩ := h
  obtain ⟨rb, ro, rfl, _⟩ := h1 hp
  simp only [Value.slice.injEq] at e
  exact ⟨rb, ro, e.1⟩
theorem Tv.regC {w : World} {mv bv : Value} {rb ro : Nat} {zs : List Int} {C : Nat} {L : Nat → Nat} {F : Nat → Nat → Nat → Int} {R yr : Nat} {Z : Nat → List Int} (h : Tv w mv bv (.slice (some ⟨rb, ro, none⟩) R yr) zs C L F R Z) {c n : Nat} (hc : c < R) (hl : (Z c).length = n) (hp : 0 < n) :
    ∃ p o ic, w.cell? ⟨rb, ro + c, none⟩ = some (.slice (some ⟨p, o, none⟩) n ic) ∧ ∀ j, j < n → w.cell? ⟨p, o + j, none⟩ = some (.int .i64 ((Z c).getD j 0)) := by
  subst hl
  obtain ⟨rb', ro', rc', p, o, ic, e, h1, h2⟩ := h.regAt hc hp
  simp only [Value.slice.injEq, Option.some.injEq, Addr.mk.injEq] at e
  obtain ⟨⟨rfl, rfl, _⟩, _, _⟩ := e
  exact ⟨p, o, ic, h1, h2⟩
theorem Tv.bufC {w : World} {mv rv : Value} {bb bo : Nat} {zs : List Int} {C : Nat} {L : Nat → Nat} {F : Nat → Nat → Nat → Int} {R yb : Nat} {Z : Nat → List Int} (h : Tv w mv (.slice (some ⟨bb, bo, none⟩) C yb) rv zs C L F R Z) {c n : Nat} (hc : c < C) (hl : L c = n) :
    ∃ ia ic, w.cell? ⟨bb, bo + c, none⟩ = some (.slice ia n ic) ∧ (0 < n → ∃ p o, ia = some ⟨p, o, none⟩ ∧ w.cell? ⟨p, o, none⟩ = some (.int .i64 (F c 0 0)) ∧ w.cell? ⟨p, o + 1, none⟩ = some (.int .i64 (F c 0 1))) := by
  subst hl
  obtain ⟨bb', bo', bc', ia, ic, e, h1, ad, cap, e2, h2⟩ := h.bufAt2 hc
  simp only [Value.slice.injEq, Option.some.injEq, Addr.mk.injEq] at e
  obtain ⟨⟨rfl, rfl, _⟩, _, _⟩ := e
  obtain ⟨rfl, rfl⟩ : ia = ad ∧ ic = cap := by simp at e2; exact e2
  refine ⟨ia, ic, h1, fun hp => ?_⟩
  obtain ⟨p, o, rfl, h3⟩ := h2 hp
  have a := h3 0 hp 0 (by decide)
  have b := h3 0 hp 1 (by decide)
  simp only [Nat.zero_mul, Nat.add_zero] at a b
  exact ⟨p, o, rfl, a, b⟩
theorem Tv.memC {w : World} {bv rv : Value} {mb mo : Nat} {zs : List Int} {C n : Nat} {L : Nat → Nat} {F : Nat → Nat → Nat → Int} {R ym : Nat} {Z : Nat → List Int} (h : Tv w (.slice (some ⟨mb, mo, none⟩) n ym) bv rv zs C L F R Z) {v : Nat} (hv : v < zs.length) : w.cell? ⟨mb, mo + v, none⟩ = some (.int .i64 (zs.getD v 0)) := by
  obtain ⟨mb', mo', mc', e, h1⟩ := h.memAt (by omega)
  simp only [Value.slice.injEq, Option.some.injEq, Addr.mk.injEq] at e
  obtain ⟨⟨rfl, rfl, _⟩, _, _⟩ := e
  exact h1 v hv
theorem seB_int {d : Td} {C : Nat} {c v : Int} (h : tokD d C = true) (hc : 0 ≤ c ∧ c < C) (hv : 0 ≤ v ∧ v < 3) : seB d.zs C d.L d.F C d.Z c v = true ∧ seV d.zs C d.L d.F C d.Z c v = sn d.zs (d.F c.toNat) v.toNat (d.L c.toNat) := by
  have e : seB d.zs C d.L d.F C d.Z c v = true := by
    unfold seB
    simp only [Bool.and_eq_true, inB, decide_eq_true_eq]
    exact ⟨⟨h, by omega⟩, by omega⟩
  exact ⟨e, by unfold seV; rw [if_pos e]⟩

/-- two Tsos, each in its variable -/
def Ld (w : World) (B1 B2 : Nat) (m b r m2 b2 r2 : Value) (d D : Td) (C : Nat) (wr : World) : Prop := Bq wr B1 m b r d C ∧ Bq wr B2 m2 b2 r2 D C ∧ Below w.heap.size w wr
theorem Ld.below {w : World} {B1 B2 : Nat} {m b r m2 b2 r2 : Value} {d D : Td} {C : Nat} {wr wr' : World} (h : Ld w B1 B2 m b r m2 b2 r2 d D C wr) (hb : Below wr.heap.size wr wr') : Ld w B1 B2 m b r m2 b2 r2 d D C wr' :=
  ⟨h.1.below hb, h.2.1.below hb, h.2.2.trans (hb.mono h.2.2.size)⟩
theorem dr_says (d : Td) (C : Nat) : tokB d.zs C d.L d.F C d.Z = false ∨ (tokB d.zs C d.L d.F C d.Z = true ∧ tokD d C = true ∧ aC d C C = C ∧ tokD (eD d C C) C = true ∧ (∀ c, c < C → (eD d C C).L c = 0) ∧ (eD d C C).Z = d.Z ∧ dal (eD d C C) C = eD d C C) := by
  cases hx : tokB d.zs C d.L d.F C d.Z
  · exact .inl rfl
  · have e1 : eD d C C = dal d C := by unfold eD; rw [if_pos hx]
    have e2 : aC d C C = C := by unfold aC; rw [if_pos hx]
    rw [e1, e2]
    exact .inr ⟨rfl, hx, rfl, dal_tok hx (Nat.le_refl _), fun c hc => (dal_other (d := d)).2 c hc, (dal_other (d := d)).1, dal_again (fun c hc => (dal_other (d := d)).2 c hc)⟩

end Go.Proofs.Ytneofegnbflfiaa
