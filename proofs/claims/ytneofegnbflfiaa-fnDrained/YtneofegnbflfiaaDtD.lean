/- what the drawn laws of the buffers draw (written by mkDtD.py) -/
import Derived.Test.YtneofegnbflfiaaDtC
import Derived.Deep.RegionHeld3
namespace Go.Proofs.Ytneofegnbflfiaa
open Go.RowKit
set_option linter.unusedVariables false
set_option linter.unusedSimpArgs false

/-- a Tso in a variable B of its own, beside a reader g; all that lay in W stands -/
structure Dv (W V : World) (g B base : Nat) (m b r : Value) (d : Td) (C : Nat) (vb vr : Nat → Value) (tag : Nat → Nat) : Prop where
  rd : Rdr V g
  box : V.heap[B]? = some (.cells #[m, b, r] 28 (0, 0))
  ta : TaD V base m b r d C vb vr tag
  bel : Below W.heap.size W V
  lo : W.heap.size ≤ g ∧ g < B ∧ g < base
theorem Dv.drew {W V : World} {g B base : Nat} {m b r : Value} {d : Td} {C : Nat} {vb vr : Nat → Value} {tag : Nat → Nat} (h : Dv W V g B base m b r d C vb vr tag) : Dv W V.drew g B base m b r d C vb vr tag :=
  ⟨h.rd.below ((Below.refl _ _).drew), h.box, Ta.below h.ta ((Below.refl _ _).drew), h.bel.drew, h.lo⟩
theorem Dv.read {W V : World} {g B base : Nat} {m b r : Value} {d : Td} {C : Nat} {vb vr : Nat → Value} {tag : Nat → Nat} {V' : World} (h : Dv W V g B base m b r d C vb vr tag) (hr : Rdr V' g) (hg : V.grownBy V' (some g)) : Dv W V' g B base m b r d C vb vr tag := by
  obtain ⟨l1, l2, l3⟩ := h.lo
  exact ⟨hr, (hg.block _ (lt_of_block h.box) (by simp; omega)).trans h.box, Ta.grown h.ta hg (fun k hk => by simp only [Option.some.injEq] at hk; omega), below_read h.bel hg l1 h.bel.size, h.lo⟩
theorem Dv.start {W w1 w2 : World} {g : Nat} {m b r : Value} {d : Td} {C : Nat} {vb vr : Nat → Value} {tag : Nat → Nat} (h0 : W.heap.size ≤ g) (hr1 : Rdr w1 g) (hb : Below W.heap.size W w1) (ta : TaD w2 w1.heap.size m b r d C vb vr tag) (hr : Rdr w2 g) (hg : w1.grownBy w2 (some g)) :
    Dv W (w2.alloc (.cells #[m, b, r] 28)) g w2.heap.size w1.heap.size m b r d C vb vr tag := by
  have hA2 : Below w2.heap.size w2 (w2.alloc (.cells #[m, b, r] 28)) := (Below.refl _ _).alloc (Nat.le_refl _) _
  have hB2 := below_read hb hg h0 hb.size
  exact ⟨hr.below hA2, heap_alloc_new _ _, Ta.below ta hA2, hB2.trans (hA2.mono hB2.size), h0, hr.lt, hr1.lt⟩
/-- the answer is laid into a variable that lay in W -/
theorem Dv.fin {W V : World} {g B base : Nat} {m b r : Value} {d : Td} {C : Nat} {vb vr : Nat → Value} {tag : Nat → Nat} {w : World} {p : Nat} (h : Dv W V g B base m b r d C vb vr tag) (hw : Below w.heap.size w W) (h1 : w.heap.size ≤ p) (h2 : p < W.heap.size) : (w.heap.size ≤ base ∧ TaD (((V.setCell ⟨p, 0, none⟩ m).setCell ⟨p, 1, none⟩ b).setCell ⟨p, 2, none⟩ r) base m b r d C vb vr tag) ∧
    TaD (((V.setCell ⟨p, 0, none⟩ m).setCell ⟨p, 1, none⟩ b).setCell ⟨p, 2, none⟩ r) w.heap.size m b r d C vb vr tag ∧ Below w.heap.size w (((V.setCell ⟨p, 0, none⟩ m).setCell ⟨p, 1, none⟩ b).setCell ⟨p, 2, none⟩ r) := by
  obtain ⟨l1, l2, l3⟩ := h.lo
  have hro : ∀ g, some p = some g → g < base := fun g e => by simp only [Option.some.injEq] at e; omega
  have hB := hw.trans (h.bel.mono hw.size)
  have hs := hw.size
  have t3 : TaD (((V.setCell ⟨p, 0, none⟩ m).setCell ⟨p, 1, none⟩ b).setCell ⟨p, 2, none⟩ r) base m b r d C vb vr tag := Ta.grown (Ta.grown (Ta.grown h.ta (grown_set V p 0 m) hro) (grown_set _ p 1 b) hro) (grown_set _ p 2 r) hro
  exact ⟨⟨by omega, t3⟩, t3.mono (by omega), ((hB.setCell (p := ⟨p, 0, none⟩) h1 m).setCell (p := ⟨p, 1, none⟩) h1 b).setCell (p := ⟨p, 2, none⟩) h1 r⟩
/-- another variable, one that lay in W, is set, too -/
theorem tad_set {W : World} {k j x : Nat} {v : Value} {m b r : Value} {d : Td} {C : Nat} {vb vr : Nat → Value} {tag : Nat → Nat} (h : TaD W k m b r d C vb vr tag) (hj : j < k) : TaD (W.setCell ⟨j, x, none⟩ v) k m b r d C vb vr tag :=
  Ta.grown h (grown_set W j x v) (fun g e => by simp only [Option.some.injEq] at e; omega)
theorem put3_other {V : World} {p B i : Nat} {x y z v : Value} (h : V.cell? ⟨B, i, none⟩ = some v) (hne : B ≠ p) : (((V.setCell ⟨p, 0, none⟩ x).setCell ⟨p, 1, none⟩ y).setCell ⟨p, 2, none⟩ z).cell? ⟨B, i, none⟩ = some v := by
  rw [other_set (Ne.symm hne), other_set (Ne.symm hne), other_set (Ne.symm hne)]; exact h

theorem Bt.below {w w' : World} {ad : Option Addr} {n : Nat} (h : Bt w ad n) (hb : Below w.heap.size w w') : Bt w' ad n := by
  intro h0
  obtain ⟨b, off, rfl, hc⟩ := h h0
  refine ⟨b, off, rfl, fun j hj => ?_⟩
  obtain ⟨c, h1, h2, h3⟩ := hc j hj
  exact ⟨c, h1, h2, Below.keep hb _ _ h3⟩

set_option maxHeartbeats 4000000 in
set_option maxRecDepth 20000 in
theorem drawSeenBy_any (ad : Option Addr) (n cap : Nat) (w : World) (hb : Bt w ad n) (hn : n ≤ 1048576) :
    Calls Try.prog 14 #[.slice ad n cap] w fun e w' => ∃ m b r d C vb vr tag, ∃ x y : Int, e = .returned (.tuple #[.agg #[m, b, r], .int .i64 x, .int .i64 y]) ∧ TaD w' w.heap.size m b r d C vb vr tag ∧ Cpd vb C ∧ Sml d C ∧ Below w.heap.size w w' := by
  have hb' := hb.below ((Below.refl _ w).alloc (Nat.le_refl _) (.cells #[nil3, nil3, nil3] 28))
  clear hb
  go_enter Try.func14, Try.ntmps14
  go_wp2_with fail
  refine (open_any ad n cap _ hb' hn).mono ?_
  rintro e w1 ⟨g, rfl, hg1, hr1, hb1⟩
  clear hb'
  go_wp2_with fail
  refine (tso_any g 12 _ hr1 (by decide) (by decide)).mono ?_
  rintro e w2 ⟨m, b, r, d, C, vb, vr, tag, rfl, ta2, hcp, hsm, hr2, hg2⟩
  obtain ⟨xm, ym, xb, yb, xr, yr, rfl, rfl, rfl⟩ := Ta.three (n := d.zs.length) ta2 rfl
  have dv := Dv.start hg1 hr1 hb1 ta2 hr2 hg2
  obtain ⟨B, hB⟩ : ∃ B, w2.heap.size = B := ⟨_, rfl⟩
  rw [hB] at dv
  have hres : (w.alloc (.cells #[nil3, nil3, nil3] 28)).heap[w.heap.size]? = some (.cells #[nil3, nil3, nil3] 28 (0, 0)) := heap_alloc_new _ _
  have hwW : Below w.heap.size w (w.alloc (.cells #[nil3, nil3, nil3] 28)) := (Below.refl _ w).alloc (Nat.le_refl _) _
  have hwz : w.heap.size < (w.alloc (.cells #[nil3, nil3, nil3] 28)).heap.size := by simp
  clear hg1 hr1 hb1 ta2 hr2 hg2
  generalize (w.alloc (.cells #[nil3, nil3, nil3] 28)) = W at *
  obtain ⟨hfz, c0, c1, c2⟩ := row3_facts dv.box
  obtain ⟨l1, l2, l3⟩ := dv.lo
  go_wp2
  go_region_held3 (fun w' => w'.cell? ⟨B, 0, none⟩ = some (.slice xm d.zs.length ym) ∧ w'.cell? ⟨B, 1, none⟩ = some (.slice xb C yb) ∧ w'.cell? ⟨B, 2, none⟩ = some (.slice xr C yr)) (first | exact ⟨c0, c1, c2⟩ | exact ⟨e0, e1, e2⟩ | exact ⟨f0, f1, f2⟩ | exact ⟨g0, g1, g2⟩) (first | (go_at_call 47; refine (off_any g 0 1 _ dv.drew.rd (by decide) (by decide) (by decide)).mono ?_; rintro e V3 ⟨x, rfl, hr3, hg3⟩; have d3 := dv.drew.read hr3 hg3; clear hr3 hg3 dv; obtain ⟨_, e0, e1, e2⟩ := row3_facts d3.box) | (go_at_call 47; refine (off_any g 0 2 _ d3.rd (by decide) (by decide) (by decide)).mono ?_; rintro e V4 ⟨y, rfl, hr4, hg4⟩; have d4 := d3.read hr4 hg4; clear hr4 hg4 d3; obtain ⟨_, f0, f1, f2⟩ := row3_facts d4.box; obtain ⟨hrz, r0, r1, r2⟩ := row3_facts (heap_b hres d4.bel); have g0 := put3_other (p := w.heap.size) (x := .slice xm d.zs.length ym) (y := .slice xb C yb) (z := .slice xr C yr) f0 (by omega); have g1 := put3_other (p := w.heap.size) (x := .slice xm d.zs.length ym) (y := .slice xb C yb) (z := .slice xr C yr) f1 (by omega); have g2 := put3_other (p := w.heap.size) (x := .slice xm d.zs.length ym) (y := .slice xb C yb) (z := .slice xr C yr) f2 (by omega)))
  have HF := hide (d4.fin hwW (Nat.le_refl _) hwz)
  clear d4
  go_wp2
  refine bodyPost_ret (v := .tuple #[.agg #[.slice xm d.zs.length ym, .slice xb C yb, .slice xr C yr], .int .i64 x, .int .i64 y]) (by simp [results, Try.results14, go_sem, r0, r1, r2]) rfl ⟨_, _, _, _, _, _, _, _, _, _, rfl, HF.out.2.1, hcp, hsm, HF.out.2.2⟩

set_option maxHeartbeats 4000000 in
set_option maxRecDepth 20000 in
theorem drawDrained_any (ad : Option Addr) (n cap : Nat) (w : World) (hb : Bt w ad n) (hn : n ≤ 1048576) :
    Calls Try.prog 24 #[.slice ad n cap] w fun e w' => ∃ m b r d C vb vr tag, e = .returned (.agg #[m, b, r]) ∧ TaD w' w.heap.size m b r d C vb vr tag ∧ Cpd vb C ∧ Sml d C ∧ Below w.heap.size w w' := by
  have hb' := hb.below ((Below.refl _ w).alloc (Nat.le_refl _) (.cells #[nil3, nil3, nil3] 28))
  clear hb
  go_enter Try.func24, Try.ntmps24
  go_wp2_with fail
  refine (open_any ad n cap _ hb' hn).mono ?_
  rintro e w1 ⟨g, rfl, hg1, hr1, hb1⟩
  clear hb'
  go_wp2_with fail
  refine (tso_any g 14 _ hr1 (by decide) (by decide)).mono ?_
  rintro e w2 ⟨m, b, r, d, C, vb, vr, tag, rfl, ta2, hcp, hsm, hr2, hg2⟩
  obtain ⟨xm, ym, xb, yb, xr, yr, rfl, rfl, rfl⟩ := Ta.three (n := d.zs.length) ta2 rfl
  have hres : (w.alloc (.cells #[nil3, nil3, nil3] 28)).heap[w.heap.size]? = some (.cells #[nil3, nil3, nil3] 28 (0, 0)) := heap_alloc_new _ _
  have hwW : Below w.heap.size w (w.alloc (.cells #[nil3, nil3, nil3] 28)) := (Below.refl _ w).alloc (Nat.le_refl _) _
  have hwz : w.heap.size < (w.alloc (.cells #[nil3, nil3, nil3] 28)).heap.size := by simp
  have HF := hide (Dv.start hg1 hr1 hb1 ta2 hr2 hg2)
  have hB2 := hwW.trans ((below_read hb1 hg2 hg1 hb1.size).mono hwW.size)
  have hrow := heap_b hres (below_read hb1 hg2 hg1 hb1.size)
  have hro : ∀ g, some w.heap.size = some g → g < w1.heap.size := fun g e => by have := hb1.size; simp only [Option.some.injEq] at e; omega
  have HT := hide (And.intro ((Ta.grown (Ta.grown (Ta.grown ta2 (grown_set w2 w.heap.size 0 (.slice xm d.zs.length ym)) hro) (grown_set _ w.heap.size 1 (.slice xb C yb)) hro) (grown_set _ w.heap.size 2 (.slice xr C yr)) hro).mono (Nat.le_trans (Nat.le_of_lt hwz) hb1.size)) (((hB2.setCell (p := ⟨w.heap.size, 0, none⟩) (Nat.le_refl _) (.slice xm d.zs.length ym)).setCell (p := ⟨w.heap.size, 1, none⟩) (Nat.le_refl _) (.slice xb C yb)).setCell (p := ⟨w.heap.size, 2, none⟩) (Nat.le_refl _) (.slice xr C yr)))
  obtain ⟨hrz, r0, r1, r2⟩ := row3_facts hrow
  clear hg1 hr1 hb1 ta2 hr2 hg2 hres hwW hwz hB2 hro hrow HF
  go_wp2
  refine bodyPost_ret (v := .agg #[.slice xm d.zs.length ym, .slice xb C yb, .slice xr C yr]) (by simp [results, Try.results24, go_sem, r0, r1, r2]) rfl ⟨_, _, _, _, _, _, _, _, rfl, HT.out.1, hcp, hsm, HT.out.2⟩

theorem row5z {V : World} {p q : Nat} {x y z : Value} {T : TypeId} (h : V.heap[q]? = some (.cells #[.int .i64 0, .int .i64 0, .int .i64 0, .int .i64 0, .int .i64 0] T (0, 0))) (hne : p ≠ q) : (∀ i, (((V.setCell ⟨p, 0, none⟩ x).setCell ⟨p, 1, none⟩ y).setCell ⟨p, 2, none⟩ z).frozen? ⟨q, i, none⟩ = false) ∧ ((((V.setCell ⟨p, 0, none⟩ x).setCell ⟨p, 1, none⟩ y).setCell ⟨p, 2, none⟩ z).cell? ⟨q, 0, none⟩ = some (.int .i64 0) ∧ (((V.setCell ⟨p, 0, none⟩ x).setCell ⟨p, 1, none⟩ y).setCell ⟨p, 2, none⟩ z).cell? ⟨q, 1, none⟩ = some (.int .i64 0) ∧ (((V.setCell ⟨p, 0, none⟩ x).setCell ⟨p, 1, none⟩ y).setCell ⟨p, 2, none⟩ z).cell? ⟨q, 2, none⟩ = some (.int .i64 0) ∧ (((V.setCell ⟨p, 0, none⟩ x).setCell ⟨p, 1, none⟩ y).setCell ⟨p, 2, none⟩ z).cell? ⟨q, 3, none⟩ = some (.int .i64 0) ∧ (((V.setCell ⟨p, 0, none⟩ x).setCell ⟨p, 1, none⟩ y).setCell ⟨p, 2, none⟩ z).cell? ⟨q, 4, none⟩ = some (.int .i64 0)) := by
  have h' : (((V.setCell ⟨p, 0, none⟩ x).setCell ⟨p, 1, none⟩ y).setCell ⟨p, 2, none⟩ z).heap[q]? = some (.cells #[.int .i64 0, .int .i64 0, .int .i64 0, .int .i64 0, .int .i64 0] T (0, 0)) := by
    rw [heap_setCell_other _ _ _ _ (fun e => hne e.symm), heap_setCell_other _ _ _ _ (fun e => hne e.symm), heap_setCell_other _ _ _ _ (fun e => hne e.symm)]; exact h
  exact ⟨fun i => frozen_of_row _ _ i _ _ h', (cell_of_row _ _ 0 _ _ _ h').trans rfl, (cell_of_row _ _ 1 _ _ _ h').trans rfl, (cell_of_row _ _ 2 _ _ _ h').trans rfl, (cell_of_row _ _ 3 _ _ _ h').trans rfl, (cell_of_row _ _ 4 _ _ _ h').trans rfl⟩
theorem put5_other {V : World} {p B i : Nat} {q0 q1 q2 q3 q4 : Int} {v : Value} (h : V.cell? ⟨B, i, none⟩ = some v) (hne : p ≠ B) : (((((V.setCell ⟨p, 0, none⟩ (.int .i64 q0)).setCell ⟨p, 1, none⟩ (.int .i64 q1)).setCell ⟨p, 2, none⟩ (.int .i64 q2)).setCell ⟨p, 3, none⟩ (.int .i64 q3)).setCell ⟨p, 4, none⟩ (.int .i64 q4)).cell? ⟨B, i, none⟩ = some v := by
  rw [other_set hne, other_set hne, other_set hne, other_set hne, other_set hne]; exact h
theorem fin5 {W w : World} {p : Nat} {m b r : Value} {d : Td} {C : Nat} {vb vr : Nat → Value} {tag : Nat → Nat} {x y z u v : Int} (h : TaD W w.heap.size m b r d C vb vr tag) (hB : Below w.heap.size w W) (hp : w.heap.size < p) (hW : ∃ base, w.heap.size ≤ base ∧ p < base ∧ TaD W base m b r d C vb vr tag) :
    TaD (((((W.setCell ⟨p, 0, none⟩ (.int .i64 x)).setCell ⟨p, 1, none⟩ (.int .i64 y)).setCell ⟨p, 2, none⟩ (.int .i64 z)).setCell ⟨p, 3, none⟩ (.int .i64 u)).setCell ⟨p, 4, none⟩ (.int .i64 v)) w.heap.size m b r d C vb vr tag ∧
      Below w.heap.size w (((((W.setCell ⟨p, 0, none⟩ (.int .i64 x)).setCell ⟨p, 1, none⟩ (.int .i64 y)).setCell ⟨p, 2, none⟩ (.int .i64 z)).setCell ⟨p, 3, none⟩ (.int .i64 u)).setCell ⟨p, 4, none⟩ (.int .i64 v)) := by
  obtain ⟨base, hb1, hb2, ta⟩ := hW
  have hp' := Nat.le_of_lt hp
  exact ⟨(tad_set (tad_set (tad_set (tad_set (tad_set ta hb2) hb2) hb2) hb2) hb2).mono hb1, (((((hB.setCell (p := ⟨p, 0, none⟩) hp' _).setCell (p := ⟨p, 1, none⟩) hp' _).setCell (p := ⟨p, 2, none⟩) hp' _).setCell (p := ⟨p, 3, none⟩) hp' _).setCell (p := ⟨p, 4, none⟩) hp' _)⟩

set_option maxHeartbeats 4000000 in
set_option maxRecDepth 20000 in
theorem drawTsoDo_any (ad : Option Addr) (n cap : Nat) (w : World) (hb : Bt w ad n) (hn : n ≤ 1048576) :
    Calls Try.prog 17 #[.slice ad n cap] w fun e w' => ∃ m b r d C vb vr tag, ∃ x y z u v : Int, e = .returned (.tuple #[.agg #[m, b, r], .agg (five x y z u v)]) ∧ TaD w' w.heap.size m b r d C vb vr tag ∧ Cpd vb C ∧ Sml d C ∧ Below w.heap.size w w' := by
  have hb' := hb.below (((Below.refl _ w).alloc (Nat.le_refl _) (.cells #[nil3, nil3, nil3] 28)).alloc (by simp) (.cells #[.int .i64 0, .int .i64 0, .int .i64 0, .int .i64 0, .int .i64 0] 37))
  clear hb
  go_enter Try.func17, Try.ntmps17
  go_wp2_with fail
  refine (open_any ad n cap _ hb' hn).mono ?_
  rintro e w1 ⟨g, rfl, hg1, hr1, hb1⟩
  clear hb'
  go_wp2_with fail
  refine (tso_any g 12 _ hr1 (by decide) (by decide)).mono ?_
  rintro e w2 ⟨m, b, r, d, C, vb, vr, tag, rfl, ta2, hcp, hsm, hr2, hg2⟩
  obtain ⟨xm, ym, xb, yb, xr, yr, rfl, rfl, rfl⟩ := Ta.three (n := d.zs.length) ta2 rfl
  have dv := Dv.start hg1 hr1 hb1 ta2 hr2 hg2
  obtain ⟨B, hB⟩ : ∃ B, w2.heap.size = B := ⟨_, rfl⟩
  rw [hB] at dv
  have hres : ((w.alloc (.cells #[nil3, nil3, nil3] 28)).alloc (.cells #[.int .i64 0, .int .i64 0, .int .i64 0, .int .i64 0, .int .i64 0] 37)).heap[w.heap.size]? = some (.cells #[nil3, nil3, nil3] 28 (0, 0)) := by rw [Below.heap_alloc _ _ _ (by simp)]; exact heap_alloc_new _ _
  have hrea : ((w.alloc (.cells #[nil3, nil3, nil3] 28)).alloc (.cells #[.int .i64 0, .int .i64 0, .int .i64 0, .int .i64 0, .int .i64 0] 37)).heap[w.heap.size + 1]? = some (.cells #[.int .i64 0, .int .i64 0, .int .i64 0, .int .i64 0, .int .i64 0] 37 (0, 0)) := by
    have := heap_alloc_new (w.alloc (.cells #[nil3, nil3, nil3] 28)) (.cells #[.int .i64 0, .int .i64 0, .int .i64 0, .int .i64 0, .int .i64 0] 37)
    simpa using this
  have hwW : Below w.heap.size w ((w.alloc (.cells #[nil3, nil3, nil3] 28)).alloc (.cells #[.int .i64 0, .int .i64 0, .int .i64 0, .int .i64 0, .int .i64 0] 37)) := ((Below.refl _ w).alloc (Nat.le_refl _) (.cells #[nil3, nil3, nil3] 28)).alloc (by simp) (.cells #[.int .i64 0, .int .i64 0, .int .i64 0, .int .i64 0, .int .i64 0] 37)
  have hwz : w.heap.size + 1 < ((w.alloc (.cells #[nil3, nil3, nil3] 28)).alloc (.cells #[.int .i64 0, .int .i64 0, .int .i64 0, .int .i64 0, .int .i64 0] 37)).heap.size := by simp
  clear hg1 hr1 hb1 ta2 hr2 hg2
  generalize ((w.alloc (.cells #[nil3, nil3, nil3] 28)).alloc (.cells #[.int .i64 0, .int .i64 0, .int .i64 0, .int .i64 0, .int .i64 0] 37)) = W at *
  obtain ⟨hfz, c0, c1, c2⟩ := row3_facts dv.box
  obtain ⟨l1, l2, l3⟩ := dv.lo
  go_wp2
  refine wp_region_held_drew (S := fun _ => True) (by kernel_rfl) trivial (fun hHeld => ?_)
  have D1 := dv.drew
  clear dv c0 c1 c2
  refine wpAnyH_take (i := 1) (v := .pointer (some ⟨g, 0, none⟩)) rfl (by kernel_rfl) (by kernel_rfl) (by kernel_rfl) (fun _ _ _ h => h) (Or.inl ⟨by rfl, fun w' hSw => ?_⟩) (by assumption) ?_
  · (try dsimp only at hSw); skip; go_simp
  try simp only [Act.put, List.getElem_toArray, List.getElem_cons_zero, List.getElem_cons_succ, List.setIfInBounds_toArray, List.set_cons_zero, List.set_cons_succ]
  refine wpAnyH_ready (rs := [0, 2]) (by kernel_rfl) (by simp) ?_
  refine AllReadyH.cons rfl (fun K hK => ?_) (AllReadyH.cons rfl (fun K hK => ?_) AllReadyH.nil)
  · obtain ⟨_, z0, z1, z2⟩ := row3_facts D1.box
    go_simp
    refine hK.out _ _ trivial (fun hHeld => ?_)
    clear hK K z0 z1 z2
    try simp only [Act.put, List.getElem_toArray, List.getElem_cons_zero, List.getElem_cons_succ, List.setIfInBounds_toArray, List.set_cons_zero, List.set_cons_succ]
    refine wpAnyH_ready (rs := [2]) (by kernel_rfl) (by simp) ?_
    refine AllReadyH.cons rfl (fun K hK => ?_) AllReadyH.nil
    go_simp
    refine (bact_any g _ D1.rd).mono ?_
    rintro e V3 ⟨x, y, z, u, v, rfl, hr3, hg3⟩
    have d3 := D1.read hr3 hg3
    clear hr3 hg3 D1
    refine hK.out _ _ trivial (fun hHeld => ?_)
    clear hK K
    try simp only [Act.put, List.getElem_toArray, List.getElem_cons_zero, List.getElem_cons_succ, List.setIfInBounds_toArray, List.set_cons_zero, List.set_cons_succ]
    obtain ⟨hrz, r0, r1, r2⟩ := row3_facts (heap_b hres d3.bel)
    refine wpAnyH_ready (rs := [3]) (by kernel_rfl) (by simp) ?_
    refine AllReadyH.cons rfl (fun K hK => ?_) AllReadyH.nil
    go_simp
    refine hK.out _ _ trivial (fun hHeld => ?_)
    clear hK K
    try simp only [Act.put, List.getElem_toArray, List.getElem_cons_zero, List.getElem_cons_succ, List.setIfInBounds_toArray, List.set_cons_zero, List.set_cons_succ]
    obtain ⟨haz, a0, a1, a2, a3, a4⟩ := row5z (p := w.heap.size) (x := .slice xm d.zs.length ym) (y := .slice xb C yb) (z := .slice xr C yr) (heap_b hrea d3.bel) (by omega)
    refine wpAnyH_ready (rs := [4]) (by kernel_rfl) (by simp) ?_
    refine AllReadyH.cons rfl (fun K hK => ?_) AllReadyH.nil
    go_simp
    refine hK.out _ _ trivial (fun hHeld => ?_)
    clear hK K hHeld
    try simp only [Act.put, List.getElem_toArray, List.getElem_cons_zero, List.getElem_cons_succ, List.setIfInBounds_toArray, List.set_cons_zero, List.set_cons_succ]
    refine wpAnyH_done (by kernel_rfl) ?_ _
    have HF := hide (d3.fin hwW (Nat.le_refl _) (Nat.lt_of_succ_lt hwz))
    have HG := hide (fin5 (x := x) (y := y) (z := z) (u := u) (v := v) (p := w.heap.size + 1) HF.out.2.1 HF.out.2.2 (by omega) ⟨_, HF.out.1.1, by omega, HF.out.1.2⟩)
    clear HF d3
    go_wp2
    refine bodyPost_ret (v := .tuple #[.agg #[.slice xm d.zs.length ym, .slice xb C yb, .slice xr C yr], .agg (five x y z u v)]) (by simp [results, Try.results17, go_sem, r0, r1, r2, a0, a1, a2, a3, a4]) rfl ⟨_, _, _, _, _, _, _, _, _, _, _, _, _, rfl, HG.out.1, hcp, hsm, HG.out.2⟩
  · go_simp
    refine (bact_any g _ D1.rd).mono ?_
    rintro e V3 ⟨x, y, z, u, v, rfl, hr3, hg3⟩
    have d3 := D1.read hr3 hg3
    clear hr3 hg3 D1
    refine hK.out _ _ trivial (fun hHeld => ?_)
    clear hK K
    try simp only [Act.put, List.getElem_toArray, List.getElem_cons_zero, List.getElem_cons_succ, List.setIfInBounds_toArray, List.set_cons_zero, List.set_cons_succ]
    refine wpAnyH_ready (rs := [0]) (by kernel_rfl) (by simp) ?_
    refine AllReadyH.cons rfl (fun K hK => ?_) AllReadyH.nil
    obtain ⟨_, z0, z1, z2⟩ := row3_facts d3.box
    go_simp
    refine hK.out _ _ trivial (fun hHeld => ?_)
    clear hK K z0 z1 z2
    try simp only [Act.put, List.getElem_toArray, List.getElem_cons_zero, List.getElem_cons_succ, List.setIfInBounds_toArray, List.set_cons_zero, List.set_cons_succ]
    obtain ⟨hrz, r0, r1, r2⟩ := row3_facts (heap_b hres d3.bel)
    refine wpAnyH_ready (rs := [3]) (by kernel_rfl) (by simp) ?_
    refine AllReadyH.cons rfl (fun K hK => ?_) AllReadyH.nil
    go_simp
    refine hK.out _ _ trivial (fun hHeld => ?_)
    clear hK K
    try simp only [Act.put, List.getElem_toArray, List.getElem_cons_zero, List.getElem_cons_succ, List.setIfInBounds_toArray, List.set_cons_zero, List.set_cons_succ]
    obtain ⟨haz, a0, a1, a2, a3, a4⟩ := row5z (p := w.heap.size) (x := .slice xm d.zs.length ym) (y := .slice xb C yb) (z := .slice xr C yr) (heap_b hrea d3.bel) (by omega)
    refine wpAnyH_ready (rs := [4]) (by kernel_rfl) (by simp) ?_
    refine AllReadyH.cons rfl (fun K hK => ?_) AllReadyH.nil
    go_simp
    refine hK.out _ _ trivial (fun hHeld => ?_)
    clear hK K hHeld
    try simp only [Act.put, List.getElem_toArray, List.getElem_cons_zero, List.getElem_cons_succ, List.setIfInBounds_toArray, List.set_cons_zero, List.set_cons_succ]
    refine wpAnyH_done (by kernel_rfl) ?_ _
    have HF := hide (d3.fin hwW (Nat.le_refl _) (Nat.lt_of_succ_lt hwz))
    have HG := hide (fin5 (x := x) (y := y) (z := z) (u := u) (v := v) (p := w.heap.size + 1) HF.out.2.1 HF.out.2.2 (by omega) ⟨_, HF.out.1.1, by omega, HF.out.1.2⟩)
    clear HF d3
    go_wp2
    refine bodyPost_ret (v := .tuple #[.agg #[.slice xm d.zs.length ym, .slice xb C yb, .slice xr C yr], .agg (five x y z u v)]) (by simp [results, Try.results17, go_sem, r0, r1, r2, a0, a1, a2, a3, a4]) rfl ⟨_, _, _, _, _, _, _, _, _, _, _, _, _, rfl, HG.out.1, hcp, hsm, HG.out.2⟩

end Go.Proofs.Ytneofegnbflfiaa
