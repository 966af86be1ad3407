/- the reader's act (written by mkDtB.py) -/
import Derived.Test.YtokekgfompbdiaaDoorRgS
import Derived.Deep.Heap
namespace Go.Proofs.YtokekgfompbdiaaDoor
open Go.RowKit
set_option linter.unusedVariables false
set_option linter.unusedSimpArgs false

theorem gr_young {w wr w2 : World} {g : Nat} {row : Option Nat} (h : w.grownBy wr (some g)) (k : wr.grownBy w2 row) (hr : ∀ j, row = some j → w.heap.size ≤ j) : w.grownBy w2 (some g) :=
  ⟨k.os.trans h.os, k.tape.trans h.tape, k.output.trans h.output, Nat.le_trans h.size k.size, fun j hj hne => (k.block j (Nat.lt_of_lt_of_le hj h.size) (fun e => by have := hr j e.symm; omega)).trans (h.block j hj hne)⟩
/-- the world of an act that is drawn: the reader, the result's block, the act's -/
structure BW (w0 w : World) (g S : Nat) (a b c d f : Int) : Prop where
  rd : Rdr w g
  gr : w0.grownBy w (some g)
  res : w.heap[w0.heap.size]? = some (.cells (five 0 0 0 0 0) 42 (0, 0))
  sl : w.heap[S]? = some (.cells (five a b c d f) 42 (0, 0))
  lg : g < w0.heap.size
  lS : w0.heap.size < S
theorem bw_start {w w1 : World} {g : Nat} (h : Rdr w1 g) (hlt : g < w.heap.size) (hg : (w.alloc (.cells (five 0 0 0 0 0) 42)).grownBy w1 (some g)) (c : Int) : BW w (w1.alloc (.cells (five 0 c 0 0 0) 42)) g w1.heap.size 0 c 0 0 0 := by
  have hz := hg.size
  simp only [World.size_alloc] at hz
  refine ⟨h.grown (grown_alloc _ _ none) (fun k hk => by cases hk), grown_trans (grown_trans (grown_alloc _ _ _) hg) (grown_alloc _ _ _), ?_, heap_alloc_new _ _, hlt, by omega⟩
  rw [Below.heap_alloc _ _ _ (by omega), hg.block _ (by simp) (fun e => by simp at e; omega)]
  exact heap_alloc_new _ _
theorem BW.read {w0 w w' : World} {g S : Nat} {a b c d f : Int} (h : BW w0 w g S a b c d f) (hr : Rdr w' g) (hg : w.grownBy w' (some g)) : BW w0 w' g S a b c d f := by
  have hlt : S < w.heap.size := lt_of_block h.sl
  have := h.lg
  have := h.lS
  refine ⟨hr, grown_trans h.gr hg, ?_, ?_, h.lg, h.lS⟩
  · rw [hg.block _ (by omega) (fun e => by simp at e; omega)]; exact h.res
  · rw [hg.block _ hlt (fun e => by simp at e; omega)]; exact h.sl
theorem BW.facts {w0 w : World} {g S : Nat} {a b c d f : Int} (h : BW w0 w g S a b c d f) :
    (∀ i, w.frozen? ⟨S, i, none⟩ = false) ∧ w.cell? ⟨S, 0, none⟩ = some (.int .i64 a) ∧ w.cell? ⟨S, 1, none⟩ = some (.int .i64 b) ∧ w.cell? ⟨S, 2, none⟩ = some (.int .i64 c) ∧ w.cell? ⟨S, 3, none⟩ = some (.int .i64 d) ∧ w.cell? ⟨S, 4, none⟩ = some (.int .i64 f) := by
  refine ⟨fun i => frozen_of_row w S i _ _ h.sl, ?_, ?_, ?_, ?_, ?_⟩
  all_goals rw [cell_of_row w S _ _ _ _ h.sl]; rfl
theorem BW.ends {w0 w : World} {g S : Nat} {a b c d f : Int} (h : BW w0 w g S a b c d f) :
    (∀ i, w.frozen? ⟨w0.heap.size, i, none⟩ = false) ∧ w.cell? ⟨w0.heap.size, 0, none⟩ = some (.int .i64 0) ∧ w.cell? ⟨w0.heap.size, 1, none⟩ = some (.int .i64 0) ∧ w.cell? ⟨w0.heap.size, 2, none⟩ = some (.int .i64 0) ∧ w.cell? ⟨w0.heap.size, 3, none⟩ = some (.int .i64 0) ∧ w.cell? ⟨w0.heap.size, 4, none⟩ = some (.int .i64 0) := by
  refine ⟨fun i => frozen_of_row w _ i _ _ h.res, ?_, ?_, ?_, ?_, ?_⟩
  all_goals rw [cell_of_row w _ _ _ _ _ h.res]; rfl
theorem BW.put {w0 w : World} {g S : Nat} {a b c d f a' b' c' d' f' : Int} (h : BW w0 w g S a b c d f) (i : Nat) (x : Int) (he : (five a b c d f).setIfInBounds i (.int .i64 x) = five a' b' c' d' f') : BW w0 (w.setCell ⟨S, i, none⟩ (.int .i64 x)) g S a' b' c' d' f' := by
  have h1 := h.lg
  have h2 := h.lS
  refine ⟨h.rd.grown (grown_setR w S i _) (fun k hk => by simp only [Option.some.injEq] at hk; omega), gr_young h.gr (grown_setR w S i _) (fun k hk => by simp only [Option.some.injEq] at hk; omega), ?_, ?_, h1, h2⟩
  · rw [heap_setCell_other _ _ _ _ (by show w0.heap.size ≠ S; omega)]; exact h.res
  · rw [← he]; exact heap_setCell_same w S i _ _ _ h.sl
/-- the end: the result's block written -/
theorem BW.fin {w0 w : World} {g S : Nat} {a b c d f : Int} (h : BW w0 w g S a b c d f) (v0 v1 v2 v3 v4 : Value) :
    Rdr (((((w.setCell ⟨w0.heap.size, 0, none⟩ v0).setCell ⟨w0.heap.size, 1, none⟩ v1).setCell ⟨w0.heap.size, 2, none⟩ v2).setCell ⟨w0.heap.size, 3, none⟩ v3).setCell ⟨w0.heap.size, 4, none⟩ v4) g ∧ w0.grownBy (((((w.setCell ⟨w0.heap.size, 0, none⟩ v0).setCell ⟨w0.heap.size, 1, none⟩ v1).setCell ⟨w0.heap.size, 2, none⟩ v2).setCell ⟨w0.heap.size, 3, none⟩ v3).setCell ⟨w0.heap.size, 4, none⟩ v4) (some g) := by
  have h1 := h.lg
  have hg := grown_trans (grown_trans (grown_trans (grown_trans (grown_setR w w0.heap.size 0 v0) (grown_setR _ w0.heap.size 1 v1)) (grown_setR _ w0.heap.size 2 v2)) (grown_setR _ w0.heap.size 3 v3)) (grown_setR _ w0.heap.size 4 v4)
  exact ⟨h.rd.grown hg (fun k hk => by simp only [Option.some.injEq] at hk; omega), gr_young h.gr hg (fun k hk => by simp only [Option.some.injEq] at hk; omega)⟩

set_option maxHeartbeats 8000000 in
set_option maxRecDepth 20000 in
theorem bact_any (g : Nat) (w : World) (h : Rdr w g) : Calls Tryd.prog 57 #[.pointer (some ⟨g, 0, none⟩)] w fun e w' => ∃ a b c d f : Int, e = .returned (.agg (five a b c d f)) ∧ Rdr w' g ∧ w.grownBy w' (some g) := by
  have hgl := h.lt
  go_enter Tryd.func57, Tryd.ntmps57
  go_wp2_with fail
  refine (below_any g 2 _ (h.grown (grown_alloc _ _ none) (fun k hk => by cases hk)) (by decide) (by decide)).mono ?_
  rintro e w1 ⟨co, rfl, _, _, hr, hg⟩
  have sw := bw_start hr hgl hg co
  have hne1 : ¬ w.heap.size = w1.heap.size := by have := sw.lS; omega
  have hne2 : ¬ w1.heap.size = w.heap.size := fun e => hne1 e.symm
  clear hr hg h
  go_wp2_with fail
  refine (below_any g 8 _ sw.rd (by decide) (by decide)).mono ?_
  rintro e w2 ⟨x, rfl, hx0, hx1, hr, hg⟩
  replace sw := sw.read hr hg
  clear hr hg
  rcases (show x = 0 ∨ x = 1 ∨ x = 2 ∨ x = 3 ∨ x = 4 ∨ x = 5 ∨ x = 6 ∨ x = 7 by omega) with hx | hx | hx | hx | hx | hx | hx | hx
  · subst hx
    clear hx0 hx1
    obtain ⟨fz, q0, q1, q2, q3, q4⟩ := sw.facts
    go_wp2_with fail
    replace sw := sw.put 0 1 rfl
    clear fz q0 q1 q2 q3 q4
    refine (below_any g 3 _ sw.rd (by decide) (by decide)).mono ?_
    rintro e w10 ⟨va, rfl, hva0, hva1, hr, hg⟩
    replace sw := sw.read hr hg
    clear hr hg
    obtain ⟨fz, q0, q1, q2, q3, q4⟩ := sw.facts
    go_wp2_with fail
    replace sw := sw.put 2 va rfl
    clear fz q0 q1 q2 q3 q4
    refine (below_any g 3 _ sw.rd (by decide) (by decide)).mono ?_
    rintro e w10 ⟨vl, rfl, hvl0, hvl1, hr, hg⟩
    replace sw := sw.read hr hg
    clear hr hg
    obtain ⟨fz, q0, q1, q2, q3, q4⟩ := sw.facts
    have hw : wrap64 (1 + vl) = 1 + vl := Go.IntWalk.wrap64_in _ (by omega)
    go_wp2_with fail
    replace sw := sw.put 3 (1 + vl) rfl
    clear fz q0 q1 q2 q3 q4
    refine (once_any g 30 _ sw.rd (by decide) (by decide)).mono ?_
    rintro e w7 ⟨t, rfl, hr, hg⟩
    replace sw := sw.read hr hg
    clear hr hg
    obtain ⟨fz, q0, q1, q2, q3, q4⟩ := sw.facts
    cases t with
    | false =>
      obtain ⟨fy, y0, y1, y2, y3, y4⟩ := sw.ends
      have HF := hide (sw.fin (.int .i64 (1)) (.int .i64 (co)) (.int .i64 (va)) (.int .i64 (1 + vl)) (.int .i64 (0)))
      clear sw
      go_wp2
      refine bodyPost_ret (v := .agg (five (1) (co) (va) (1 + vl) (0))) (by simp [results, Tryd.results57, go_sem, y0, y1, y2, y3, y4, hne1, hne2]) rfl ⟨_, _, _, _, _, rfl, ?_, ?_⟩
      · exact HF.out.1
      · exact HF.out.2
    | true =>
      go_wp2_with fail
      clear fz q0 q1 q2 q3 q4
      refine (off_any g 0 2 _ sw.rd (by decide) (by decide) (by decide)).mono ?_
      rintro e w8 ⟨z, rfl, hr, hg⟩
      replace sw := sw.read hr hg
      clear hr hg
      obtain ⟨fz, q0, q1, q2, q3, q4⟩ := sw.facts
      obtain ⟨fy, y0, y1, y2, y3, y4⟩ := sw.ends
      replace sw := sw.put 2 z rfl
      have HF := hide (sw.fin (.int .i64 (1)) (.int .i64 (co)) (.int .i64 (z)) (.int .i64 (1 + vl)) (.int .i64 (0)))
      clear sw
      go_wp2
      refine bodyPost_ret (v := .agg (five (1) (co) (z) (1 + vl) (0))) (by simp [results, Tryd.results57, go_sem, y0, y1, y2, y3, y4, hne1, hne2]) rfl ⟨_, _, _, _, _, rfl, ?_, ?_⟩
      · exact HF.out.1
      · exact HF.out.2
  · subst hx
    clear hx0 hx1
    obtain ⟨fz, q0, q1, q2, q3, q4⟩ := sw.facts
    go_wp2_with fail
    replace sw := sw.put 0 1 rfl
    clear fz q0 q1 q2 q3 q4
    refine (below_any g 3 _ sw.rd (by decide) (by decide)).mono ?_
    rintro e w10 ⟨va, rfl, hva0, hva1, hr, hg⟩
    replace sw := sw.read hr hg
    clear hr hg
    obtain ⟨fz, q0, q1, q2, q3, q4⟩ := sw.facts
    go_wp2_with fail
    replace sw := sw.put 2 va rfl
    clear fz q0 q1 q2 q3 q4
    refine (below_any g 3 _ sw.rd (by decide) (by decide)).mono ?_
    rintro e w10 ⟨vl, rfl, hvl0, hvl1, hr, hg⟩
    replace sw := sw.read hr hg
    clear hr hg
    obtain ⟨fz, q0, q1, q2, q3, q4⟩ := sw.facts
    have hw : wrap64 (1 + vl) = 1 + vl := Go.IntWalk.wrap64_in _ (by omega)
    go_wp2_with fail
    replace sw := sw.put 3 (1 + vl) rfl
    clear fz q0 q1 q2 q3 q4
    refine (once_any g 30 _ sw.rd (by decide) (by decide)).mono ?_
    rintro e w7 ⟨t, rfl, hr, hg⟩
    replace sw := sw.read hr hg
    clear hr hg
    obtain ⟨fz, q0, q1, q2, q3, q4⟩ := sw.facts
    cases t with
    | false =>
      obtain ⟨fy, y0, y1, y2, y3, y4⟩ := sw.ends
      have HF := hide (sw.fin (.int .i64 (1)) (.int .i64 (co)) (.int .i64 (va)) (.int .i64 (1 + vl)) (.int .i64 (0)))
      clear sw
      go_wp2
      refine bodyPost_ret (v := .agg (five (1) (co) (va) (1 + vl) (0))) (by simp [results, Tryd.results57, go_sem, y0, y1, y2, y3, y4, hne1, hne2]) rfl ⟨_, _, _, _, _, rfl, ?_, ?_⟩
      · exact HF.out.1
      · exact HF.out.2
    | true =>
      go_wp2_with fail
      clear fz q0 q1 q2 q3 q4
      refine (off_any g 0 2 _ sw.rd (by decide) (by decide) (by decide)).mono ?_
      rintro e w8 ⟨z, rfl, hr, hg⟩
      replace sw := sw.read hr hg
      clear hr hg
      obtain ⟨fz, q0, q1, q2, q3, q4⟩ := sw.facts
      obtain ⟨fy, y0, y1, y2, y3, y4⟩ := sw.ends
      replace sw := sw.put 2 z rfl
      have HF := hide (sw.fin (.int .i64 (1)) (.int .i64 (co)) (.int .i64 (z)) (.int .i64 (1 + vl)) (.int .i64 (0)))
      clear sw
      go_wp2
      refine bodyPost_ret (v := .agg (five (1) (co) (z) (1 + vl) (0))) (by simp [results, Tryd.results57, go_sem, y0, y1, y2, y3, y4, hne1, hne2]) rfl ⟨_, _, _, _, _, rfl, ?_, ?_⟩
      · exact HF.out.1
      · exact HF.out.2
  · subst hx
    clear hx0 hx1
    obtain ⟨fz, q0, q1, q2, q3, q4⟩ := sw.facts
    go_wp2_with fail
    replace sw := sw.put 0 1 rfl
    clear fz q0 q1 q2 q3 q4
    refine (below_any g 3 _ sw.rd (by decide) (by decide)).mono ?_
    rintro e w10 ⟨va, rfl, hva0, hva1, hr, hg⟩
    replace sw := sw.read hr hg
    clear hr hg
    obtain ⟨fz, q0, q1, q2, q3, q4⟩ := sw.facts
    go_wp2_with fail
    replace sw := sw.put 2 va rfl
    clear fz q0 q1 q2 q3 q4
    refine (below_any g 3 _ sw.rd (by decide) (by decide)).mono ?_
    rintro e w10 ⟨vl, rfl, hvl0, hvl1, hr, hg⟩
    replace sw := sw.read hr hg
    clear hr hg
    obtain ⟨fz, q0, q1, q2, q3, q4⟩ := sw.facts
    have hw : wrap64 (1 + vl) = 1 + vl := Go.IntWalk.wrap64_in _ (by omega)
    go_wp2_with fail
    replace sw := sw.put 3 (1 + vl) rfl
    clear fz q0 q1 q2 q3 q4
    refine (once_any g 30 _ sw.rd (by decide) (by decide)).mono ?_
    rintro e w7 ⟨t, rfl, hr, hg⟩
    replace sw := sw.read hr hg
    clear hr hg
    obtain ⟨fz, q0, q1, q2, q3, q4⟩ := sw.facts
    cases t with
    | false =>
      obtain ⟨fy, y0, y1, y2, y3, y4⟩ := sw.ends
      have HF := hide (sw.fin (.int .i64 (1)) (.int .i64 (co)) (.int .i64 (va)) (.int .i64 (1 + vl)) (.int .i64 (0)))
      clear sw
      go_wp2
      refine bodyPost_ret (v := .agg (five (1) (co) (va) (1 + vl) (0))) (by simp [results, Tryd.results57, go_sem, y0, y1, y2, y3, y4, hne1, hne2]) rfl ⟨_, _, _, _, _, rfl, ?_, ?_⟩
      · exact HF.out.1
      · exact HF.out.2
    | true =>
      go_wp2_with fail
      clear fz q0 q1 q2 q3 q4
      refine (off_any g 0 2 _ sw.rd (by decide) (by decide) (by decide)).mono ?_
      rintro e w8 ⟨z, rfl, hr, hg⟩
      replace sw := sw.read hr hg
      clear hr hg
      obtain ⟨fz, q0, q1, q2, q3, q4⟩ := sw.facts
      obtain ⟨fy, y0, y1, y2, y3, y4⟩ := sw.ends
      replace sw := sw.put 2 z rfl
      have HF := hide (sw.fin (.int .i64 (1)) (.int .i64 (co)) (.int .i64 (z)) (.int .i64 (1 + vl)) (.int .i64 (0)))
      clear sw
      go_wp2
      refine bodyPost_ret (v := .agg (five (1) (co) (z) (1 + vl) (0))) (by simp [results, Tryd.results57, go_sem, y0, y1, y2, y3, y4, hne1, hne2]) rfl ⟨_, _, _, _, _, rfl, ?_, ?_⟩
      · exact HF.out.1
      · exact HF.out.2
  · subst hx
    clear hx0 hx1
    obtain ⟨fz, q0, q1, q2, q3, q4⟩ := sw.facts
    go_wp2_with fail
    replace sw := sw.put 0 2 rfl
    clear fz q0 q1 q2 q3 q4
    refine (below_any g 3 _ sw.rd (by decide) (by decide)).mono ?_
    rintro e w10 ⟨va, rfl, hva0, hva1, hr, hg⟩
    replace sw := sw.read hr hg
    clear hr hg
    obtain ⟨fz, q0, q1, q2, q3, q4⟩ := sw.facts
    go_wp2_with fail
    replace sw := sw.put 2 va rfl
    clear fz q0 q1 q2 q3 q4
    refine (below_any g 2 _ sw.rd (by decide) (by decide)).mono ?_
    rintro e w10 ⟨rg, rfl, hrg0, hrg1, hr, hg⟩
    replace sw := sw.read hr hg
    clear hr hg
    obtain ⟨fz, q0, q1, q2, q3, q4⟩ := sw.facts
    go_wp2_with fail
    replace sw := sw.put 4 rg rfl
    clear fz q0 q1 q2 q3 q4
    refine (once_any g 30 _ sw.rd (by decide) (by decide)).mono ?_
    rintro e w7 ⟨t, rfl, hr, hg⟩
    replace sw := sw.read hr hg
    clear hr hg
    obtain ⟨fz, q0, q1, q2, q3, q4⟩ := sw.facts
    cases t with
    | false =>
      obtain ⟨fy, y0, y1, y2, y3, y4⟩ := sw.ends
      have HF := hide (sw.fin (.int .i64 (2)) (.int .i64 (co)) (.int .i64 (va)) (.int .i64 (0)) (.int .i64 (rg)))
      clear sw
      go_wp2
      refine bodyPost_ret (v := .agg (five (2) (co) (va) (0) (rg))) (by simp [results, Tryd.results57, go_sem, y0, y1, y2, y3, y4, hne1, hne2]) rfl ⟨_, _, _, _, _, rfl, ?_, ?_⟩
      · exact HF.out.1
      · exact HF.out.2
    | true =>
      go_wp2_with fail
      clear fz q0 q1 q2 q3 q4
      refine (off_any g 0 2 _ sw.rd (by decide) (by decide) (by decide)).mono ?_
      rintro e w8 ⟨z, rfl, hr, hg⟩
      replace sw := sw.read hr hg
      clear hr hg
      obtain ⟨fz, q0, q1, q2, q3, q4⟩ := sw.facts
      obtain ⟨fy, y0, y1, y2, y3, y4⟩ := sw.ends
      replace sw := sw.put 2 z rfl
      have HF := hide (sw.fin (.int .i64 (2)) (.int .i64 (co)) (.int .i64 (z)) (.int .i64 (0)) (.int .i64 (rg)))
      clear sw
      go_wp2
      refine bodyPost_ret (v := .agg (five (2) (co) (z) (0) (rg))) (by simp [results, Tryd.results57, go_sem, y0, y1, y2, y3, y4, hne1, hne2]) rfl ⟨_, _, _, _, _, rfl, ?_, ?_⟩
      · exact HF.out.1
      · exact HF.out.2
  · subst hx
    clear hx0 hx1
    obtain ⟨fz, q0, q1, q2, q3, q4⟩ := sw.facts
    go_wp2_with fail
    replace sw := sw.put 0 2 rfl
    clear fz q0 q1 q2 q3 q4
    refine (below_any g 3 _ sw.rd (by decide) (by decide)).mono ?_
    rintro e w10 ⟨va, rfl, hva0, hva1, hr, hg⟩
    replace sw := sw.read hr hg
    clear hr hg
    obtain ⟨fz, q0, q1, q2, q3, q4⟩ := sw.facts
    go_wp2_with fail
    replace sw := sw.put 2 va rfl
    clear fz q0 q1 q2 q3 q4
    refine (below_any g 2 _ sw.rd (by decide) (by decide)).mono ?_
    rintro e w10 ⟨rg, rfl, hrg0, hrg1, hr, hg⟩
    replace sw := sw.read hr hg
    clear hr hg
    obtain ⟨fz, q0, q1, q2, q3, q4⟩ := sw.facts
    go_wp2_with fail
    replace sw := sw.put 4 rg rfl
    clear fz q0 q1 q2 q3 q4
    refine (once_any g 30 _ sw.rd (by decide) (by decide)).mono ?_
    rintro e w7 ⟨t, rfl, hr, hg⟩
    replace sw := sw.read hr hg
    clear hr hg
    obtain ⟨fz, q0, q1, q2, q3, q4⟩ := sw.facts
    cases t with
    | false =>
      obtain ⟨fy, y0, y1, y2, y3, y4⟩ := sw.ends
      have HF := hide (sw.fin (.int .i64 (2)) (.int .i64 (co)) (.int .i64 (va)) (.int .i64 (0)) (.int .i64 (rg)))
      clear sw
      go_wp2
      refine bodyPost_ret (v := .agg (five (2) (co) (va) (0) (rg))) (by simp [results, Tryd.results57, go_sem, y0, y1, y2, y3, y4, hne1, hne2]) rfl ⟨_, _, _, _, _, rfl, ?_, ?_⟩
      · exact HF.out.1
      · exact HF.out.2
    | true =>
      go_wp2_with fail
      clear fz q0 q1 q2 q3 q4
      refine (off_any g 0 2 _ sw.rd (by decide) (by decide) (by decide)).mono ?_
      rintro e w8 ⟨z, rfl, hr, hg⟩
      replace sw := sw.read hr hg
      clear hr hg
      obtain ⟨fz, q0, q1, q2, q3, q4⟩ := sw.facts
      obtain ⟨fy, y0, y1, y2, y3, y4⟩ := sw.ends
      replace sw := sw.put 2 z rfl
      have HF := hide (sw.fin (.int .i64 (2)) (.int .i64 (co)) (.int .i64 (z)) (.int .i64 (0)) (.int .i64 (rg)))
      clear sw
      go_wp2
      refine bodyPost_ret (v := .agg (five (2) (co) (z) (0) (rg))) (by simp [results, Tryd.results57, go_sem, y0, y1, y2, y3, y4, hne1, hne2]) rfl ⟨_, _, _, _, _, rfl, ?_, ?_⟩
      · exact HF.out.1
      · exact HF.out.2
  · subst hx
    clear hx0 hx1
    obtain ⟨fz, q0, q1, q2, q3, q4⟩ := sw.facts
    go_wp2_with fail
    replace sw := sw.put 0 3 rfl
    clear fz q0 q1 q2 q3 q4
    refine (once_any g 30 _ sw.rd (by decide) (by decide)).mono ?_
    rintro e w7 ⟨t, rfl, hr, hg⟩
    replace sw := sw.read hr hg
    clear hr hg
    obtain ⟨fz, q0, q1, q2, q3, q4⟩ := sw.facts
    cases t with
    | false =>
      obtain ⟨fy, y0, y1, y2, y3, y4⟩ := sw.ends
      have HF := hide (sw.fin (.int .i64 (3)) (.int .i64 (co)) (.int .i64 (0)) (.int .i64 (0)) (.int .i64 (0)))
      clear sw
      go_wp2
      refine bodyPost_ret (v := .agg (five (3) (co) (0) (0) (0))) (by simp [results, Tryd.results57, go_sem, y0, y1, y2, y3, y4, hne1, hne2]) rfl ⟨_, _, _, _, _, rfl, ?_, ?_⟩
      · exact HF.out.1
      · exact HF.out.2
    | true =>
      go_wp2_with fail
      clear fz q0 q1 q2 q3 q4
      refine (off_any g 0 2 _ sw.rd (by decide) (by decide) (by decide)).mono ?_
      rintro e w8 ⟨z, rfl, hr, hg⟩
      replace sw := sw.read hr hg
      clear hr hg
      obtain ⟨fz, q0, q1, q2, q3, q4⟩ := sw.facts
      obtain ⟨fy, y0, y1, y2, y3, y4⟩ := sw.ends
      replace sw := sw.put 2 z rfl
      have HF := hide (sw.fin (.int .i64 (3)) (.int .i64 (co)) (.int .i64 (z)) (.int .i64 (0)) (.int .i64 (0)))
      clear sw
      go_wp2
      refine bodyPost_ret (v := .agg (five (3) (co) (z) (0) (0))) (by simp [results, Tryd.results57, go_sem, y0, y1, y2, y3, y4, hne1, hne2]) rfl ⟨_, _, _, _, _, rfl, ?_, ?_⟩
      · exact HF.out.1
      · exact HF.out.2
  · subst hx
    clear hx0 hx1
    obtain ⟨fz, q0, q1, q2, q3, q4⟩ := sw.facts
    go_wp2_with fail
    replace sw := sw.put 0 4 rfl
    clear fz q0 q1 q2 q3 q4
    refine (once_any g 30 _ sw.rd (by decide) (by decide)).mono ?_
    rintro e w7 ⟨t, rfl, hr, hg⟩
    replace sw := sw.read hr hg
    clear hr hg
    obtain ⟨fz, q0, q1, q2, q3, q4⟩ := sw.facts
    cases t with
    | false =>
      obtain ⟨fy, y0, y1, y2, y3, y4⟩ := sw.ends
      have HF := hide (sw.fin (.int .i64 (4)) (.int .i64 (co)) (.int .i64 (0)) (.int .i64 (0)) (.int .i64 (0)))
      clear sw
      go_wp2
      refine bodyPost_ret (v := .agg (five (4) (co) (0) (0) (0))) (by simp [results, Tryd.results57, go_sem, y0, y1, y2, y3, y4, hne1, hne2]) rfl ⟨_, _, _, _, _, rfl, ?_, ?_⟩
      · exact HF.out.1
      · exact HF.out.2
    | true =>
      go_wp2_with fail
      clear fz q0 q1 q2 q3 q4
      refine (off_any g 0 2 _ sw.rd (by decide) (by decide) (by decide)).mono ?_
      rintro e w8 ⟨z, rfl, hr, hg⟩
      replace sw := sw.read hr hg
      clear hr hg
      obtain ⟨fz, q0, q1, q2, q3, q4⟩ := sw.facts
      obtain ⟨fy, y0, y1, y2, y3, y4⟩ := sw.ends
      replace sw := sw.put 2 z rfl
      have HF := hide (sw.fin (.int .i64 (4)) (.int .i64 (co)) (.int .i64 (z)) (.int .i64 (0)) (.int .i64 (0)))
      clear sw
      go_wp2
      refine bodyPost_ret (v := .agg (five (4) (co) (z) (0) (0))) (by simp [results, Tryd.results57, go_sem, y0, y1, y2, y3, y4, hne1, hne2]) rfl ⟨_, _, _, _, _, rfl, ?_, ?_⟩
      · exact HF.out.1
      · exact HF.out.2
  · subst hx
    clear hx0 hx1
    obtain ⟨fz, q0, q1, q2, q3, q4⟩ := sw.facts
    go_wp2_with fail
    replace sw := sw.put 0 4 rfl
    clear fz q0 q1 q2 q3 q4
    refine (once_any g 30 _ sw.rd (by decide) (by decide)).mono ?_
    rintro e w7 ⟨t, rfl, hr, hg⟩
    replace sw := sw.read hr hg
    clear hr hg
    obtain ⟨fz, q0, q1, q2, q3, q4⟩ := sw.facts
    cases t with
    | false =>
      obtain ⟨fy, y0, y1, y2, y3, y4⟩ := sw.ends
      have HF := hide (sw.fin (.int .i64 (4)) (.int .i64 (co)) (.int .i64 (0)) (.int .i64 (0)) (.int .i64 (0)))
      clear sw
      go_wp2
      refine bodyPost_ret (v := .agg (five (4) (co) (0) (0) (0))) (by simp [results, Tryd.results57, go_sem, y0, y1, y2, y3, y4, hne1, hne2]) rfl ⟨_, _, _, _, _, rfl, ?_, ?_⟩
      · exact HF.out.1
      · exact HF.out.2
    | true =>
      go_wp2_with fail
      clear fz q0 q1 q2 q3 q4
      refine (off_any g 0 2 _ sw.rd (by decide) (by decide) (by decide)).mono ?_
      rintro e w8 ⟨z, rfl, hr, hg⟩
      replace sw := sw.read hr hg
      clear hr hg
      obtain ⟨fz, q0, q1, q2, q3, q4⟩ := sw.facts
      obtain ⟨fy, y0, y1, y2, y3, y4⟩ := sw.ends
      replace sw := sw.put 2 z rfl
      have HF := hide (sw.fin (.int .i64 (4)) (.int .i64 (co)) (.int .i64 (z)) (.int .i64 (0)) (.int .i64 (0)))
      clear sw
      go_wp2
      refine bodyPost_ret (v := .agg (five (4) (co) (z) (0) (0))) (by simp [results, Tryd.results57, go_sem, y0, y1, y2, y3, y4, hne1, hne2]) rfl ⟨_, _, _, _, _, rfl, ?_, ?_⟩
      · exact HF.out.1
      · exact HF.out.2

end Go.Proofs.YtokekgfompbdiaaDoor
