/- the reader's slot() (written by mkRdS.py) -/
import Derived.Test.YtjhaloeahidplaaDoorRdE
import Derived.Deep.Heap
namespace Go.Proofs.YtjhaloeahidplaaDoor
open Go.RowKit
set_option linter.unusedVariables false
set_option linter.unusedSimpArgs false

abbrev four (a b c d : Int) : Array Value := #[.int .i64 a, .int .i64 b, .int .i64 c, .int .i64 d]
/-- the world of a slot that is drawn: the reader, the result's block, the slot's -/
structure SW (w0 w : World) (g S : Nat) (a b c d : Int) : Prop where
  rd : Rdr w g
  gr : w0.grownBy w (some g)
  res : w.heap[w0.heap.size]? = some (.cells (four 0 0 0 0) 33 (0, 0))
  sl : w.heap[S]? = some (.cells (four a b c d) 33 (0, 0))
  lg : g < w0.heap.size
  lS : w0.heap.size < S

theorem gr_young {w wr w2 : World} {g : Nat} {row : Option Nat} (h : w.grownBy wr (some g)) (k : wr.grownBy w2 row) (hr : ∀ j, row = some j → w.heap.size ≤ j) : w.grownBy w2 (some g) :=
  ⟨k.os.trans h.os, k.tape.trans h.tape, k.output.trans h.output, Nat.le_trans h.size k.size, fun j hj hne => (k.block j (Nat.lt_of_lt_of_le hj h.size) (fun e => by have := hr j e.symm; omega)).trans (h.block j hj hne)⟩

theorem sw_start {w w1 : World} {g : Nat} (h : Rdr w1 g) (hlt : g < w.heap.size) (hg : (w.alloc (.cells (four 0 0 0 0) 33)).grownBy w1 (some g)) (c : Int) : SW w (w1.alloc (.cells (four c 0 0 0) 33)) g w1.heap.size c 0 0 0 := by
  have hz := hg.size
  simp only [World.size_alloc] at hz
  refine ⟨h.grown (grown_alloc _ _ none) (fun k hk => by cases hk), grown_trans (grown_trans (grown_alloc _ _ _) hg) (grown_alloc _ _ _), ?_, heap_alloc_new _ _, hlt, by omega⟩
  rw [Below.heap_alloc _ _ _ (by omega), hg.block _ (by simp) (fun e => by simp at e; omega)]
  exact heap_alloc_new _ _

theorem SW.read {w0 w w' : World} {g S : Nat} {a b c d : Int} (h : SW w0 w g S a b c d) (hr : Rdr w' g) (hg : w.grownBy w' (some g)) : SW w0 w' g S a b c d := by
  have hlt : S < w.heap.size := lt_of_block h.sl
  have := h.lg
  have := h.lS
  refine ⟨hr, grown_trans h.gr hg, ?_, ?_, h.lg, h.lS⟩
  · rw [hg.block _ (by omega) (fun e => by simp at e; omega)]; exact h.res
  · rw [hg.block _ hlt (fun e => by simp at e; omega)]; exact h.sl

theorem SW.facts {w0 w : World} {g S : Nat} {a b c d : Int} (h : SW w0 w g S a b c d) :
    (∀ i, w.frozen? ⟨S, i, none⟩ = false) ∧ w.cell? ⟨S, 0, none⟩ = some (.int .i64 a) ∧ w.cell? ⟨S, 1, none⟩ = some (.int .i64 b) ∧ w.cell? ⟨S, 2, none⟩ = some (.int .i64 c) ∧ w.cell? ⟨S, 3, none⟩ = some (.int .i64 d) := by
  refine ⟨fun i => frozen_of_row w S i _ _ h.sl, ?_, ?_, ?_, ?_⟩
  all_goals rw [cell_of_row w S _ _ _ _ h.sl]; rfl

theorem SW.ends {w0 w : World} {g S : Nat} {a b c d : Int} (h : SW w0 w g S a b c d) :
    (∀ i, w.frozen? ⟨w0.heap.size, i, none⟩ = false) ∧ w.cell? ⟨w0.heap.size, 0, none⟩ = some (.int .i64 0) ∧ w.cell? ⟨w0.heap.size, 1, none⟩ = some (.int .i64 0) ∧ w.cell? ⟨w0.heap.size, 2, none⟩ = some (.int .i64 0) ∧ w.cell? ⟨w0.heap.size, 3, none⟩ = some (.int .i64 0) := by
  refine ⟨fun i => frozen_of_row w _ i _ _ h.res, ?_, ?_, ?_, ?_⟩
  all_goals rw [cell_of_row w _ _ _ _ _ h.res]; rfl

theorem gr_set (w : World) (S i : Nat) (v : Value) : w.grownBy (w.setCell ⟨S, i, none⟩ v) (some S) :=
  ⟨rfl, rfl, rfl, by simp, fun k _ hk => Go.Deep.blk_setCell_other _ _ _ _ (fun e => hk (by simp [e]))⟩

theorem SW.put {w0 w : World} {g S : Nat} {a b c d a' b' c' d' : Int} (h : SW w0 w g S a b c d) (i : Nat) (x : Int) (he : (four a b c d).setIfInBounds i (.int .i64 x) = four a' b' c' d') : SW w0 (w.setCell ⟨S, i, none⟩ (.int .i64 x)) g S a' b' c' d' := by
  have h1 := h.lg
  have h2 := h.lS
  refine ⟨h.rd.grown (gr_set w S i _) (fun k hk => by simp only [Option.some.injEq] at hk; omega), gr_young h.gr (gr_set w S i _) (fun k hk => by simp only [Option.some.injEq] at hk; omega), ?_, ?_, h1, h2⟩
  · rw [Go.Deep.blk_setCell_other _ _ _ _ (by show w0.heap.size ≠ S; omega)]; exact h.res
  · rw [← he]; exact heap_setCell_same w S i _ _ _ h.sl

/-- the end: the result's block written -/
theorem SW.fin {w0 w : World} {g S : Nat} {a b c d : Int} (h : SW w0 w g S a b c d) (v0 v1 v2 v3 : Value) :
    Rdr ((((w.setCell ⟨w0.heap.size, 0, none⟩ v0).setCell ⟨w0.heap.size, 1, none⟩ v1).setCell ⟨w0.heap.size, 2, none⟩ v2).setCell ⟨w0.heap.size, 3, none⟩ v3) g ∧ w0.grownBy ((((w.setCell ⟨w0.heap.size, 0, none⟩ v0).setCell ⟨w0.heap.size, 1, none⟩ v1).setCell ⟨w0.heap.size, 2, none⟩ v2).setCell ⟨w0.heap.size, 3, none⟩ v3) (some g) := by
  have h1 := h.lg
  have k := grown_trans (grown_trans (grown_trans (gr_set w w0.heap.size 0 v0) (gr_set _ w0.heap.size 1 v1)) (gr_set _ w0.heap.size 2 v2)) (gr_set _ w0.heap.size 3 v3)
  exact ⟨h.rd.grown k (fun k hk => by simp only [Option.some.injEq] at hk; omega), gr_young h.gr k (fun k hk => by simp only [Option.some.injEq] at hk; omega)⟩

set_option maxHeartbeats 4000000 in
theorem slot_any (g : Nat) (w : World) (h : Rdr w g) : Calls Tryd.prog 84 #[.pointer (some ⟨g, 0, none⟩)] w fun e w' => ∃ a b c d : Int, e = .returned (.agg (four a b c d)) ∧ Rdr w' g ∧ w.grownBy w' (some g) := by
  have hgl := h.lt
  go_enter Tryd.func84, Tryd.ntmps84
  go_wp2_with fail
  refine (below_any g 4 _ (h.grown (grown_alloc _ _ none) (fun k hk => by cases hk)) (by decide) (by decide)).mono ?_
  rintro e w1 ⟨st, rfl, _, _, hr, hg⟩
  have sw := sw_start hr hgl hg st
  have hne1 : ¬ w.heap.size = w1.heap.size := by have := sw.lS; omega
  have hne2 : ¬ w1.heap.size = w.heap.size := fun e => hne1 e.symm
  clear hr hg h
  by_cases h0 : st = 0
  · subst h0
    obtain ⟨fz, q0, q1, q2, q3⟩ := sw.facts
    go_wp2_with fail
    clear fz q0 q1 q2 q3
    refine (below_any g 3 _ sw.rd (by decide) (by decide)).mono ?_
    rintro e w2 ⟨wt, rfl, _, _, hr, hg⟩
    replace sw := sw.read hr hg
    clear hr hg
    by_cases h2 : wt = 2
    · subst h2
      obtain ⟨fz, q0, q1, q2, q3⟩ := sw.facts
      go_wp2_with fail
      replace sw := sw.put 2 2 rfl
      clear fz q0 q1 q2 q3
      refine (below_any g 50 _ sw.rd (by decide) (by decide)).mono ?_
      rintro e w3 ⟨v, rfl, _, _, hr, hg⟩
      replace sw := sw.read hr hg
      clear hr hg
      obtain ⟨fz, q0, q1, q2, q3⟩ := sw.facts
      go_wp2_with fail
      replace sw := sw.put 3 v rfl
      clear fz q0 q1 q2 q3
      refine (once_any g 30 _ sw.rd (by decide) (by decide)).mono ?_
      rintro e w4 ⟨t, rfl, hr, hg⟩
      replace sw := sw.read hr hg
      clear hr hg
      cases t with
      | false =>
        obtain ⟨fz, q0, q1, q2, q3⟩ := sw.facts
        obtain ⟨fy, y0, y1, y2, y3⟩ := sw.ends
        have HF := hide (sw.fin (.int .i64 (0)) (.int .i64 (0)) (.int .i64 (2)) (.int .i64 (v)))
        clear sw
        go_wp2
        refine bodyPost_ret (v := .agg (four (0) (0) (2) (v))) (by simp [results, Tryd.results84, go_sem, y0, y1, y2, y3, hne1, hne2]) rfl ⟨_, _, _, _, rfl, ?_, ?_⟩
        · exact HF.out.1
        · exact HF.out.2
      | true =>
        obtain ⟨fz, q0, q1, q2, q3⟩ := sw.facts
        go_wp2_with fail
        clear fz q0 q1 q2 q3
        refine (off_any g 0 2 _ sw.rd (by decide) (by decide) (by decide)).mono ?_
        rintro e w5 ⟨z, rfl, hr, hg⟩
        replace sw := sw.read hr hg
        clear hr hg
        obtain ⟨fz, q0, q1, q2, q3⟩ := sw.facts
        obtain ⟨fy, y0, y1, y2, y3⟩ := sw.ends
        replace sw := sw.put 2 z rfl
        have HF := hide (sw.fin (.int .i64 (0)) (.int .i64 (0)) (.int .i64 (z)) (.int .i64 (v)))
        clear sw
        go_wp2
        refine bodyPost_ret (v := .agg (four (0) (0) (z) (v))) (by simp [results, Tryd.results84, go_sem, y0, y1, y2, y3, hne1, hne2]) rfl ⟨_, _, _, _, rfl, ?_, ?_⟩
        · exact HF.out.1
        · exact HF.out.2
    · have e2 : (wt == 2) = false := by simp [h2]
      obtain ⟨fz, q0, q1, q2, q3⟩ := sw.facts
      go_wp2_with fail
      replace sw := sw.put 2 wt rfl
      clear fz q0 q1 q2 q3
      refine (once_any g 30 _ sw.rd (by decide) (by decide)).mono ?_
      rintro e w6 ⟨t, rfl, hr, hg⟩
      replace sw := sw.read hr hg
      clear hr hg
      cases t with
      | false =>
        obtain ⟨fz, q0, q1, q2, q3⟩ := sw.facts
        obtain ⟨fy, y0, y1, y2, y3⟩ := sw.ends
        have HF := hide (sw.fin (.int .i64 (0)) (.int .i64 (0)) (.int .i64 (wt)) (.int .i64 (0)))
        clear sw
        go_wp2
        refine bodyPost_ret (v := .agg (four (0) (0) (wt) (0))) (by simp [results, Tryd.results84, go_sem, y0, y1, y2, y3, hne1, hne2]) rfl ⟨_, _, _, _, rfl, ?_, ?_⟩
        · exact HF.out.1
        · exact HF.out.2
      | true =>
        obtain ⟨fz, q0, q1, q2, q3⟩ := sw.facts
        go_wp2_with fail
        clear fz q0 q1 q2 q3
        refine (off_any g 0 2 _ sw.rd (by decide) (by decide) (by decide)).mono ?_
        rintro e w7 ⟨z, rfl, hr, hg⟩
        replace sw := sw.read hr hg
        clear hr hg
        obtain ⟨fz, q0, q1, q2, q3⟩ := sw.facts
        obtain ⟨fy, y0, y1, y2, y3⟩ := sw.ends
        replace sw := sw.put 2 z rfl
        have HF := hide (sw.fin (.int .i64 (0)) (.int .i64 (0)) (.int .i64 (z)) (.int .i64 (0)))
        clear sw
        go_wp2
        refine bodyPost_ret (v := .agg (four (0) (0) (z) (0))) (by simp [results, Tryd.results84, go_sem, y0, y1, y2, y3, hne1, hne2]) rfl ⟨_, _, _, _, rfl, ?_, ?_⟩
        · exact HF.out.1
        · exact HF.out.2
  · have e0 : (st != 0) = true := by simp [h0]
    have e0b : (st == 0) = false := by simp [h0]
    obtain ⟨fz, q0, q1, q2, q3⟩ := sw.facts
    go_wp2_with fail
    clear fz q0 q1 q2 q3
    refine (below_any g 50 _ sw.rd (by decide) (by decide)).mono ?_
    rintro e w8 ⟨dt, rfl, _, _, hr, hg⟩
    replace sw := sw.read hr hg
    clear hr hg
    by_cases h1 : st = 1
    · subst h1
      obtain ⟨fz, q0, q1, q2, q3⟩ := sw.facts
      go_wp2_with fail
      replace sw := sw.put 1 dt rfl
      clear fz q0 q1 q2 q3
      refine (once_any g 3 _ sw.rd (by decide) (by decide)).mono ?_
      rintro e w9 ⟨t3, rfl, hr, hg⟩
      replace sw := sw.read hr hg
      clear hr hg
      cases t3 with
      | false =>
        obtain ⟨fz, q0, q1, q2, q3⟩ := sw.facts
        go_wp2_with fail
        clear fz q0 q1 q2 q3
        refine (once_any g 30 _ sw.rd (by decide) (by decide)).mono ?_
        rintro e w10 ⟨t, rfl, hr, hg⟩
        replace sw := sw.read hr hg
        clear hr hg
        cases t with
        | false =>
          obtain ⟨fz, q0, q1, q2, q3⟩ := sw.facts
          obtain ⟨fy, y0, y1, y2, y3⟩ := sw.ends
          have HF := hide (sw.fin (.int .i64 (1)) (.int .i64 (dt)) (.int .i64 (0)) (.int .i64 (0)))
          clear sw
          go_wp2
          refine bodyPost_ret (v := .agg (four (1) (dt) (0) (0))) (by simp [results, Tryd.results84, go_sem, y0, y1, y2, y3, hne1, hne2]) rfl ⟨_, _, _, _, rfl, ?_, ?_⟩
          · exact HF.out.1
          · exact HF.out.2
        | true =>
          obtain ⟨fz, q0, q1, q2, q3⟩ := sw.facts
          go_wp2_with fail
          clear fz q0 q1 q2 q3
          refine (off_any g 0 2 _ sw.rd (by decide) (by decide) (by decide)).mono ?_
          rintro e w11 ⟨z, rfl, hr, hg⟩
          replace sw := sw.read hr hg
          clear hr hg
          obtain ⟨fz, q0, q1, q2, q3⟩ := sw.facts
          obtain ⟨fy, y0, y1, y2, y3⟩ := sw.ends
          replace sw := sw.put 2 z rfl
          have HF := hide (sw.fin (.int .i64 (1)) (.int .i64 (dt)) (.int .i64 (z)) (.int .i64 (0)))
          clear sw
          go_wp2
          refine bodyPost_ret (v := .agg (four (1) (dt) (z) (0))) (by simp [results, Tryd.results84, go_sem, y0, y1, y2, y3, hne1, hne2]) rfl ⟨_, _, _, _, rfl, ?_, ?_⟩
          · exact HF.out.1
          · exact HF.out.2
      | true =>
        obtain ⟨fz, q0, q1, q2, q3⟩ := sw.facts
        go_wp2_with fail
        replace sw := sw.put 2 2 rfl
        clear fz q0 q1 q2 q3
        refine (below_any g 50 _ sw.rd (by decide) (by decide)).mono ?_
        rintro e w12 ⟨v, rfl, _, _, hr, hg⟩
        replace sw := sw.read hr hg
        clear hr hg
        obtain ⟨fz, q0, q1, q2, q3⟩ := sw.facts
        go_wp2_with fail
        replace sw := sw.put 3 v rfl
        clear fz q0 q1 q2 q3
        refine (once_any g 30 _ sw.rd (by decide) (by decide)).mono ?_
        rintro e w13 ⟨t, rfl, hr, hg⟩
        replace sw := sw.read hr hg
        clear hr hg
        cases t with
        | false =>
          obtain ⟨fz, q0, q1, q2, q3⟩ := sw.facts
          obtain ⟨fy, y0, y1, y2, y3⟩ := sw.ends
          have HF := hide (sw.fin (.int .i64 (1)) (.int .i64 (dt)) (.int .i64 (2)) (.int .i64 (v)))
          clear sw
          go_wp2
          refine bodyPost_ret (v := .agg (four (1) (dt) (2) (v))) (by simp [results, Tryd.results84, go_sem, y0, y1, y2, y3, hne1, hne2]) rfl ⟨_, _, _, _, rfl, ?_, ?_⟩
          · exact HF.out.1
          · exact HF.out.2
        | true =>
          obtain ⟨fz, q0, q1, q2, q3⟩ := sw.facts
          go_wp2_with fail
          clear fz q0 q1 q2 q3
          refine (off_any g 0 2 _ sw.rd (by decide) (by decide) (by decide)).mono ?_
          rintro e w14 ⟨z, rfl, hr, hg⟩
          replace sw := sw.read hr hg
          clear hr hg
          obtain ⟨fz, q0, q1, q2, q3⟩ := sw.facts
          obtain ⟨fy, y0, y1, y2, y3⟩ := sw.ends
          replace sw := sw.put 2 z rfl
          have HF := hide (sw.fin (.int .i64 (1)) (.int .i64 (dt)) (.int .i64 (z)) (.int .i64 (v)))
          clear sw
          go_wp2
          refine bodyPost_ret (v := .agg (four (1) (dt) (z) (v))) (by simp [results, Tryd.results84, go_sem, y0, y1, y2, y3, hne1, hne2]) rfl ⟨_, _, _, _, rfl, ?_, ?_⟩
          · exact HF.out.1
          · exact HF.out.2
    · have e1 : (st == 1) = false := by simp [h1]
      obtain ⟨fz, q0, q1, q2, q3⟩ := sw.facts
      go_wp2_with fail
      replace sw := sw.put 1 dt rfl
      clear fz q0 q1 q2 q3
      refine (once_any g 30 _ sw.rd (by decide) (by decide)).mono ?_
      rintro e w15 ⟨t, rfl, hr, hg⟩
      replace sw := sw.read hr hg
      clear hr hg
      cases t with
      | false =>
        obtain ⟨fz, q0, q1, q2, q3⟩ := sw.facts
        obtain ⟨fy, y0, y1, y2, y3⟩ := sw.ends
        have HF := hide (sw.fin (.int .i64 (st)) (.int .i64 (dt)) (.int .i64 (0)) (.int .i64 (0)))
        clear sw
        go_wp2
        refine bodyPost_ret (v := .agg (four (st) (dt) (0) (0))) (by simp [results, Tryd.results84, go_sem, y0, y1, y2, y3, hne1, hne2]) rfl ⟨_, _, _, _, rfl, ?_, ?_⟩
        · exact HF.out.1
        · exact HF.out.2
      | true =>
        obtain ⟨fz, q0, q1, q2, q3⟩ := sw.facts
        go_wp2_with fail
        clear fz q0 q1 q2 q3
        refine (off_any g 0 2 _ sw.rd (by decide) (by decide) (by decide)).mono ?_
        rintro e w16 ⟨z, rfl, hr, hg⟩
        replace sw := sw.read hr hg
        clear hr hg
        obtain ⟨fz, q0, q1, q2, q3⟩ := sw.facts
        obtain ⟨fy, y0, y1, y2, y3⟩ := sw.ends
        replace sw := sw.put 2 z rfl
        have HF := hide (sw.fin (.int .i64 (st)) (.int .i64 (dt)) (.int .i64 (z)) (.int .i64 (0)))
        clear sw
        go_wp2
        refine bodyPost_ret (v := .agg (four (st) (dt) (z) (0))) (by simp [results, Tryd.results84, go_sem, y0, y1, y2, y3, hne1, hne2]) rfl ⟨_, _, _, _, rfl, ?_, ?_⟩
        · exact HF.out.1
        · exact HF.out.2

end Go.Proofs.YtjhaloeahidplaaDoor
