/- the reader's msg() (written by mkRdM.py) -/
import Derived.Test.YtpebiebckdmopaaDoorRdN
import Derived.Test.YtpebiebckdmopaaDoorMsgA
namespace Go.Proofs.YtpebiebckdmopaaDoor
open Go.RowKit
set_option linter.unusedVariables false
set_option linter.unusedSimpArgs false

/-- the world of a message that is drawn: the reader, the result's block, the message's -/
structure MW (w0 w : World) (g S : Nat) (a b c d e f : Int) : Prop where
  rd : Rdr w g
  gr : w0.grownBy w (some g)
  res : w.heap[w0.heap.size]? = some (.cells (six 0 0 0 0 0 0) 25 (0, 0))
  sl : w.heap[S]? = some (.cells (six a b c d e f) 25 (0, 0))
  lg : g < w0.heap.size
  lS : w0.heap.size < S

theorem mw_start {w w1 : World} {g : Nat} (h : Rdr w1 g) (hlt : g < w.heap.size) (hg : (w.alloc (.cells (six 0 0 0 0 0 0) 25)).grownBy w1 (some g)) (a b c d e f : Int) : MW w (w1.alloc (.cells (six a b c d e f) 25)) g w1.heap.size a b c d e f := by
  have hz := hg.size
  simp only [World.size_alloc] at hz
  refine ⟨h.grown (grown_alloc _ _ none) (fun k hk => by cases hk), grown_trans (grown_trans (grown_alloc _ _ _) hg) (grown_alloc _ _ _), ?_, heap_alloc_new _ _, hlt, by omega⟩
  rw [Below.heap_alloc _ _ _ (by omega), hg.block _ (by simp) (fun e => by simp at e; omega)]
  exact heap_alloc_new _ _
theorem MW.read {w0 w w' : World} {g S : Nat} {a b c d e f : Int} (h : MW w0 w g S a b c d e f) (hr : Rdr w' g) (hg : w.grownBy w' (some g)) : MW w0 w' g S a b c d e f := by
  have hlt : S < w.heap.size := lt_of_block h.sl
  have := h.lg
  have := h.lS
  refine ⟨hr, grown_trans h.gr hg, ?_, ?_, h.lg, h.lS⟩
  · rw [hg.block _ (by omega) (fun e => by simp at e; omega)]; exact h.res
  · rw [hg.block _ hlt (fun e => by simp at e; omega)]; exact h.sl
theorem row6_facts {w : World} {B : Nat} {T : TypeId} {v0 v1 v2 v3 v4 v5 : Value} (h : w.heap[B]? = some (.cells #[v0, v1, v2, v3, v4, v5] T (0, 0))) : (∀ i, w.frozen? ⟨B, i, none⟩ = false) ∧ w.cell? ⟨B, 0, none⟩ = some v0 ∧ w.cell? ⟨B, 1, none⟩ = some v1 ∧ w.cell? ⟨B, 2, none⟩ = some v2 ∧ w.cell? ⟨B, 3, none⟩ = some v3 ∧ w.cell? ⟨B, 4, none⟩ = some v4 ∧ w.cell? ⟨B, 5, none⟩ = some v5 :=
  ⟨fun i => frozen_of_row _ _ i _ _ h, (cell_of_row _ _ _ _ _ _ h).trans rfl, (cell_of_row _ _ _ _ _ _ h).trans rfl, (cell_of_row _ _ _ _ _ _ h).trans rfl, (cell_of_row _ _ _ _ _ _ h).trans rfl, (cell_of_row _ _ _ _ _ _ h).trans rfl, (cell_of_row _ _ _ _ _ _ h).trans rfl⟩
theorem MW.put {w0 w : World} {g S : Nat} {a b c d e f a' b' c' d' e' f' : Int} (h : MW w0 w g S a b c d e f) (i : Nat) (x : Int) (he : (six a b c d e f).setIfInBounds i (.int .i64 x) = six a' b' c' d' e' f') : MW w0 (w.setCell ⟨S, i, none⟩ (.int .i64 x)) g S a' b' c' d' e' f' := by
  have h1 := h.lg
  have h2 := h.lS
  refine ⟨h.rd.grown (gr_set w S i _) (fun k hk => by simp only [Option.some.injEq] at hk; omega), gr_young h.gr (gr_set w S i _) (fun k hk => by simp only [Option.some.injEq] at hk; omega), ?_, ?_, h1, h2⟩
  · rw [Go.Deep.blk_setCell_other _ _ _ _ (by show w0.heap.size ≠ S; omega)]; exact h.res
  · rw [← he]; exact heap_setCell_same w S i _ _ _ h.sl
theorem MW.fin {w0 w : World} {g S : Nat} {a b c d e f : Int} (h : MW w0 w g S a b c d e f) (v0 v1 v2 v3 v4 v5 : Value) :
    Rdr ((((((w.setCell ⟨w0.heap.size, 0, none⟩ v0).setCell ⟨w0.heap.size, 1, none⟩ v1).setCell ⟨w0.heap.size, 2, none⟩ v2).setCell ⟨w0.heap.size, 3, none⟩ v3).setCell ⟨w0.heap.size, 4, none⟩ v4).setCell ⟨w0.heap.size, 5, none⟩ v5) g ∧ w0.grownBy ((((((w.setCell ⟨w0.heap.size, 0, none⟩ v0).setCell ⟨w0.heap.size, 1, none⟩ v1).setCell ⟨w0.heap.size, 2, none⟩ v2).setCell ⟨w0.heap.size, 3, none⟩ v3).setCell ⟨w0.heap.size, 4, none⟩ v4).setCell ⟨w0.heap.size, 5, none⟩ v5) (some g) := by
  have h1 := h.lg
  have k := grown_trans (grown_trans (grown_trans (grown_trans (grown_trans (gr_set w w0.heap.size 0 v0) (gr_set _ w0.heap.size 1 v1)) (gr_set _ w0.heap.size 2 v2)) (gr_set _ w0.heap.size 3 v3)) (gr_set _ w0.heap.size 4 v4)) (gr_set _ w0.heap.size 5 v5)
  exact ⟨h.rd.grown k (fun k hk => by simp only [Option.some.injEq] at hk; omega), gr_young h.gr k (fun k hk => by simp only [Option.some.injEq] at hk; omega)⟩

set_option maxHeartbeats 8000000 in
theorem msg_any (g : Nat) (w : World) (h : Rdr w g) : Calls Tryd.prog 13 #[.pointer (some ⟨g, 0, none⟩)] w fun e w' => ∃ a b c d x y : Int, e = .returned (.agg (six a b c d x y)) ∧ Rdr w' g ∧ w.grownBy w' (some g) := by
  have hgl := h.lt
  go_enter Tryd.func13, Tryd.ntmps13
  go_wp2_with fail
  refine (below_any g 9 _ (h.grown (grown_alloc _ _ none) (fun k hk => by cases hk)) (by decide) (by decide)).mono ?_
  rintro e w0 ⟨kd, rfl, hk0, hk9, hr0, hg0⟩
  go_wp2_with fail
  refine (below_any g 2 _ hr0 (by decide) (by decide)).mono ?_
  rintro e w1 ⟨ln, rfl, _, _, hr, hg⟩
  have hgg := grown_trans hg0 hg
  clear hg0 hg hr0 h
  have sw := mw_start hr hgl hgg (1 + kd) 0 0 ln 0 0
  have hne1 : ¬ w.heap.size = w1.heap.size := by have := sw.lS; omega
  have hne2 : ¬ w1.heap.size = w.heap.size := fun e => hne1 e.symm
  clear hr hgg
  have hkk : wrap64 (1 + kd) = 1 + kd := Go.IntWalk.wrap64_in _ (by omega)
  obtain ⟨fz, q0, q1, q2, q3, q4, q5⟩ := row6_facts sw.sl
  go_wp2_with fail
  clear fz q0 q1 q2 q3 q4 q5
  refine (l2Core_any _ _ (by omega) (by omega)).mono ?_
  rintro e w2 ⟨rfl, rfl⟩
  cases hc : homeB (1 + kd) with
  | false =>
    obtain ⟨fz, q0, q1, q2, q3, q4, q5⟩ := row6_facts sw.sl
    go_wp2_with fail
    clear fz q0 q1 q2 q3 q4 q5
    refine (below_any g 3 _ sw.rd (by decide) (by decide)).mono ?_
    rintro e w3 ⟨co, rfl, hco0, hco1, hr, hg⟩
    replace sw := sw.read hr hg
    clear hr hg
    have hck : wrap64 (1 + co) = 1 + co := Go.IntWalk.wrap64_in _ (by omega)
    obtain ⟨fz, q0, q1, q2, q3, q4, q5⟩ := row6_facts sw.sl
    go_wp2_with fail
    replace sw := sw.put 2 (1 + co) rfl
    clear fz q0 q1 q2 q3 q4 q5
    refine (l2Wants_any _ _ (by omega) (by omega)).mono ?_
    rintro e w4 ⟨rfl, rfl⟩
    cases hw : wantB (1 + kd) with
    | false =>
      obtain ⟨fz, q0, q1, q2, q3, q4, q5⟩ := row6_facts sw.sl
      go_wp2_with fail
      clear fz q0 q1 q2 q3 q4 q5
      refine (l2Holds_any _ _ (by omega) (by omega)).mono ?_
      rintro e w5 ⟨rfl, rfl⟩
      cases hd : dataB (1 + kd) with
      | false =>
        obtain ⟨fz, q0, q1, q2, q3, q4, q5⟩ := row6_facts sw.sl
        go_wp2_with fail
        clear fz q0 q1 q2 q3 q4 q5
        refine (below_any g 30 _ sw.rd (by decide) (by decide)).mono ?_
        rintro e w6 ⟨t, rfl, _, _, hr, hg⟩
        replace sw := sw.read hr hg
        clear hr hg
        by_cases t7 : t = 27
        · subst t7
          obtain ⟨fz, q0, q1, q2, q3, q4, q5⟩ := row6_facts sw.sl
          go_wp2_with fail
          clear fz q0 q1 q2 q3 q4 q5
          refine (off_any g 1 9 _ sw.rd (by decide) (by decide) (by decide)).mono ?_
          rintro e w7 ⟨z, rfl, hr, hg⟩
          replace sw := sw.read hr hg
          clear hr hg
          obtain ⟨fz, q0, q1, q2, q3, q4, q5⟩ := row6_facts sw.sl
          obtain ⟨fy, y0, y1, y2, y3, y4, y5⟩ := row6_facts sw.res
          replace sw := sw.put 0 (z) rfl
          have HF := hide (sw.fin (.int .i64 (z)) (.int .i64 (0)) (.int .i64 (1 + co)) (.int .i64 (ln)) (.int .i64 (0)) (.int .i64 (0)))
          clear sw
          go_wp2
          refine bodyPost_ret (v := .agg (six (z) (0) (1 + co) (ln) (0) (0))) (by simp [results, Tryd.results13, go_sem, y0, y1, y2, y3, y4, y5, hne1, hne2]) rfl ⟨_, _, _, _, _, _, rfl, ?_, ?_⟩
          · exact HF.out.1
          · exact HF.out.2
        · have t7b : (t == 27) = false := by simp [t7]
          clear t7
          by_cases t8 : t = 28
          · subst t8
            obtain ⟨fz, q0, q1, q2, q3, q4, q5⟩ := row6_facts sw.sl
            go_wp2_with fail
            clear fz q0 q1 q2 q3 q4 q5
            refine (off_any g 0 3 _ sw.rd (by decide) (by decide) (by decide)).mono ?_
            rintro e w8 ⟨z, rfl, hr, hg⟩
            replace sw := sw.read hr hg
            clear hr hg
            obtain ⟨fz, q0, q1, q2, q3, q4, q5⟩ := row6_facts sw.sl
            obtain ⟨fy, y0, y1, y2, y3, y4, y5⟩ := row6_facts sw.res
            replace sw := sw.put 3 (z) rfl
            have HF := hide (sw.fin (.int .i64 (1 + kd)) (.int .i64 (0)) (.int .i64 (1 + co)) (.int .i64 (z)) (.int .i64 (0)) (.int .i64 (0)))
            clear sw
            go_wp2
            refine bodyPost_ret (v := .agg (six (1 + kd) (0) (1 + co) (z) (0) (0))) (by simp [results, Tryd.results13, go_sem, y0, y1, y2, y3, y4, y5, hne1, hne2]) rfl ⟨_, _, _, _, _, _, rfl, ?_, ?_⟩
            · exact HF.out.1
            · exact HF.out.2
          · have t8b : (t == 28) = false := by simp [t8]
            clear t8
            by_cases t9 : t = 29
            · subst t9
              obtain ⟨fz, q0, q1, q2, q3, q4, q5⟩ := row6_facts sw.sl
              go_wp2_with fail
              clear fz q0 q1 q2 q3 q4 q5
              refine (off_any g 0 1000000 _ sw.rd (by decide) (by decide) (by decide)).mono ?_
              rintro e w9 ⟨z, rfl, hr, hg⟩
              replace sw := sw.read hr hg
              clear hr hg
              obtain ⟨fz, q0, q1, q2, q3, q4, q5⟩ := row6_facts sw.sl
              obtain ⟨fy, y0, y1, y2, y3, y4, y5⟩ := row6_facts sw.res
              replace sw := sw.put 5 (z) rfl
              have HF := hide (sw.fin (.int .i64 (1 + kd)) (.int .i64 (0)) (.int .i64 (1 + co)) (.int .i64 (ln)) (.int .i64 (0)) (.int .i64 (z)))
              clear sw
              go_wp2
              refine bodyPost_ret (v := .agg (six (1 + kd) (0) (1 + co) (ln) (0) (z))) (by simp [results, Tryd.results13, go_sem, y0, y1, y2, y3, y4, y5, hne1, hne2]) rfl ⟨_, _, _, _, _, _, rfl, ?_, ?_⟩
              · exact HF.out.1
              · exact HF.out.2
            · have t9b : (t == 29) = false := by simp [t9]
              clear t9
              obtain ⟨fz, q0, q1, q2, q3, q4, q5⟩ := row6_facts sw.sl
              obtain ⟨fy, y0, y1, y2, y3, y4, y5⟩ := row6_facts sw.res
              have HF := hide (sw.fin (.int .i64 (1 + kd)) (.int .i64 (0)) (.int .i64 (1 + co)) (.int .i64 (ln)) (.int .i64 (0)) (.int .i64 (0)))
              clear sw
              go_wp2
              refine bodyPost_ret (v := .agg (six (1 + kd) (0) (1 + co) (ln) (0) (0))) (by simp [results, Tryd.results13, go_sem, y0, y1, y2, y3, y4, y5, hne1, hne2]) rfl ⟨_, _, _, _, _, _, rfl, ?_, ?_⟩
              · exact HF.out.1
              · exact HF.out.2
      | true =>
        obtain ⟨fz, q0, q1, q2, q3, q4, q5⟩ := row6_facts sw.sl
        go_wp2_with fail
        clear fz q0 q1 q2 q3 q4 q5
        refine (below_any g 50 _ sw.rd (by decide) (by decide)).mono ?_
        rintro e w10 ⟨da, rfl, _, _, hr, hg⟩
        replace sw := sw.read hr hg
        clear hr hg
        obtain ⟨fz, q0, q1, q2, q3, q4, q5⟩ := row6_facts sw.sl
        go_wp2_with fail
        replace sw := sw.put 5 (da) rfl
        clear fz q0 q1 q2 q3 q4 q5
        refine (below_any g 30 _ sw.rd (by decide) (by decide)).mono ?_
        rintro e w11 ⟨t, rfl, _, _, hr, hg⟩
        replace sw := sw.read hr hg
        clear hr hg
        by_cases t7 : t = 27
        · subst t7
          obtain ⟨fz, q0, q1, q2, q3, q4, q5⟩ := row6_facts sw.sl
          go_wp2_with fail
          clear fz q0 q1 q2 q3 q4 q5
          refine (off_any g 1 9 _ sw.rd (by decide) (by decide) (by decide)).mono ?_
          rintro e w12 ⟨z, rfl, hr, hg⟩
          replace sw := sw.read hr hg
          clear hr hg
          obtain ⟨fz, q0, q1, q2, q3, q4, q5⟩ := row6_facts sw.sl
          obtain ⟨fy, y0, y1, y2, y3, y4, y5⟩ := row6_facts sw.res
          replace sw := sw.put 0 (z) rfl
          have HF := hide (sw.fin (.int .i64 (z)) (.int .i64 (0)) (.int .i64 (1 + co)) (.int .i64 (ln)) (.int .i64 (0)) (.int .i64 (da)))
          clear sw
          go_wp2
          refine bodyPost_ret (v := .agg (six (z) (0) (1 + co) (ln) (0) (da))) (by simp [results, Tryd.results13, go_sem, y0, y1, y2, y3, y4, y5, hne1, hne2]) rfl ⟨_, _, _, _, _, _, rfl, ?_, ?_⟩
          · exact HF.out.1
          · exact HF.out.2
        · have t7b : (t == 27) = false := by simp [t7]
          clear t7
          by_cases t8 : t = 28
          · subst t8
            obtain ⟨fz, q0, q1, q2, q3, q4, q5⟩ := row6_facts sw.sl
            go_wp2_with fail
            clear fz q0 q1 q2 q3 q4 q5
            refine (off_any g 0 3 _ sw.rd (by decide) (by decide) (by decide)).mono ?_
            rintro e w13 ⟨z, rfl, hr, hg⟩
            replace sw := sw.read hr hg
            clear hr hg
            obtain ⟨fz, q0, q1, q2, q3, q4, q5⟩ := row6_facts sw.sl
            obtain ⟨fy, y0, y1, y2, y3, y4, y5⟩ := row6_facts sw.res
            replace sw := sw.put 3 (z) rfl
            have HF := hide (sw.fin (.int .i64 (1 + kd)) (.int .i64 (0)) (.int .i64 (1 + co)) (.int .i64 (z)) (.int .i64 (0)) (.int .i64 (da)))
            clear sw
            go_wp2
            refine bodyPost_ret (v := .agg (six (1 + kd) (0) (1 + co) (z) (0) (da))) (by simp [results, Tryd.results13, go_sem, y0, y1, y2, y3, y4, y5, hne1, hne2]) rfl ⟨_, _, _, _, _, _, rfl, ?_, ?_⟩
            · exact HF.out.1
            · exact HF.out.2
          · have t8b : (t == 28) = false := by simp [t8]
            clear t8
            by_cases t9 : t = 29
            · subst t9
              obtain ⟨fz, q0, q1, q2, q3, q4, q5⟩ := row6_facts sw.sl
              go_wp2_with fail
              clear fz q0 q1 q2 q3 q4 q5
              refine (off_any g 0 1000000 _ sw.rd (by decide) (by decide) (by decide)).mono ?_
              rintro e w14 ⟨z, rfl, hr, hg⟩
              replace sw := sw.read hr hg
              clear hr hg
              obtain ⟨fz, q0, q1, q2, q3, q4, q5⟩ := row6_facts sw.sl
              obtain ⟨fy, y0, y1, y2, y3, y4, y5⟩ := row6_facts sw.res
              replace sw := sw.put 5 (z) rfl
              have HF := hide (sw.fin (.int .i64 (1 + kd)) (.int .i64 (0)) (.int .i64 (1 + co)) (.int .i64 (ln)) (.int .i64 (0)) (.int .i64 (z)))
              clear sw
              go_wp2
              refine bodyPost_ret (v := .agg (six (1 + kd) (0) (1 + co) (ln) (0) (z))) (by simp [results, Tryd.results13, go_sem, y0, y1, y2, y3, y4, y5, hne1, hne2]) rfl ⟨_, _, _, _, _, _, rfl, ?_, ?_⟩
              · exact HF.out.1
              · exact HF.out.2
            · have t9b : (t == 29) = false := by simp [t9]
              clear t9
              obtain ⟨fz, q0, q1, q2, q3, q4, q5⟩ := row6_facts sw.sl
              obtain ⟨fy, y0, y1, y2, y3, y4, y5⟩ := row6_facts sw.res
              have HF := hide (sw.fin (.int .i64 (1 + kd)) (.int .i64 (0)) (.int .i64 (1 + co)) (.int .i64 (ln)) (.int .i64 (0)) (.int .i64 (da)))
              clear sw
              go_wp2
              refine bodyPost_ret (v := .agg (six (1 + kd) (0) (1 + co) (ln) (0) (da))) (by simp [results, Tryd.results13, go_sem, y0, y1, y2, y3, y4, y5, hne1, hne2]) rfl ⟨_, _, _, _, _, _, rfl, ?_, ?_⟩
              · exact HF.out.1
              · exact HF.out.2
    | true =>
      obtain ⟨fz, q0, q1, q2, q3, q4, q5⟩ := row6_facts sw.sl
      go_wp2_with fail
      clear fz q0 q1 q2 q3 q4 q5
      refine (below_any g 2 _ sw.rd (by decide) (by decide)).mono ?_
      rintro e w15 ⟨wa, rfl, hwa0, hwa1, hr, hg⟩
      replace sw := sw.read hr hg
      clear hr hg
      have hwk : wrap64 (1 + wa) = 1 + wa := Go.IntWalk.wrap64_in _ (by omega)
      obtain ⟨fz, q0, q1, q2, q3, q4, q5⟩ := row6_facts sw.sl
      go_wp2_with fail
      replace sw := sw.put 4 (1 + wa) rfl
      clear fz q0 q1 q2 q3 q4 q5
      refine (l2Holds_any _ _ (by omega) (by omega)).mono ?_
      rintro e w16 ⟨rfl, rfl⟩
      cases hd : dataB (1 + kd) with
      | false =>
        obtain ⟨fz, q0, q1, q2, q3, q4, q5⟩ := row6_facts sw.sl
        go_wp2_with fail
        clear fz q0 q1 q2 q3 q4 q5
        refine (below_any g 30 _ sw.rd (by decide) (by decide)).mono ?_
        rintro e w17 ⟨t, rfl, _, _, hr, hg⟩
        replace sw := sw.read hr hg
        clear hr hg
        by_cases t7 : t = 27
        · subst t7
          obtain ⟨fz, q0, q1, q2, q3, q4, q5⟩ := row6_facts sw.sl
          go_wp2_with fail
          clear fz q0 q1 q2 q3 q4 q5
          refine (off_any g 1 9 _ sw.rd (by decide) (by decide) (by decide)).mono ?_
          rintro e w18 ⟨z, rfl, hr, hg⟩
          replace sw := sw.read hr hg
          clear hr hg
          obtain ⟨fz, q0, q1, q2, q3, q4, q5⟩ := row6_facts sw.sl
          obtain ⟨fy, y0, y1, y2, y3, y4, y5⟩ := row6_facts sw.res
          replace sw := sw.put 0 (z) rfl
          have HF := hide (sw.fin (.int .i64 (z)) (.int .i64 (0)) (.int .i64 (1 + co)) (.int .i64 (ln)) (.int .i64 (1 + wa)) (.int .i64 (0)))
          clear sw
          go_wp2
          refine bodyPost_ret (v := .agg (six (z) (0) (1 + co) (ln) (1 + wa) (0))) (by simp [results, Tryd.results13, go_sem, y0, y1, y2, y3, y4, y5, hne1, hne2]) rfl ⟨_, _, _, _, _, _, rfl, ?_, ?_⟩
          · exact HF.out.1
          · exact HF.out.2
        · have t7b : (t == 27) = false := by simp [t7]
          clear t7
          by_cases t8 : t = 28
          · subst t8
            obtain ⟨fz, q0, q1, q2, q3, q4, q5⟩ := row6_facts sw.sl
            go_wp2_with fail
            clear fz q0 q1 q2 q3 q4 q5
            refine (off_any g 0 3 _ sw.rd (by decide) (by decide) (by decide)).mono ?_
            rintro e w19 ⟨z, rfl, hr, hg⟩
            replace sw := sw.read hr hg
            clear hr hg
            obtain ⟨fz, q0, q1, q2, q3, q4, q5⟩ := row6_facts sw.sl
            obtain ⟨fy, y0, y1, y2, y3, y4, y5⟩ := row6_facts sw.res
            replace sw := sw.put 3 (z) rfl
            have HF := hide (sw.fin (.int .i64 (1 + kd)) (.int .i64 (0)) (.int .i64 (1 + co)) (.int .i64 (z)) (.int .i64 (1 + wa)) (.int .i64 (0)))
            clear sw
            go_wp2
            refine bodyPost_ret (v := .agg (six (1 + kd) (0) (1 + co) (z) (1 + wa) (0))) (by simp [results, Tryd.results13, go_sem, y0, y1, y2, y3, y4, y5, hne1, hne2]) rfl ⟨_, _, _, _, _, _, rfl, ?_, ?_⟩
            · exact HF.out.1
            · exact HF.out.2
          · have t8b : (t == 28) = false := by simp [t8]
            clear t8
            by_cases t9 : t = 29
            · subst t9
              obtain ⟨fz, q0, q1, q2, q3, q4, q5⟩ := row6_facts sw.sl
              go_wp2_with fail
              clear fz q0 q1 q2 q3 q4 q5
              refine (off_any g 0 1000000 _ sw.rd (by decide) (by decide) (by decide)).mono ?_
              rintro e w20 ⟨z, rfl, hr, hg⟩
              replace sw := sw.read hr hg
              clear hr hg
              obtain ⟨fz, q0, q1, q2, q3, q4, q5⟩ := row6_facts sw.sl
              obtain ⟨fy, y0, y1, y2, y3, y4, y5⟩ := row6_facts sw.res
              replace sw := sw.put 5 (z) rfl
              have HF := hide (sw.fin (.int .i64 (1 + kd)) (.int .i64 (0)) (.int .i64 (1 + co)) (.int .i64 (ln)) (.int .i64 (1 + wa)) (.int .i64 (z)))
              clear sw
              go_wp2
              refine bodyPost_ret (v := .agg (six (1 + kd) (0) (1 + co) (ln) (1 + wa) (z))) (by simp [results, Tryd.results13, go_sem, y0, y1, y2, y3, y4, y5, hne1, hne2]) rfl ⟨_, _, _, _, _, _, rfl, ?_, ?_⟩
              · exact HF.out.1
              · exact HF.out.2
            · have t9b : (t == 29) = false := by simp [t9]
              clear t9
              obtain ⟨fz, q0, q1, q2, q3, q4, q5⟩ := row6_facts sw.sl
              obtain ⟨fy, y0, y1, y2, y3, y4, y5⟩ := row6_facts sw.res
              have HF := hide (sw.fin (.int .i64 (1 + kd)) (.int .i64 (0)) (.int .i64 (1 + co)) (.int .i64 (ln)) (.int .i64 (1 + wa)) (.int .i64 (0)))
              clear sw
              go_wp2
              refine bodyPost_ret (v := .agg (six (1 + kd) (0) (1 + co) (ln) (1 + wa) (0))) (by simp [results, Tryd.results13, go_sem, y0, y1, y2, y3, y4, y5, hne1, hne2]) rfl ⟨_, _, _, _, _, _, rfl, ?_, ?_⟩
              · exact HF.out.1
              · exact HF.out.2
      | true =>
        obtain ⟨fz, q0, q1, q2, q3, q4, q5⟩ := row6_facts sw.sl
        go_wp2_with fail
        clear fz q0 q1 q2 q3 q4 q5
        refine (below_any g 50 _ sw.rd (by decide) (by decide)).mono ?_
        rintro e w21 ⟨da, rfl, _, _, hr, hg⟩
        replace sw := sw.read hr hg
        clear hr hg
        obtain ⟨fz, q0, q1, q2, q3, q4, q5⟩ := row6_facts sw.sl
        go_wp2_with fail
        replace sw := sw.put 5 (da) rfl
        clear fz q0 q1 q2 q3 q4 q5
        refine (below_any g 30 _ sw.rd (by decide) (by decide)).mono ?_
        rintro e w22 ⟨t, rfl, _, _, hr, hg⟩
        replace sw := sw.read hr hg
        clear hr hg
        by_cases t7 : t = 27
        · subst t7
          obtain ⟨fz, q0, q1, q2, q3, q4, q5⟩ := row6_facts sw.sl
          go_wp2_with fail
          clear fz q0 q1 q2 q3 q4 q5
          refine (off_any g 1 9 _ sw.rd (by decide) (by decide) (by decide)).mono ?_
          rintro e w23 ⟨z, rfl, hr, hg⟩
          replace sw := sw.read hr hg
          clear hr hg
          obtain ⟨fz, q0, q1, q2, q3, q4, q5⟩ := row6_facts sw.sl
          obtain ⟨fy, y0, y1, y2, y3, y4, y5⟩ := row6_facts sw.res
          replace sw := sw.put 0 (z) rfl
          have HF := hide (sw.fin (.int .i64 (z)) (.int .i64 (0)) (.int .i64 (1 + co)) (.int .i64 (ln)) (.int .i64 (1 + wa)) (.int .i64 (da)))
          clear sw
          go_wp2
          refine bodyPost_ret (v := .agg (six (z) (0) (1 + co) (ln) (1 + wa) (da))) (by simp [results, Tryd.results13, go_sem, y0, y1, y2, y3, y4, y5, hne1, hne2]) rfl ⟨_, _, _, _, _, _, rfl, ?_, ?_⟩
          · exact HF.out.1
          · exact HF.out.2
        · have t7b : (t == 27) = false := by simp [t7]
          clear t7
          by_cases t8 : t = 28
          · subst t8
            obtain ⟨fz, q0, q1, q2, q3, q4, q5⟩ := row6_facts sw.sl
            go_wp2_with fail
            clear fz q0 q1 q2 q3 q4 q5
            refine (off_any g 0 3 _ sw.rd (by decide) (by decide) (by decide)).mono ?_
            rintro e w24 ⟨z, rfl, hr, hg⟩
            replace sw := sw.read hr hg
            clear hr hg
            obtain ⟨fz, q0, q1, q2, q3, q4, q5⟩ := row6_facts sw.sl
            obtain ⟨fy, y0, y1, y2, y3, y4, y5⟩ := row6_facts sw.res
            replace sw := sw.put 3 (z) rfl
            have HF := hide (sw.fin (.int .i64 (1 + kd)) (.int .i64 (0)) (.int .i64 (1 + co)) (.int .i64 (z)) (.int .i64 (1 + wa)) (.int .i64 (da)))
            clear sw
            go_wp2
            refine bodyPost_ret (v := .agg (six (1 + kd) (0) (1 + co) (z) (1 + wa) (da))) (by simp [results, Tryd.results13, go_sem, y0, y1, y2, y3, y4, y5, hne1, hne2]) rfl ⟨_, _, _, _, _, _, rfl, ?_, ?_⟩
            · exact HF.out.1
            · exact HF.out.2
          · have t8b : (t == 28) = false := by simp [t8]
            clear t8
            by_cases t9 : t = 29
            · subst t9
              obtain ⟨fz, q0, q1, q2, q3, q4, q5⟩ := row6_facts sw.sl
              go_wp2_with fail
              clear fz q0 q1 q2 q3 q4 q5
              refine (off_any g 0 1000000 _ sw.rd (by decide) (by decide) (by decide)).mono ?_
              rintro e w25 ⟨z, rfl, hr, hg⟩
              replace sw := sw.read hr hg
              clear hr hg
              obtain ⟨fz, q0, q1, q2, q3, q4, q5⟩ := row6_facts sw.sl
              obtain ⟨fy, y0, y1, y2, y3, y4, y5⟩ := row6_facts sw.res
              replace sw := sw.put 5 (z) rfl
              have HF := hide (sw.fin (.int .i64 (1 + kd)) (.int .i64 (0)) (.int .i64 (1 + co)) (.int .i64 (ln)) (.int .i64 (1 + wa)) (.int .i64 (z)))
              clear sw
              go_wp2
              refine bodyPost_ret (v := .agg (six (1 + kd) (0) (1 + co) (ln) (1 + wa) (z))) (by simp [results, Tryd.results13, go_sem, y0, y1, y2, y3, y4, y5, hne1, hne2]) rfl ⟨_, _, _, _, _, _, rfl, ?_, ?_⟩
              · exact HF.out.1
              · exact HF.out.2
            · have t9b : (t == 29) = false := by simp [t9]
              clear t9
              obtain ⟨fz, q0, q1, q2, q3, q4, q5⟩ := row6_facts sw.sl
              obtain ⟨fy, y0, y1, y2, y3, y4, y5⟩ := row6_facts sw.res
              have HF := hide (sw.fin (.int .i64 (1 + kd)) (.int .i64 (0)) (.int .i64 (1 + co)) (.int .i64 (ln)) (.int .i64 (1 + wa)) (.int .i64 (da)))
              clear sw
              go_wp2
              refine bodyPost_ret (v := .agg (six (1 + kd) (0) (1 + co) (ln) (1 + wa) (da))) (by simp [results, Tryd.results13, go_sem, y0, y1, y2, y3, y4, y5, hne1, hne2]) rfl ⟨_, _, _, _, _, _, rfl, ?_, ?_⟩
              · exact HF.out.1
              · exact HF.out.2
  | true =>
    obtain ⟨fz, q0, q1, q2, q3, q4, q5⟩ := row6_facts sw.sl
    go_wp2_with fail
    clear fz q0 q1 q2 q3 q4 q5
    refine (below_any g 3 _ sw.rd (by decide) (by decide)).mono ?_
    rintro e w26 ⟨co, rfl, hco0, hco1, hr, hg⟩
    replace sw := sw.read hr hg
    clear hr hg
    have hck : wrap64 (1 + co) = 1 + co := Go.IntWalk.wrap64_in _ (by omega)
    obtain ⟨fz, q0, q1, q2, q3, q4, q5⟩ := row6_facts sw.sl
    go_wp2_with fail
    replace sw := sw.put 1 (1 + co) rfl
    clear fz q0 q1 q2 q3 q4 q5
    refine (l2Wants_any _ _ (by omega) (by omega)).mono ?_
    rintro e w27 ⟨rfl, rfl⟩
    cases hw : wantB (1 + kd) with
    | false =>
      obtain ⟨fz, q0, q1, q2, q3, q4, q5⟩ := row6_facts sw.sl
      go_wp2_with fail
      clear fz q0 q1 q2 q3 q4 q5
      refine (l2Holds_any _ _ (by omega) (by omega)).mono ?_
      rintro e w28 ⟨rfl, rfl⟩
      cases hd : dataB (1 + kd) with
      | false =>
        obtain ⟨fz, q0, q1, q2, q3, q4, q5⟩ := row6_facts sw.sl
        go_wp2_with fail
        clear fz q0 q1 q2 q3 q4 q5
        refine (below_any g 30 _ sw.rd (by decide) (by decide)).mono ?_
        rintro e w29 ⟨t, rfl, _, _, hr, hg⟩
        replace sw := sw.read hr hg
        clear hr hg
        by_cases t7 : t = 27
        · subst t7
          obtain ⟨fz, q0, q1, q2, q3, q4, q5⟩ := row6_facts sw.sl
          go_wp2_with fail
          clear fz q0 q1 q2 q3 q4 q5
          refine (off_any g 1 9 _ sw.rd (by decide) (by decide) (by decide)).mono ?_
          rintro e w30 ⟨z, rfl, hr, hg⟩
          replace sw := sw.read hr hg
          clear hr hg
          obtain ⟨fz, q0, q1, q2, q3, q4, q5⟩ := row6_facts sw.sl
          obtain ⟨fy, y0, y1, y2, y3, y4, y5⟩ := row6_facts sw.res
          replace sw := sw.put 0 (z) rfl
          have HF := hide (sw.fin (.int .i64 (z)) (.int .i64 (1 + co)) (.int .i64 (0)) (.int .i64 (ln)) (.int .i64 (0)) (.int .i64 (0)))
          clear sw
          go_wp2
          refine bodyPost_ret (v := .agg (six (z) (1 + co) (0) (ln) (0) (0))) (by simp [results, Tryd.results13, go_sem, y0, y1, y2, y3, y4, y5, hne1, hne2]) rfl ⟨_, _, _, _, _, _, rfl, ?_, ?_⟩
          · exact HF.out.1
          · exact HF.out.2
        · have t7b : (t == 27) = false := by simp [t7]
          clear t7
          by_cases t8 : t = 28
          · subst t8
            obtain ⟨fz, q0, q1, q2, q3, q4, q5⟩ := row6_facts sw.sl
            go_wp2_with fail
            clear fz q0 q1 q2 q3 q4 q5
            refine (off_any g 0 3 _ sw.rd (by decide) (by decide) (by decide)).mono ?_
            rintro e w31 ⟨z, rfl, hr, hg⟩
            replace sw := sw.read hr hg
            clear hr hg
            obtain ⟨fz, q0, q1, q2, q3, q4, q5⟩ := row6_facts sw.sl
            obtain ⟨fy, y0, y1, y2, y3, y4, y5⟩ := row6_facts sw.res
            replace sw := sw.put 3 (z) rfl
            have HF := hide (sw.fin (.int .i64 (1 + kd)) (.int .i64 (1 + co)) (.int .i64 (0)) (.int .i64 (z)) (.int .i64 (0)) (.int .i64 (0)))
            clear sw
            go_wp2
            refine bodyPost_ret (v := .agg (six (1 + kd) (1 + co) (0) (z) (0) (0))) (by simp [results, Tryd.results13, go_sem, y0, y1, y2, y3, y4, y5, hne1, hne2]) rfl ⟨_, _, _, _, _, _, rfl, ?_, ?_⟩
            · exact HF.out.1
            · exact HF.out.2
          · have t8b : (t == 28) = false := by simp [t8]
            clear t8
            by_cases t9 : t = 29
            · subst t9
              obtain ⟨fz, q0, q1, q2, q3, q4, q5⟩ := row6_facts sw.sl
              go_wp2_with fail
              clear fz q0 q1 q2 q3 q4 q5
              refine (off_any g 0 1000000 _ sw.rd (by decide) (by decide) (by decide)).mono ?_
              rintro e w32 ⟨z, rfl, hr, hg⟩
              replace sw := sw.read hr hg
              clear hr hg
              obtain ⟨fz, q0, q1, q2, q3, q4, q5⟩ := row6_facts sw.sl
              obtain ⟨fy, y0, y1, y2, y3, y4, y5⟩ := row6_facts sw.res
              replace sw := sw.put 5 (z) rfl
              have HF := hide (sw.fin (.int .i64 (1 + kd)) (.int .i64 (1 + co)) (.int .i64 (0)) (.int .i64 (ln)) (.int .i64 (0)) (.int .i64 (z)))
              clear sw
              go_wp2
              refine bodyPost_ret (v := .agg (six (1 + kd) (1 + co) (0) (ln) (0) (z))) (by simp [results, Tryd.results13, go_sem, y0, y1, y2, y3, y4, y5, hne1, hne2]) rfl ⟨_, _, _, _, _, _, rfl, ?_, ?_⟩
              · exact HF.out.1
              · exact HF.out.2
            · have t9b : (t == 29) = false := by simp [t9]
              clear t9
              obtain ⟨fz, q0, q1, q2, q3, q4, q5⟩ := row6_facts sw.sl
              obtain ⟨fy, y0, y1, y2, y3, y4, y5⟩ := row6_facts sw.res
              have HF := hide (sw.fin (.int .i64 (1 + kd)) (.int .i64 (1 + co)) (.int .i64 (0)) (.int .i64 (ln)) (.int .i64 (0)) (.int .i64 (0)))
              clear sw
              go_wp2
              refine bodyPost_ret (v := .agg (six (1 + kd) (1 + co) (0) (ln) (0) (0))) (by simp [results, Tryd.results13, go_sem, y0, y1, y2, y3, y4, y5, hne1, hne2]) rfl ⟨_, _, _, _, _, _, rfl, ?_, ?_⟩
              · exact HF.out.1
              · exact HF.out.2
      | true =>
        obtain ⟨fz, q0, q1, q2, q3, q4, q5⟩ := row6_facts sw.sl
        go_wp2_with fail
        clear fz q0 q1 q2 q3 q4 q5
        refine (below_any g 50 _ sw.rd (by decide) (by decide)).mono ?_
        rintro e w33 ⟨da, rfl, _, _, hr, hg⟩
        replace sw := sw.read hr hg
        clear hr hg
        obtain ⟨fz, q0, q1, q2, q3, q4, q5⟩ := row6_facts sw.sl
        go_wp2_with fail
        replace sw := sw.put 5 (da) rfl
        clear fz q0 q1 q2 q3 q4 q5
        refine (below_any g 30 _ sw.rd (by decide) (by decide)).mono ?_
        rintro e w34 ⟨t, rfl, _, _, hr, hg⟩
        replace sw := sw.read hr hg
        clear hr hg
        by_cases t7 : t = 27
        · subst t7
          obtain ⟨fz, q0, q1, q2, q3, q4, q5⟩ := row6_facts sw.sl
          go_wp2_with fail
          clear fz q0 q1 q2 q3 q4 q5
          refine (off_any g 1 9 _ sw.rd (by decide) (by decide) (by decide)).mono ?_
          rintro e w35 ⟨z, rfl, hr, hg⟩
          replace sw := sw.read hr hg
          clear hr hg
          obtain ⟨fz, q0, q1, q2, q3, q4, q5⟩ := row6_facts sw.sl
          obtain ⟨fy, y0, y1, y2, y3, y4, y5⟩ := row6_facts sw.res
          replace sw := sw.put 0 (z) rfl
          have HF := hide (sw.fin (.int .i64 (z)) (.int .i64 (1 + co)) (.int .i64 (0)) (.int .i64 (ln)) (.int .i64 (0)) (.int .i64 (da)))
          clear sw
          go_wp2
          refine bodyPost_ret (v := .agg (six (z) (1 + co) (0) (ln) (0) (da))) (by simp [results, Tryd.results13, go_sem, y0, y1, y2, y3, y4, y5, hne1, hne2]) rfl ⟨_, _, _, _, _, _, rfl, ?_, ?_⟩
          · exact HF.out.1
          · exact HF.out.2
        · have t7b : (t == 27) = false := by simp [t7]
          clear t7
          by_cases t8 : t = 28
          · subst t8
            obtain ⟨fz, q0, q1, q2, q3, q4, q5⟩ := row6_facts sw.sl
            go_wp2_with fail
            clear fz q0 q1 q2 q3 q4 q5
            refine (off_any g 0 3 _ sw.rd (by decide) (by decide) (by decide)).mono ?_
            rintro e w36 ⟨z, rfl, hr, hg⟩
            replace sw := sw.read hr hg
            clear hr hg
            obtain ⟨fz, q0, q1, q2, q3, q4, q5⟩ := row6_facts sw.sl
            obtain ⟨fy, y0, y1, y2, y3, y4, y5⟩ := row6_facts sw.res
            replace sw := sw.put 3 (z) rfl
            have HF := hide (sw.fin (.int .i64 (1 + kd)) (.int .i64 (1 + co)) (.int .i64 (0)) (.int .i64 (z)) (.int .i64 (0)) (.int .i64 (da)))
            clear sw
            go_wp2
            refine bodyPost_ret (v := .agg (six (1 + kd) (1 + co) (0) (z) (0) (da))) (by simp [results, Tryd.results13, go_sem, y0, y1, y2, y3, y4, y5, hne1, hne2]) rfl ⟨_, _, _, _, _, _, rfl, ?_, ?_⟩
            · exact HF.out.1
            · exact HF.out.2
          · have t8b : (t == 28) = false := by simp [t8]
            clear t8
            by_cases t9 : t = 29
            · subst t9
              obtain ⟨fz, q0, q1, q2, q3, q4, q5⟩ := row6_facts sw.sl
              go_wp2_with fail
              clear fz q0 q1 q2 q3 q4 q5
              refine (off_any g 0 1000000 _ sw.rd (by decide) (by decide) (by decide)).mono ?_
              rintro e w37 ⟨z, rfl, hr, hg⟩
              replace sw := sw.read hr hg
              clear hr hg
              obtain ⟨fz, q0, q1, q2, q3, q4, q5⟩ := row6_facts sw.sl
              obtain ⟨fy, y0, y1, y2, y3, y4, y5⟩ := row6_facts sw.res
              replace sw := sw.put 5 (z) rfl
              have HF := hide (sw.fin (.int .i64 (1 + kd)) (.int .i64 (1 + co)) (.int .i64 (0)) (.int .i64 (ln)) (.int .i64 (0)) (.int .i64 (z)))
              clear sw
              go_wp2
              refine bodyPost_ret (v := .agg (six (1 + kd) (1 + co) (0) (ln) (0) (z))) (by simp [results, Tryd.results13, go_sem, y0, y1, y2, y3, y4, y5, hne1, hne2]) rfl ⟨_, _, _, _, _, _, rfl, ?_, ?_⟩
              · exact HF.out.1
              · exact HF.out.2
            · have t9b : (t == 29) = false := by simp [t9]
              clear t9
              obtain ⟨fz, q0, q1, q2, q3, q4, q5⟩ := row6_facts sw.sl
              obtain ⟨fy, y0, y1, y2, y3, y4, y5⟩ := row6_facts sw.res
              have HF := hide (sw.fin (.int .i64 (1 + kd)) (.int .i64 (1 + co)) (.int .i64 (0)) (.int .i64 (ln)) (.int .i64 (0)) (.int .i64 (da)))
              clear sw
              go_wp2
              refine bodyPost_ret (v := .agg (six (1 + kd) (1 + co) (0) (ln) (0) (da))) (by simp [results, Tryd.results13, go_sem, y0, y1, y2, y3, y4, y5, hne1, hne2]) rfl ⟨_, _, _, _, _, _, rfl, ?_, ?_⟩
              · exact HF.out.1
              · exact HF.out.2
    | true =>
      obtain ⟨fz, q0, q1, q2, q3, q4, q5⟩ := row6_facts sw.sl
      go_wp2_with fail
      clear fz q0 q1 q2 q3 q4 q5
      refine (below_any g 2 _ sw.rd (by decide) (by decide)).mono ?_
      rintro e w38 ⟨wa, rfl, hwa0, hwa1, hr, hg⟩
      replace sw := sw.read hr hg
      clear hr hg
      have hwk : wrap64 (1 + wa) = 1 + wa := Go.IntWalk.wrap64_in _ (by omega)
      obtain ⟨fz, q0, q1, q2, q3, q4, q5⟩ := row6_facts sw.sl
      go_wp2_with fail
      replace sw := sw.put 4 (1 + wa) rfl
      clear fz q0 q1 q2 q3 q4 q5
      refine (l2Holds_any _ _ (by omega) (by omega)).mono ?_
      rintro e w39 ⟨rfl, rfl⟩
      cases hd : dataB (1 + kd) with
      | false =>
        obtain ⟨fz, q0, q1, q2, q3, q4, q5⟩ := row6_facts sw.sl
        go_wp2_with fail
        clear fz q0 q1 q2 q3 q4 q5
        refine (below_any g 30 _ sw.rd (by decide) (by decide)).mono ?_
        rintro e w40 ⟨t, rfl, _, _, hr, hg⟩
        replace sw := sw.read hr hg
        clear hr hg
        by_cases t7 : t = 27
        · subst t7
          obtain ⟨fz, q0, q1, q2, q3, q4, q5⟩ := row6_facts sw.sl
          go_wp2_with fail
          clear fz q0 q1 q2 q3 q4 q5
          refine (off_any g 1 9 _ sw.rd (by decide) (by decide) (by decide)).mono ?_
          rintro e w41 ⟨z, rfl, hr, hg⟩
          replace sw := sw.read hr hg
          clear hr hg
          obtain ⟨fz, q0, q1, q2, q3, q4, q5⟩ := row6_facts sw.sl
          obtain ⟨fy, y0, y1, y2, y3, y4, y5⟩ := row6_facts sw.res
          replace sw := sw.put 0 (z) rfl
          have HF := hide (sw.fin (.int .i64 (z)) (.int .i64 (1 + co)) (.int .i64 (0)) (.int .i64 (ln)) (.int .i64 (1 + wa)) (.int .i64 (0)))
          clear sw
          go_wp2
          refine bodyPost_ret (v := .agg (six (z) (1 + co) (0) (ln) (1 + wa) (0))) (by simp [results, Tryd.results13, go_sem, y0, y1, y2, y3, y4, y5, hne1, hne2]) rfl ⟨_, _, _, _, _, _, rfl, ?_, ?_⟩
          · exact HF.out.1
          · exact HF.out.2
        · have t7b : (t == 27) = false := by simp [t7]
          clear t7
          by_cases t8 : t = 28
          · subst t8
            obtain ⟨fz, q0, q1, q2, q3, q4, q5⟩ := row6_facts sw.sl
            go_wp2_with fail
            clear fz q0 q1 q2 q3 q4 q5
            refine (off_any g 0 3 _ sw.rd (by decide) (by decide) (by decide)).mono ?_
            rintro e w42 ⟨z, rfl, hr, hg⟩
            replace sw := sw.read hr hg
            clear hr hg
            obtain ⟨fz, q0, q1, q2, q3, q4, q5⟩ := row6_facts sw.sl
            obtain ⟨fy, y0, y1, y2, y3, y4, y5⟩ := row6_facts sw.res
            replace sw := sw.put 3 (z) rfl
            have HF := hide (sw.fin (.int .i64 (1 + kd)) (.int .i64 (1 + co)) (.int .i64 (0)) (.int .i64 (z)) (.int .i64 (1 + wa)) (.int .i64 (0)))
            clear sw
            go_wp2
            refine bodyPost_ret (v := .agg (six (1 + kd) (1 + co) (0) (z) (1 + wa) (0))) (by simp [results, Tryd.results13, go_sem, y0, y1, y2, y3, y4, y5, hne1, hne2]) rfl ⟨_, _, _, _, _, _, rfl, ?_, ?_⟩
            · exact HF.out.1
            · exact HF.out.2
          · have t8b : (t == 28) = false := by simp [t8]
            clear t8
            by_cases t9 : t = 29
            · subst t9
              obtain ⟨fz, q0, q1, q2, q3, q4, q5⟩ := row6_facts sw.sl
              go_wp2_with fail
              clear fz q0 q1 q2 q3 q4 q5
              refine (off_any g 0 1000000 _ sw.rd (by decide) (by decide) (by decide)).mono ?_
              rintro e w43 ⟨z, rfl, hr, hg⟩
              replace sw := sw.read hr hg
              clear hr hg
              obtain ⟨fz, q0, q1, q2, q3, q4, q5⟩ := row6_facts sw.sl
              obtain ⟨fy, y0, y1, y2, y3, y4, y5⟩ := row6_facts sw.res
              replace sw := sw.put 5 (z) rfl
              have HF := hide (sw.fin (.int .i64 (1 + kd)) (.int .i64 (1 + co)) (.int .i64 (0)) (.int .i64 (ln)) (.int .i64 (1 + wa)) (.int .i64 (z)))
              clear sw
              go_wp2
              refine bodyPost_ret (v := .agg (six (1 + kd) (1 + co) (0) (ln) (1 + wa) (z))) (by simp [results, Tryd.results13, go_sem, y0, y1, y2, y3, y4, y5, hne1, hne2]) rfl ⟨_, _, _, _, _, _, rfl, ?_, ?_⟩
              · exact HF.out.1
              · exact HF.out.2
            · have t9b : (t == 29) = false := by simp [t9]
              clear t9
              obtain ⟨fz, q0, q1, q2, q3, q4, q5⟩ := row6_facts sw.sl
              obtain ⟨fy, y0, y1, y2, y3, y4, y5⟩ := row6_facts sw.res
              have HF := hide (sw.fin (.int .i64 (1 + kd)) (.int .i64 (1 + co)) (.int .i64 (0)) (.int .i64 (ln)) (.int .i64 (1 + wa)) (.int .i64 (0)))
              clear sw
              go_wp2
              refine bodyPost_ret (v := .agg (six (1 + kd) (1 + co) (0) (ln) (1 + wa) (0))) (by simp [results, Tryd.results13, go_sem, y0, y1, y2, y3, y4, y5, hne1, hne2]) rfl ⟨_, _, _, _, _, _, rfl, ?_, ?_⟩
              · exact HF.out.1
              · exact HF.out.2
      | true =>
        obtain ⟨fz, q0, q1, q2, q3, q4, q5⟩ := row6_facts sw.sl
        go_wp2_with fail
        clear fz q0 q1 q2 q3 q4 q5
        refine (below_any g 50 _ sw.rd (by decide) (by decide)).mono ?_
        rintro e w44 ⟨da, rfl, _, _, hr, hg⟩
        replace sw := sw.read hr hg
        clear hr hg
        obtain ⟨fz, q0, q1, q2, q3, q4, q5⟩ := row6_facts sw.sl
        go_wp2_with fail
        replace sw := sw.put 5 (da) rfl
        clear fz q0 q1 q2 q3 q4 q5
        refine (below_any g 30 _ sw.rd (by decide) (by decide)).mono ?_
        rintro e w45 ⟨t, rfl, _, _, hr, hg⟩
        replace sw := sw.read hr hg
        clear hr hg
        by_cases t7 : t = 27
        · subst t7
          obtain ⟨fz, q0, q1, q2, q3, q4, q5⟩ := row6_facts sw.sl
          go_wp2_with fail
          clear fz q0 q1 q2 q3 q4 q5
          refine (off_any g 1 9 _ sw.rd (by decide) (by decide) (by decide)).mono ?_
          rintro e w46 ⟨z, rfl, hr, hg⟩
          replace sw := sw.read hr hg
          clear hr hg
          obtain ⟨fz, q0, q1, q2, q3, q4, q5⟩ := row6_facts sw.sl
          obtain ⟨fy, y0, y1, y2, y3, y4, y5⟩ := row6_facts sw.res
          replace sw := sw.put 0 (z) rfl
          have HF := hide (sw.fin (.int .i64 (z)) (.int .i64 (1 + co)) (.int .i64 (0)) (.int .i64 (ln)) (.int .i64 (1 + wa)) (.int .i64 (da)))
          clear sw
          go_wp2
          refine bodyPost_ret (v := .agg (six (z) (1 + co) (0) (ln) (1 + wa) (da))) (by simp [results, Tryd.results13, go_sem, y0, y1, y2, y3, y4, y5, hne1, hne2]) rfl ⟨_, _, _, _, _, _, rfl, ?_, ?_⟩
          · exact HF.out.1
          · exact HF.out.2
        · have t7b : (t == 27) = false := by simp [t7]
          clear t7
          by_cases t8 : t = 28
          · subst t8
            obtain ⟨fz, q0, q1, q2, q3, q4, q5⟩ := row6_facts sw.sl
            go_wp2_with fail
            clear fz q0 q1 q2 q3 q4 q5
            refine (off_any g 0 3 _ sw.rd (by decide) (by decide) (by decide)).mono ?_
            rintro e w47 ⟨z, rfl, hr, hg⟩
            replace sw := sw.read hr hg
            clear hr hg
            obtain ⟨fz, q0, q1, q2, q3, q4, q5⟩ := row6_facts sw.sl
            obtain ⟨fy, y0, y1, y2, y3, y4, y5⟩ := row6_facts sw.res
            replace sw := sw.put 3 (z) rfl
            have HF := hide (sw.fin (.int .i64 (1 + kd)) (.int .i64 (1 + co)) (.int .i64 (0)) (.int .i64 (z)) (.int .i64 (1 + wa)) (.int .i64 (da)))
            clear sw
            go_wp2
            refine bodyPost_ret (v := .agg (six (1 + kd) (1 + co) (0) (z) (1 + wa) (da))) (by simp [results, Tryd.results13, go_sem, y0, y1, y2, y3, y4, y5, hne1, hne2]) rfl ⟨_, _, _, _, _, _, rfl, ?_, ?_⟩
            · exact HF.out.1
            · exact HF.out.2
          · have t8b : (t == 28) = false := by simp [t8]
            clear t8
            by_cases t9 : t = 29
            · subst t9
              obtain ⟨fz, q0, q1, q2, q3, q4, q5⟩ := row6_facts sw.sl
              go_wp2_with fail
              clear fz q0 q1 q2 q3 q4 q5
              refine (off_any g 0 1000000 _ sw.rd (by decide) (by decide) (by decide)).mono ?_
              rintro e w48 ⟨z, rfl, hr, hg⟩
              replace sw := sw.read hr hg
              clear hr hg
              obtain ⟨fz, q0, q1, q2, q3, q4, q5⟩ := row6_facts sw.sl
              obtain ⟨fy, y0, y1, y2, y3, y4, y5⟩ := row6_facts sw.res
              replace sw := sw.put 5 (z) rfl
              have HF := hide (sw.fin (.int .i64 (1 + kd)) (.int .i64 (1 + co)) (.int .i64 (0)) (.int .i64 (ln)) (.int .i64 (1 + wa)) (.int .i64 (z)))
              clear sw
              go_wp2
              refine bodyPost_ret (v := .agg (six (1 + kd) (1 + co) (0) (ln) (1 + wa) (z))) (by simp [results, Tryd.results13, go_sem, y0, y1, y2, y3, y4, y5, hne1, hne2]) rfl ⟨_, _, _, _, _, _, rfl, ?_, ?_⟩
              · exact HF.out.1
              · exact HF.out.2
            · have t9b : (t == 29) = false := by simp [t9]
              clear t9
              obtain ⟨fz, q0, q1, q2, q3, q4, q5⟩ := row6_facts sw.sl
              obtain ⟨fy, y0, y1, y2, y3, y4, y5⟩ := row6_facts sw.res
              have HF := hide (sw.fin (.int .i64 (1 + kd)) (.int .i64 (1 + co)) (.int .i64 (0)) (.int .i64 (ln)) (.int .i64 (1 + wa)) (.int .i64 (da)))
              clear sw
              go_wp2
              refine bodyPost_ret (v := .agg (six (1 + kd) (1 + co) (0) (ln) (1 + wa) (da))) (by simp [results, Tryd.results13, go_sem, y0, y1, y2, y3, y4, y5, hne1, hne2]) rfl ⟨_, _, _, _, _, _, rfl, ?_, ?_⟩
              · exact HF.out.1
              · exact HF.out.2

end Go.Proofs.YtpebiebckdmopaaDoor
