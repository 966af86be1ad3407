/- DrawCoreGot (written by mkRdN.py) -/
import Derived.Test.YtjhaloeahidplaaDoorRdM
import Derived.Test.YtjhaloeahidplaaDoorRdT
namespace Go.Proofs.YtjhaloeahidplaaDoor
open Go.RowKit
set_option linter.unusedVariables false
set_option linter.unusedSimpArgs false

set_option maxHeartbeats 400000 in
theorem l2Core_all (k : Int) (w : World) : Calls Tryd.prog 83 #[.int .i64 k] w fun e w' => ∃ b : Bool, e = .returned (.bool b) ∧ w' = w := by
  by_cases h1 : k = 1 ∨ k = 2 ∨ k = 3 ∨ k = 6 ∨ k = 7
  · rcases h1 with rfl | rfl | rfl | rfl | rfl
    all_goals
      go_enter Tryd.func83, Tryd.ntmps83
      go_wp2
      go_ret
      exact ⟨_, rfl, rfl⟩
  · have e1 : (k == 1) = false := by simp; omega
    have e2 : (k == 2) = false := by simp; omega
    have e3 : (k == 3) = false := by simp; omega
    have e6 : (k == 6) = false := by simp; omega
    have e7 : (k == 7) = false := by simp; omega
    clear h1
    go_enter Tryd.func83, Tryd.ntmps83
    go_wp2
    go_ret
    exact ⟨_, rfl, rfl⟩

/-- the world of a slot and a message that were drawn: the results' blocks, the reader, the two blocks -/
structure GW (w0 w : World) (g S M : Nat) (a b c d x0 x1 x2 x3 x4 x5 : Int) : Prop where
  rd : Rdr w g
  bel : Below w0.heap.size w0 w
  r1 : w.heap[w0.heap.size]? = some (.cells (four 0 0 0 0) 33 (0, 0))
  r2 : w.heap[w0.heap.size + 1]? = some (.cells (six 0 0 0 0 0 0) 25 (0, 0))
  sl : w.heap[S]? = some (.cells (four a b c d) 33 (0, 0))
  ms : w.heap[M]? = some (.cells (six x0 x1 x2 x3 x4 x5) 25 (0, 0))
  lg : w0.heap.size + 1 < g
  lS : g < S
  lM : S < M

theorem row4_facts {w : World} {B : Nat} {T : TypeId} {v0 v1 v2 v3 : Value} (h : w.heap[B]? = some (.cells #[v0, v1, v2, v3] T (0, 0))) : (∀ i, w.frozen? ⟨B, i, none⟩ = false) ∧ w.cell? ⟨B, 0, none⟩ = some v0 ∧ w.cell? ⟨B, 1, none⟩ = some v1 ∧ w.cell? ⟨B, 2, none⟩ = some v2 ∧ w.cell? ⟨B, 3, none⟩ = some v3 :=
  ⟨fun i => frozen_of_row _ _ i _ _ h, (cell_of_row _ _ _ _ _ _ h).trans rfl, (cell_of_row _ _ _ _ _ _ h).trans rfl, (cell_of_row _ _ _ _ _ _ h).trans rfl, (cell_of_row _ _ _ _ _ _ h).trans rfl⟩

theorem GW.read {w0 w w' : World} {g S M : Nat} {a b c d x0 x1 x2 x3 x4 x5 : Int} (h : GW w0 w g S M a b c d x0 x1 x2 x3 x4 x5) (hr : Rdr w' g) (hg : w.grownBy w' (some g)) : GW w0 w' g S M a b c d x0 x1 x2 x3 x4 x5 := by
  have hlt : M < w.heap.size := lt_of_block h.ms
  have h1 := h.lg
  have h2 := h.lS
  have h3 := h.lM
  refine ⟨hr, below_read h.bel hg (by omega) (by omega), ?_, ?_, ?_, ?_, h1, h2, h3⟩
  · rw [hg.block _ (by omega) (fun e => by simp at e; omega)]; exact h.r1
  · rw [hg.block _ (by omega) (fun e => by simp at e; omega)]; exact h.r2
  · rw [hg.block _ (by omega) (fun e => by simp at e; omega)]; exact h.sl
  · rw [hg.block _ hlt (fun e => by simp at e; omega)]; exact h.ms

theorem GW.put {w0 w : World} {g S M : Nat} {a b c d x0 x1 x2 x3 x4 x5 : Int} (h : GW w0 w g S M a b c d x0 x1 x2 x3 x4 x5) (y0 y1 y2 y3 y4 y5 : Int) :
    GW w0 ((((((w.setCell ⟨M, 0, none⟩ (.int .i64 y0)).setCell ⟨M, 1, none⟩ (.int .i64 y1)).setCell ⟨M, 2, none⟩ (.int .i64 y2)).setCell ⟨M, 3, none⟩ (.int .i64 y3)).setCell ⟨M, 4, none⟩ (.int .i64 y4)).setCell ⟨M, 5, none⟩ (.int .i64 y5)) g S M a b c d y0 y1 y2 y3 y4 y5 := by
  have h1 := h.lg
  have h2 := h.lS
  have h3 := h.lM
  have hB : w0.heap.size ≤ M := by omega
  refine ⟨h.rd.grown (grown_trans (grown_trans (grown_trans (grown_trans (grown_trans (gr_set w M 0 _) (gr_set _ M 1 _)) (gr_set _ M 2 _)) (gr_set _ M 3 _)) (gr_set _ M 4 _)) (gr_set _ M 5 _)) (fun k hk => by simp only [Option.some.injEq] at hk; omega), (((((h.bel.setCell hB _).setCell hB _).setCell hB _).setCell hB _).setCell hB _).setCell hB _, ?_, ?_, ?_, ?_, h1, h2, h3⟩
  · rw [Go.Deep.blk_setCell_other _ _ _ _ (by show w0.heap.size ≠ M; omega), Go.Deep.blk_setCell_other _ _ _ _ (by show w0.heap.size ≠ M; omega), Go.Deep.blk_setCell_other _ _ _ _ (by show w0.heap.size ≠ M; omega), Go.Deep.blk_setCell_other _ _ _ _ (by show w0.heap.size ≠ M; omega), Go.Deep.blk_setCell_other _ _ _ _ (by show w0.heap.size ≠ M; omega), Go.Deep.blk_setCell_other _ _ _ _ (by show w0.heap.size ≠ M; omega)]; exact h.r1
  · rw [Go.Deep.blk_setCell_other _ _ _ _ (by show w0.heap.size + 1 ≠ M; omega), Go.Deep.blk_setCell_other _ _ _ _ (by show w0.heap.size + 1 ≠ M; omega), Go.Deep.blk_setCell_other _ _ _ _ (by show w0.heap.size + 1 ≠ M; omega), Go.Deep.blk_setCell_other _ _ _ _ (by show w0.heap.size + 1 ≠ M; omega), Go.Deep.blk_setCell_other _ _ _ _ (by show w0.heap.size + 1 ≠ M; omega), Go.Deep.blk_setCell_other _ _ _ _ (by show w0.heap.size + 1 ≠ M; omega)]; exact h.r2
  · rw [Go.Deep.blk_setCell_other _ _ _ _ (by show S ≠ M; omega), Go.Deep.blk_setCell_other _ _ _ _ (by show S ≠ M; omega), Go.Deep.blk_setCell_other _ _ _ _ (by show S ≠ M; omega), Go.Deep.blk_setCell_other _ _ _ _ (by show S ≠ M; omega), Go.Deep.blk_setCell_other _ _ _ _ (by show S ≠ M; omega), Go.Deep.blk_setCell_other _ _ _ _ (by show S ≠ M; omega)]; exact h.sl
  · rw [heap_setCell_same _ _ 5 _ _ _ (heap_setCell_same _ _ 4 _ _ _ (heap_setCell_same _ _ 3 _ _ _ (heap_setCell_same _ _ 2 _ _ _ (heap_setCell_same _ _ 1 _ _ _ (heap_setCell_same _ _ 0 _ _ _ h.ms)))))]; rfl

theorem gw_start {w w1 w2 w3 : World} {g : Nat} {a b c d x0 x1 x2 x3 x4 x5 : Int} (hg0 : ((w.alloc (.cells (four 0 0 0 0) 33)).alloc (.cells (six 0 0 0 0 0 0) 25)).heap.size ≤ g)
    (hb : Below ((w.alloc (.cells (four 0 0 0 0) 33)).alloc (.cells (six 0 0 0 0 0 0) 25)).heap.size ((w.alloc (.cells (four 0 0 0 0) 33)).alloc (.cells (six 0 0 0 0 0 0) 25)) w1)
    (hr2 : Rdr w2 g) (hg2 : w1.grownBy w2 (some g)) (hg3 : (w2.alloc (.cells (four a b c d) 33)).grownBy w3 (some g)) (hr : Rdr w3 g) :
    GW w (w3.alloc (.cells (six x0 x1 x2 x3 x4 x5) 25)) g w2.heap.size w3.heap.size a b c d x0 x1 x2 x3 x4 x5 := by
  have hz := hb.size
  have hz2 := hg2.size
  have hz3 := hg3.size
  simp only [World.size_alloc] at hz hg0 hz3
  have hgl := hr2.lt
  have hb0 : Below w.heap.size w w1 := (((Below.refl _ _).alloc (Nat.le_refl _) _).alloc (by simp) _).trans (hb.mono (by simp; omega))
  have hb2 : Below w.heap.size w (w2.alloc (.cells (four a b c d) 33)) := (below_read hb0 hg2 (by omega) (by omega)).alloc (by omega) _
  refine ⟨hr.grown (grown_alloc _ _ none) (fun k hk => by cases hk), (below_read hb2 hg3 (by omega) (by simp; omega)).alloc (by omega) _, ?_, ?_, ?_, heap_alloc_new _ _, by omega, hgl, by omega⟩
  · rw [Below.heap_alloc _ _ _ (by omega), hg3.block _ (by simp; omega) (fun e => by simp at e; omega), Below.heap_alloc _ _ _ (by omega), hg2.block _ (by omega) (fun e => by simp at e; omega), hb.block _ (by simp; omega), Below.heap_alloc _ _ _ (by simp)]
    exact heap_alloc_new _ _
  · rw [Below.heap_alloc _ _ _ (by omega), hg3.block _ (by simp; omega) (fun e => by simp at e; omega), Below.heap_alloc _ _ _ (by omega), hg2.block _ (by omega) (fun e => by simp at e; omega), hb.block _ (by simp)]
    have := heap_alloc_new (w.alloc (.cells (four 0 0 0 0) 33)) (.cells (six 0 0 0 0 0 0) 25)
    simpa only [World.size_alloc] using this
  · rw [Below.heap_alloc _ _ _ (by omega), hg3.block _ (by simp) (fun e => by simp at e; omega)]
    exact heap_alloc_new _ _

theorem below_put10 {w w1 : World} (hb : Below w.heap.size w w1) (v0 v1 v2 v3 u0 u1 u2 u3 u4 u5 : Value) : Below w.heap.size w ((((((((((w1.setCell ⟨w.heap.size, 0, none⟩ v0).setCell ⟨w.heap.size, 1, none⟩ v1).setCell ⟨w.heap.size, 2, none⟩ v2).setCell ⟨w.heap.size, 3, none⟩ v3).setCell ⟨w.heap.size + 1, 0, none⟩ u0).setCell ⟨w.heap.size + 1, 1, none⟩ u1).setCell ⟨w.heap.size + 1, 2, none⟩ u2).setCell ⟨w.heap.size + 1, 3, none⟩ u3).setCell ⟨w.heap.size + 1, 4, none⟩ u4).setCell ⟨w.heap.size + 1, 5, none⟩ u5).drew := by
  have h1 : w.heap.size ≤ w.heap.size + 1 := Nat.le_succ _
  have h0 : w.heap.size ≤ w.heap.size := Nat.le_refl _
  exact ((((((((((hb.setCell h0 _).setCell h0 _).setCell h0 _).setCell h0 _).setCell h1 _).setCell h1 _).setCell h1 _).setCell h1 _).setCell h1 _).setCell h1 _).drew
theorem gw_end {w0 w : World} {g S M : Nat} {a b c d x0 x1 x2 x3 x4 x5 : Int} (h : GW w0 w g S M a b c d x0 x1 x2 x3 x4 x5) : Below w0.heap.size w0 w := h.bel

set_option maxHeartbeats 4000000 in
theorem drawCoreGot_any (ad : Option Addr) (n cap : Nat) (w : World) (hb : Bt w ad n) (hn : n ≤ 1048576) :
    Calls Tryd.prog 32 #[.slice ad n cap] w fun e w' => ∃ a b c d x0 x1 x2 x3 x4 x5 : Int, e = .returned (.tuple #[.agg (four a b c d), .agg (six x0 x1 x2 x3 x4 x5)]) ∧ Below w.heap.size w w' := by
  have hb' : Bt ((w.alloc (.cells (four 0 0 0 0) 33)).alloc (.cells (six 0 0 0 0 0 0) 25)) ad n := by
    intro h0
    obtain ⟨b, off, rfl, hc⟩ := hb h0
    refine ⟨b, off, rfl, fun j hj => ?_⟩
    obtain ⟨c, h1, h2, h3⟩ := hc j hj
    exact ⟨c, h1, h2, Below.keep (((Below.refl _ w).alloc (Nat.le_refl _) _).alloc (by simp) _) _ _ h3⟩
  clear hb
  go_enter Tryd.func32, Tryd.ntmps32
  go_wp2_with fail
  refine (open_any ad n cap _ hb' hn).mono ?_
  rintro e w1 ⟨g, rfl, hg1, hr1, hb1⟩
  clear hb'
  go_wp2_with fail
  refine (slot_any g _ hr1).mono ?_
  rintro e w2 ⟨a, b, c, d, rfl, hr2, hg2⟩
  go_wp2_with fail
  refine (msg_any g _ (hr2.grown (grown_alloc _ _ none) (fun k hk => by cases hk))).mono ?_
  rintro e w3 ⟨x0, x1, x2, x3, x4, x5, rfl, hr3, hg3⟩
  have gw := gw_start (a := a) (b := b) (c := c) (d := d) (x0 := x0) (x1 := x1) (x2 := x2) (x3 := x3) (x4 := x4) (x5 := x5) hg1 hb1 hr2 hg2 hg3 hr3
  clear hg1 hb1 hg2 hr2 hr1 hg3 hr3
  go_wp2
  go_loopw [7] (fun i wr => ∃ k : Nat, k ≤ 4 ∧ i = .int .i64 k ∧ ∃ y0 y1 y2 y3 y4 y5, GW w wr g w2.heap.size w3.heap.size a b c d y0 y1 y2 y3 y4 y5) (fun i _ => 4 - (intOf i).toNat)
  case atStart => exact ⟨0, by omega, rfl, _, _, _, _, _, _, gw⟩
  case round =>
    obtain ⟨k, hk, rfl, y0, y1, y2, y3, y4, y5, gk⟩ := hrel
    clear gw
    by_cases hlt : k < 4
    · obtain ⟨_, m0, m1, m2, m3, m4, m5⟩ := row6_facts gk.ms
      go_wp2_with fail
      refine (l2Core_all _ _).mono ?_
      rintro e w5 ⟨t, rfl, rfl⟩
      cases t with
      | true =>
        go_wp2_with fail
        refine (msg_any g _ gk.rd).mono ?_
        rintro e w6 ⟨z0, z1, z2, z3, z4, z5, rfl, hr, hg⟩
        replace gk := gk.read hr hg
        clear hr hg m0 m1 m2 m3 m4 m5
        obtain ⟨fm, m0, m1, m2, m3, m4, m5⟩ := row6_facts gk.ms
        have HP := hide (gk.put z0 z1 z2 z3 z4 z5)
        clear gk
        go_wp2
        go_roundw
        case rel => exact ⟨k + 1, by omega, by go_num, _, _, _, _, _, _, HP.out⟩
        case measure => simp [intOf]; omega
      | false =>
        clear m0 m1 m2 m3 m4 m5
        obtain ⟨_, s0, s1, s2, s3⟩ := row4_facts gk.sl
        obtain ⟨_, m0, m1, m2, m3, m4, m5⟩ := row6_facts gk.ms
        obtain ⟨f1, p0, p1, p2, p3⟩ := row4_facts gk.r1
        obtain ⟨f2, q0, q1, q2, q3, q4, q5⟩ := row6_facts gk.r2
        have hn0 : ¬ w.heap.size = w2.heap.size := by have h1 := gk.lg; have h2 := gk.lS; have h3 := gk.lM; omega
        have hn1 : ¬ w2.heap.size = w.heap.size := by have h1 := gk.lg; have h2 := gk.lS; have h3 := gk.lM; omega
        have hn2 : ¬ w.heap.size = w3.heap.size := by have h1 := gk.lg; have h2 := gk.lS; have h3 := gk.lM; omega
        have hn3 : ¬ w3.heap.size = w.heap.size := by have h1 := gk.lg; have h2 := gk.lS; have h3 := gk.lM; omega
        have hn4 : ¬ w.heap.size + 1 = w2.heap.size := by have h1 := gk.lg; have h2 := gk.lS; have h3 := gk.lM; omega
        have hn5 : ¬ w2.heap.size = w.heap.size + 1 := by have h1 := gk.lg; have h2 := gk.lS; have h3 := gk.lM; omega
        have hn6 : ¬ w.heap.size + 1 = w3.heap.size := by have h1 := gk.lg; have h2 := gk.lS; have h3 := gk.lM; omega
        have hn7 : ¬ w3.heap.size = w.heap.size + 1 := by have h1 := gk.lg; have h2 := gk.lS; have h3 := gk.lM; omega
        have HB := hide gk.bel
        clear gk
        go_wp2
        go_region
        all_goals go_wp2
        all_goals refine bodyPost_ret (v := .tuple #[.agg (four a b c d), .agg (six y0 y1 y2 y3 y4 y5)]) (by simp [results, Tryd.results32, go_sem, Act.put, p0, p1, p2, p3, q0, q1, q2, q3, q4, q5]) rfl ⟨_, _, _, _, _, _, _, _, _, _, rfl, ?_⟩
        all_goals have hB1 : w.heap.size ≤ w.heap.size + 1 := Nat.le_succ _
        all_goals exact below_put10 HB.out _ _ _ _ _ _ _ _ _ _
    · have hd : decide ((k : Int) < 4) = false := by simp; omega
      obtain ⟨_, s0, s1, s2, s3⟩ := row4_facts gk.sl
      obtain ⟨_, m0, m1, m2, m3, m4, m5⟩ := row6_facts gk.ms
      obtain ⟨f1, p0, p1, p2, p3⟩ := row4_facts gk.r1
      obtain ⟨f2, q0, q1, q2, q3, q4, q5⟩ := row6_facts gk.r2
      have hn0 : ¬ w.heap.size = w2.heap.size := by have h1 := gk.lg; have h2 := gk.lS; have h3 := gk.lM; omega
      have hn1 : ¬ w2.heap.size = w.heap.size := by have h1 := gk.lg; have h2 := gk.lS; have h3 := gk.lM; omega
      have hn2 : ¬ w.heap.size = w3.heap.size := by have h1 := gk.lg; have h2 := gk.lS; have h3 := gk.lM; omega
      have hn3 : ¬ w3.heap.size = w.heap.size := by have h1 := gk.lg; have h2 := gk.lS; have h3 := gk.lM; omega
      have hn4 : ¬ w.heap.size + 1 = w2.heap.size := by have h1 := gk.lg; have h2 := gk.lS; have h3 := gk.lM; omega
      have hn5 : ¬ w2.heap.size = w.heap.size + 1 := by have h1 := gk.lg; have h2 := gk.lS; have h3 := gk.lM; omega
      have hn6 : ¬ w.heap.size + 1 = w3.heap.size := by have h1 := gk.lg; have h2 := gk.lS; have h3 := gk.lM; omega
      have hn7 : ¬ w3.heap.size = w.heap.size + 1 := by have h1 := gk.lg; have h2 := gk.lS; have h3 := gk.lM; omega
      have HB := hide gk.bel
      clear gk
      go_wp2
      go_region
      all_goals go_wp2
      all_goals refine bodyPost_ret (v := .tuple #[.agg (four a b c d), .agg (six y0 y1 y2 y3 y4 y5)]) (by simp [results, Tryd.results32, go_sem, Act.put, p0, p1, p2, p3, q0, q1, q2, q3, q4, q5]) rfl ⟨_, _, _, _, _, _, _, _, _, _, rfl, ?_⟩
      all_goals have hB1 : w.heap.size ≤ w.heap.size + 1 := Nat.le_succ _
      all_goals exact below_put10 HB.out _ _ _ _ _ _ _ _ _ _

end Go.Proofs.YtjhaloeahidplaaDoor
