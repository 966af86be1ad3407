/- impl.msgReader: message, one shape -/
import Derived.Test.YtpebiebckdmopaaDoorRmC
namespace Go.Proofs.YtpebiebckdmopaaDoor
open Go.RowKit
set_option linter.unusedSimpArgs false

set_option maxRecDepth 20000 in
set_option maxHeartbeats 4000000 in
theorem message_ftt (g : Nat) (w : World) (ws : List (List UInt8)) (h : Rs w g ws) (ht : Tab w) (hg : 0 < g) (k : Nat) (r : List (List UInt8)) (hn : kd1 ws = some (k, r)) (ha : shapeHome k = false) (hb : shapeWant k = true) (hd : shapeData k = true) :
    Calls Tryd.prog 18 #[.pointer (some ⟨g, 0, none⟩)] w fun e w' => ((parse ws = none ∧ e = .panicked gaveUp) ∨ (∃ m, parse ws = some m ∧ e = .returned (aggOf m))) ∧ w.grownBy w' (some g) := by
  have hgl := h.lt
  have hb0 : Below w.heap.size w (w.alloc (.cells #[.int .i64 0, .int .i64 0, .int .i64 0, .int .i64 0, .int .i64 0, .int .i64 0] 25)) := (Below.refl _ _).alloc (Nat.le_refl _) _
  have hk := kd1_range hn
  go_enter Tryd.func18, Tryd.ntmps18
  go_wp2_with fail
  refine (kind_any g _ ws (h.below hb0) (ht.below hb0) hg).mono ?_
  rintro e w1 (⟨hn', rfl, g1⟩ | ⟨k', r', hn', rfl, h1, g1⟩)
  · rw [hn] at hn'; cases hn'
  rw [hn] at hn'
  cases hn'
  have ht1 : Tab w1 := (ht.below hb0).grown g1 (fun k e => by cases e; exact hg)
  obtain ⟨s, _, c0, c1, c2, c3⟩ := ht1 k (by omega)
  rw [show 4 * k = k * 4 by omega] at c0 c1 c2 c3
  rw [ha] at c1
  rw [hb] at c2
  rw [hd] at c3
  have S0 := RS.start (k := (k : Int)) (s := s) (a := false) (b := true) (c := true) hg hgl g1 ht1 h1
  have hki : (k : Int) ≤ 9 := by omega
  have hk0 : (0 : Int) ≤ (k : Int) := by omega
  have h0 : 0 < w1.heap.size := World.block_lt_of_cell? w1 _ c0
  have hsz : w.heap.size < w1.heap.size := S0.RB
  have hgB : g < w1.heap.size := by omega
  have n1 : ¬ w1.heap.size = 0 := by omega
  have n2 : ¬ 0 = w1.heap.size := by omega
  have n3 : ¬ g = w1.heap.size := by omega
  have n4 : ¬ w1.heap.size = g := by omega
  have n5 : ¬ w.heap.size = w1.heap.size := by omega
  have n6 : ¬ w1.heap.size = w.heap.size := by omega
  clear h ht ht1 h1 g1 hb0
  go_wp2_with fail
  refine (number_any g _ _ S0.rs).mono ?_
  rintro e v1 (⟨q1, rfl, g1⟩ | ⟨x1, r1, q1, rfl, h1, g1⟩)
  · go_wp2
    exact ⟨rfl, .inl ⟨by simp [parse, hn, ha, hb, hd, numIf, q1], rfl⟩, rgrown_trans S0.gr g1⟩
  have T1 := S0.next g1 h1
  have S1 : RS _ _ _ _ _ #[.int .i64 (k : Int), .int .i64 0, .int .i64 (x1 : Int), .int .i64 0, .int .i64 0, .int .i64 0] _ _ _ _ _ _ := T1.put 2 (.int .i64 (x1 : Int))
  obtain ⟨fz1, e1a, e1b, e1c⟩ := T1.facts
  obtain ⟨j10, j11, j12, j13, j14, j15⟩ := T1.six
  clear c0 c1 c2 c3
  go_wp2_with fail
  refine (number_any g _ _ S1.rs).mono ?_
  rintro e v2 (⟨q2, rfl, g2⟩ | ⟨x2, r2, q2, rfl, h2, g2⟩)
  · go_wp2
    exact ⟨rfl, .inl ⟨by simp [parse, hn, ha, hb, hd, numIf, q1, q2], rfl⟩, rgrown_trans S1.gr g2⟩
  have T2 := S1.next g2 h2
  have S2 : RS _ _ _ _ _ #[.int .i64 (k : Int), .int .i64 0, .int .i64 (x1 : Int), .int .i64 (x2 : Int), .int .i64 0, .int .i64 0] _ _ _ _ _ _ := T2.put 3 (.int .i64 (x2 : Int))
  obtain ⟨fz2, e2a, e2b, e2c⟩ := T2.facts
  obtain ⟨j20, j21, j22, j23, j24, j25⟩ := T2.six
  clear fz1 e1a e1b e1c j10 j11 j12 j13 j14 j15
  go_wp2_with fail
  refine (number_any g _ _ S2.rs).mono ?_
  rintro e v3 (⟨q3, rfl, g3⟩ | ⟨x3, r3, q3, rfl, h3, g3⟩)
  · go_wp2
    exact ⟨rfl, .inl ⟨by simp [parse, hn, ha, hb, hd, numIf, q1, q2, q3], rfl⟩, rgrown_trans S2.gr g3⟩
  have T3 := S2.next g3 h3
  have S3 : RS _ _ _ _ _ #[.int .i64 (k : Int), .int .i64 0, .int .i64 (x1 : Int), .int .i64 (x2 : Int), .int .i64 (x3 : Int), .int .i64 0] _ _ _ _ _ _ := T3.put 4 (.int .i64 (x3 : Int))
  obtain ⟨fz3, e3a, e3b, e3c⟩ := T3.facts
  obtain ⟨j30, j31, j32, j33, j34, j35⟩ := T3.six
  clear fz2 e2a e2b e2c j20 j21 j22 j23 j24 j25
  go_wp2_with fail
  refine (number_any g _ _ S3.rs).mono ?_
  rintro e v4 (⟨q4, rfl, g4⟩ | ⟨x4, r4, q4, rfl, h4, g4⟩)
  · go_wp2
    exact ⟨rfl, .inl ⟨by simp [parse, hn, ha, hb, hd, numIf, q1, q2, q3, q4], rfl⟩, rgrown_trans S3.gr g4⟩
  have T4 := S3.next g4 h4
  have S4 : RS _ _ _ _ _ #[.int .i64 (k : Int), .int .i64 0, .int .i64 (x1 : Int), .int .i64 (x2 : Int), .int .i64 (x3 : Int), .int .i64 (x4 : Int)] _ _ _ _ _ _ := T4.put 5 (.int .i64 (x4 : Int))
  obtain ⟨fz4, e4a, e4b, e4c⟩ := T4.facts
  obtain ⟨j40, j41, j42, j43, j44, j45⟩ := T4.six
  clear fz3 e3a e3b e3c j30 j31 j32 j33 j34 j35
  obtain ⟨ad, cap, hh, _⟩ := T4.rs
  have hcg : v4.cell? ⟨g, 0, none⟩ = some (.slice ad r4.length cap) := by rw [cell_of_row _ g 0 _ _ _ hh]; rfl
  clear hh
  cases hr : r4 with
  | cons y ys =>
    rw [hr] at hcg
    have hpos : (0 : Int) < ((ys.length : Int) + 1) := by omega
    go_wp2
    exact ⟨rfl, .inl ⟨by simp [parse, hn, ha, hb, hd, numIf, q1, q2, q3, q4, lastly, hr], rfl⟩, S4.gr⟩
  | nil =>
    rw [hr] at hcg
    go_wp2_with fail
    refine (implOk_any _ _ _ _ _ _ _ S4.tab).mono ?_
    rintro e u ⟨rfl, hbu⟩
    have gu := rgrown_of_below hbu
    have U := S4.next (r := r4) ⟨gu.os, gu.tape, gu.output, gu.size, fun k hk _ => gu.block k hk (by simp)⟩ (S4.rs.below hbu)
    obtain ⟨j0, j1, j2, j3, j4, j5⟩ := U.six
    have fR := U.resF
    obtain ⟨i0, i1, i2, i3, i4, i5⟩ := U.res
    have HP := hide (U.fin)
    clear fz4 e4a e4b e4c j40 j41 j42 j43 j44 j45 hcg gu hbu
    cases hok : okB (k : Int) 0 (x1 : Int) (x2 : Int) (x3 : Int) (x4 : Int) with
    | false =>
      go_wp2
      exact ⟨rfl, .inl ⟨by simp [parse, hn, ha, hb, hd, numIf, q1, q2, q3, q4, lastly, hr, ok6, hok], rfl⟩, U.gr⟩
    | true =>
      have HM : Hid (parse ws = some ((k : Int), 0, (x1 : Int), (x2 : Int), (x3 : Int), (x4 : Int))) := hide (by simp [parse, hn, ha, hb, hd, numIf, q1, q2, q3, q4, lastly, hr, ok6, hok])
      go_wp2
      refine bodyPost_ret (v := aggOf ((k : Int), 0, (x1 : Int), (x2 : Int), (x3 : Int), (x4 : Int))) (by simp [results, Tryd.results18, go_sem, i0, i1, i2, i3, i4, i5]) rfl ⟨.inr ⟨_, HM.out, rfl⟩, HP.out _ _ _ _ _ _⟩

end Go.Proofs.YtpebiebckdmopaaDoor
