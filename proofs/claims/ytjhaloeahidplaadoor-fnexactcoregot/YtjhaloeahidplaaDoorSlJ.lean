/- spec.l3Form, spec.Left, spec.Stored by the same results (written by mkSlJ.py) -/
import Derived.Test.YtjhaloeahidplaaDoorSlI
import Derived.Test.YtjhaloeahidplaaDoorSlB
namespace Go.Proofs.YtjhaloeahidplaaDoor
open Go.RowKit
set_option linter.unusedVariables false

theorem l3To_b (k c l d : Int) (w : World) : Calls Tryd.prog 91 #[.int .i64 k, .int .i64 c, .int .i64 l, .int .i64 d] w fun e w' => e = .returned (.slice (some ⟨w.heap.size, 0, none⟩) 1 1) ∧ Below w.heap.size w w' ∧ Holds6 w' w.heap.size k c 0 l 0 d :=
  (l3To_any k c l d w).mono fun e w' ⟨h1, h2⟩ => ⟨h1, by rw [h2]; exact (Below.refl _ _).alloc (Nat.le_refl _) _, by rw [h2]; exact holds6_alloc _ _ _ _ _ _ _ rfl⟩

set_option maxHeartbeats 400000 in
theorem l3Form_any (core line : Int) (w : World) : Calls Tryd.prog 90 #[.int .i64 core, .int .i64 line] w fun e w' => e = .returned (.bool (frm core line)) ∧ w' = w := by
  cases hc : inB core 1 5 with
  | false =>
    have HR := hide (frm_no (line := line) hc)
    go_enter Tryd.func90, Tryd.ntmps90
    go_wp2_with fail
    refine (in_any _ _ _ _).mono ?_
    rintro e w1 ⟨rfl, rfl⟩
    rw [hc]
    go_wp2
    go_ret
    exact ⟨ret_bool HR.out.symm, rfl⟩
  | true =>
    have HR := hide (frm_yes (line := line) hc)
    go_enter Tryd.func90, Tryd.ntmps90
    go_wp2_with fail
    refine (in_any _ _ _ _).mono ?_
    rintro e w1 ⟨rfl, rfl⟩
    rw [hc]
    go_wp2_with fail
    refine (in_any _ _ _ _).mono ?_
    rintro e w1 ⟨rfl, rfl⟩
    generalize inB line 0 3 = b at HR
    go_wp2
    go_ret
    exact ⟨ret_bool HR.out.symm, rfl⟩

set_option maxHeartbeats 400000 in
theorem spSt_no (st d wt v core line x : Int) (w : World) (hok : slB st d wt v = false) : Calls Tryd.prog 31 #[slV st d wt v, .int .i64 core, .int .i64 line, .int .i64 x] w fun e w' => ∃ tv, e = .returned (.tuple #[slV 0 0 0 0, tv, .int .i64 1]) ∧ Below w.heap.size w w' ∧ Told w' w.heap.size tv 0 core line 0 := by
  have HB0 := hide (((Below.refl w.heap.size w).alloc (Nat.le_refl _) (.cells #[.int .i64 st, .int .i64 d, .int .i64 wt, .int .i64 v] 33)).alloc (by simp) (.cells #[.int .i64 0, .int .i64 0, .int .i64 0, .int .i64 0] 33))
  go_enter Tryd.func31, Tryd.ntmps31
  go_wp2_with fail
  refine (specSlotOk_any _ _ _ _ _).mono ?_
  rintro e w1 ⟨rfl, hb1⟩
  obtain ⟨a1, c1, f1⟩ := two4 (w := w) hb1 (by simp)
  have g1 := (at4 (B := w.heap.size) hb1 (by simp; omega)).2
  have HB1 := hide (HB0.out.trans (hb1.mono HB0.out.size))
  have hz : w.heap.size + 1 < w1.heap.size := by have := hb1.size; simp at this; omega
  clear hb1
  rw [hok]
  go_wp2
  refine bodyPost_ret (v := .tuple #[slV 0 0 0 0, .slice none 0 0, .int .i64 1]) (by simp [results, Tryd.results31, go_sem, c1]) rfl ⟨_, rfl, ?_, .inl ⟨rfl, rfl⟩⟩
  refine below_put4 ?_ (Nat.le_succ _) _ _ _ _
  first
  | exact HB1.out
  | exact HB1.out.setCell (by exact Nat.le_refl _) _

set_option maxHeartbeats 400000 in
theorem spSt_f0 (st d wt v core line x : Int) (w : World) (hok : slB st d wt v = true) (hf : frm core line = false) : Calls Tryd.prog 31 #[slV st d wt v, .int .i64 core, .int .i64 line, .int .i64 x] w fun e w' => ∃ tv, e = .returned (.tuple #[slV st d wt v, tv, .int .i64 2]) ∧ Below w.heap.size w w' ∧ Told w' w.heap.size tv 0 core line 0 := by
  have HB0 := hide (((Below.refl w.heap.size w).alloc (Nat.le_refl _) (.cells #[.int .i64 st, .int .i64 d, .int .i64 wt, .int .i64 v] 33)).alloc (by simp) (.cells #[.int .i64 0, .int .i64 0, .int .i64 0, .int .i64 0] 33))
  go_enter Tryd.func31, Tryd.ntmps31
  go_wp2_with fail
  refine (specSlotOk_any _ _ _ _ _).mono ?_
  rintro e w1 ⟨rfl, hb1⟩
  obtain ⟨a1, c1, f1⟩ := two4 (w := w) hb1 (by simp)
  have g1 := (at4 (B := w.heap.size) hb1 (by simp; omega)).2
  have HB1 := hide (HB0.out.trans (hb1.mono HB0.out.size))
  have hz : w.heap.size + 1 < w1.heap.size := by have := hb1.size; simp at this; omega
  clear hb1
  rw [hok]
  go_wp2_with fail
  refine (l3Form_any _ _ _).mono ?_
  rintro e w2 ⟨rfl, rfl⟩
  rw [hf]
  go_wp2
  refine bodyPost_ret (v := .tuple #[slV st d wt v, .slice none 0 0, .int .i64 2]) (by simp [results, Tryd.results31, go_sem, c1]) rfl ⟨_, rfl, ?_, .inl ⟨rfl, rfl⟩⟩
  refine below_put4 ?_ (Nat.le_succ _) _ _ _ _
  first
  | exact HB1.out
  | exact HB1.out.setCell (by exact Nat.le_refl _) _

set_option maxHeartbeats 400000 in
theorem spSt_f1 (st d wt v core line x : Int) (w : World) (hok : slB st d wt v = true) (hf : frm core line = true) (hx : inB x 0 1000000 = false) : Calls Tryd.prog 31 #[slV st d wt v, .int .i64 core, .int .i64 line, .int .i64 x] w fun e w' => ∃ tv, e = .returned (.tuple #[slV st d wt v, tv, .int .i64 2]) ∧ Below w.heap.size w w' ∧ Told w' w.heap.size tv 0 core line 0 := by
  have HB0 := hide (((Below.refl w.heap.size w).alloc (Nat.le_refl _) (.cells #[.int .i64 st, .int .i64 d, .int .i64 wt, .int .i64 v] 33)).alloc (by simp) (.cells #[.int .i64 0, .int .i64 0, .int .i64 0, .int .i64 0] 33))
  go_enter Tryd.func31, Tryd.ntmps31
  go_wp2_with fail
  refine (specSlotOk_any _ _ _ _ _).mono ?_
  rintro e w1 ⟨rfl, hb1⟩
  obtain ⟨a1, c1, f1⟩ := two4 (w := w) hb1 (by simp)
  have g1 := (at4 (B := w.heap.size) hb1 (by simp; omega)).2
  have HB1 := hide (HB0.out.trans (hb1.mono HB0.out.size))
  have hz : w.heap.size + 1 < w1.heap.size := by have := hb1.size; simp at this; omega
  clear hb1
  rw [hok]
  go_wp2_with fail
  refine (l3Form_any _ _ _).mono ?_
  rintro e w2 ⟨rfl, rfl⟩
  rw [hf]
  go_wp2_with fail
  refine (in_any _ _ _ _).mono ?_
  rintro e w2 ⟨rfl, rfl⟩
  rw [hx]
  go_wp2
  refine bodyPost_ret (v := .tuple #[slV st d wt v, .slice none 0 0, .int .i64 2]) (by simp [results, Tryd.results31, go_sem, c1]) rfl ⟨_, rfl, ?_, .inl ⟨rfl, rfl⟩⟩
  refine below_put4 ?_ (Nat.le_succ _) _ _ _ _
  first
  | exact HB1.out
  | exact HB1.out.setCell (by exact Nat.le_refl _) _

set_option maxHeartbeats 400000 in
theorem spSt_O (d core line x : Int) (w : World) (hok : slB 2 d 0 0 = true) (hf : frm core line = true) (hx : inB x 0 1000000 = true) : Calls Tryd.prog 31 #[slV 2 d 0 0, .int .i64 core, .int .i64 line, .int .i64 x] w fun e w' => ∃ tv, e = .returned (.tuple #[slV 2 x 0 0, tv, .int .i64 0]) ∧ Below w.heap.size w w' ∧ Told w' w.heap.size tv 0 core line 0 := by
  have HB0 := hide (((Below.refl w.heap.size w).alloc (Nat.le_refl _) (.cells #[.int .i64 2, .int .i64 d, .int .i64 0, .int .i64 0] 33)).alloc (by simp) (.cells #[.int .i64 0, .int .i64 0, .int .i64 0, .int .i64 0] 33))
  go_enter Tryd.func31, Tryd.ntmps31
  go_wp2_with fail
  refine (specSlotOk_any _ _ _ _ _).mono ?_
  rintro e w1 ⟨rfl, hb1⟩
  obtain ⟨a1, c1, f1⟩ := two4 (w := w) hb1 (by simp)
  have g1 := (at4 (B := w.heap.size) hb1 (by simp; omega)).2
  have HB1 := hide (HB0.out.trans (hb1.mono HB0.out.size))
  have hz : w.heap.size + 1 < w1.heap.size := by have := hb1.size; simp at this; omega
  clear hb1
  rw [hok]
  go_wp2_with fail
  refine (l3Form_any _ _ _).mono ?_
  rintro e w2 ⟨rfl, rfl⟩
  rw [hf]
  go_wp2_with fail
  refine (in_any _ _ _ _).mono ?_
  rintro e w2 ⟨rfl, rfl⟩
  rw [hx]
  go_wp2
  refine bodyPost_ret (v := .tuple #[slV 2 x 0 0, .slice none 0 0, .int .i64 0]) (by simp [results, Tryd.results31, go_sem, c1]) rfl ⟨_, rfl, ?_, .inl ⟨rfl, rfl⟩⟩
  refine below_put4 ?_ (Nat.le_succ _) _ _ _ _
  first
  | exact HB1.out
  | exact HB1.out.setCell (by exact Nat.le_refl _) _

set_option maxHeartbeats 400000 in
theorem spSt_L (d wt v core line x : Int) (w : World) (hok : slB 3 d wt v = true) (hf : frm core line = true) (hx : inB x 0 1000000 = true) : Calls Tryd.prog 31 #[slV 3 d wt v, .int .i64 core, .int .i64 line, .int .i64 x] w fun e w' => ∃ tv, e = .returned (.tuple #[slV 3 d wt v, tv, .int .i64 4]) ∧ Below w.heap.size w w' ∧ Told w' w.heap.size tv 0 core line 0 := by
  have HB0 := hide (((Below.refl w.heap.size w).alloc (Nat.le_refl _) (.cells #[.int .i64 3, .int .i64 d, .int .i64 wt, .int .i64 v] 33)).alloc (by simp) (.cells #[.int .i64 0, .int .i64 0, .int .i64 0, .int .i64 0] 33))
  go_enter Tryd.func31, Tryd.ntmps31
  go_wp2_with fail
  refine (specSlotOk_any _ _ _ _ _).mono ?_
  rintro e w1 ⟨rfl, hb1⟩
  obtain ⟨a1, c1, f1⟩ := two4 (w := w) hb1 (by simp)
  have g1 := (at4 (B := w.heap.size) hb1 (by simp; omega)).2
  have HB1 := hide (HB0.out.trans (hb1.mono HB0.out.size))
  have hz : w.heap.size + 1 < w1.heap.size := by have := hb1.size; simp at this; omega
  clear hb1
  rw [hok]
  go_wp2_with fail
  refine (l3Form_any _ _ _).mono ?_
  rintro e w2 ⟨rfl, rfl⟩
  rw [hf]
  go_wp2_with fail
  refine (in_any _ _ _ _).mono ?_
  rintro e w2 ⟨rfl, rfl⟩
  rw [hx]
  go_wp2
  refine bodyPost_ret (v := .tuple #[slV 3 d wt v, .slice none 0 0, .int .i64 4]) (by simp [results, Tryd.results31, go_sem, c1]) rfl ⟨_, rfl, ?_, .inl ⟨rfl, rfl⟩⟩
  refine below_put4 ?_ (Nat.le_succ _) _ _ _ _
  first
  | exact HB1.out
  | exact HB1.out.setCell (by exact Nat.le_refl _) _

set_option maxHeartbeats 400000 in
theorem spSt_S0 (d v core line x : Int) (w : World) (hok : slB 1 d 0 v = true) (hf : frm core line = true) (hx : inB x 0 1000000 = true) : Calls Tryd.prog 31 #[slV 1 d 0 v, .int .i64 core, .int .i64 line, .int .i64 x] w fun e w' => ∃ tv, e = .returned (.tuple #[slV 1 d 2 x, tv, .int .i64 3]) ∧ Below w.heap.size w w' ∧ Told w' w.heap.size tv 2 core line 0 := by
  have HB0 := hide (((Below.refl w.heap.size w).alloc (Nat.le_refl _) (.cells #[.int .i64 1, .int .i64 d, .int .i64 0, .int .i64 v] 33)).alloc (by simp) (.cells #[.int .i64 0, .int .i64 0, .int .i64 0, .int .i64 0] 33))
  go_enter Tryd.func31, Tryd.ntmps31
  go_wp2_with fail
  refine (specSlotOk_any _ _ _ _ _).mono ?_
  rintro e w1 ⟨rfl, hb1⟩
  obtain ⟨a1, c1, f1⟩ := two4 (w := w) hb1 (by simp)
  have g1 := (at4 (B := w.heap.size) hb1 (by simp; omega)).2
  have HB1 := hide (HB0.out.trans (hb1.mono HB0.out.size))
  have hz : w.heap.size + 1 < w1.heap.size := by have := hb1.size; simp at this; omega
  clear hb1
  rw [hok]
  go_wp2_with fail
  refine (l3Form_any _ _ _).mono ?_
  rintro e w2 ⟨rfl, rfl⟩
  rw [hf]
  go_wp2_with fail
  refine (in_any _ _ _ _).mono ?_
  rintro e w2 ⟨rfl, rfl⟩
  rw [hx]
  have b0 : w2.cell? ⟨w.heap.size, 0, none⟩ = some (.int .i64 1) := (a1 0).trans ((cell_of_row _ _ _ _ _ _ (heap_alloc2_old _ _ _)).trans rfl)
  have r0 : w2.cell? ⟨w.heap.size + 1, 0, none⟩ = some (.int .i64 0) := (c1 0).trans ((cell_of_row _ _ _ _ _ _ (heap_alloc2_new _ _ _)).trans rfl)
  have b1 : w2.cell? ⟨w.heap.size, 1, none⟩ = some (.int .i64 d) := (a1 1).trans ((cell_of_row _ _ _ _ _ _ (heap_alloc2_old _ _ _)).trans rfl)
  have r1 : w2.cell? ⟨w.heap.size + 1, 1, none⟩ = some (.int .i64 0) := (c1 1).trans ((cell_of_row _ _ _ _ _ _ (heap_alloc2_new _ _ _)).trans rfl)
  have b2 : w2.cell? ⟨w.heap.size, 2, none⟩ = some (.int .i64 0) := (a1 2).trans ((cell_of_row _ _ _ _ _ _ (heap_alloc2_old _ _ _)).trans rfl)
  have r2 : w2.cell? ⟨w.heap.size + 1, 2, none⟩ = some (.int .i64 0) := (c1 2).trans ((cell_of_row _ _ _ _ _ _ (heap_alloc2_new _ _ _)).trans rfl)
  have b3 : w2.cell? ⟨w.heap.size, 3, none⟩ = some (.int .i64 v) := (a1 3).trans ((cell_of_row _ _ _ _ _ _ (heap_alloc2_old _ _ _)).trans rfl)
  have r3 : w2.cell? ⟨w.heap.size + 1, 3, none⟩ = some (.int .i64 0) := (c1 3).trans ((cell_of_row _ _ _ _ _ _ (heap_alloc2_new _ _ _)).trans rfl)
  have fz : ∀ i, w2.frozen? ⟨w.heap.size, i, none⟩ = false := fun i => (g1 i).trans (frozen_of_row _ _ _ _ _ (heap_alloc2_old _ _ _))
  have fy : ∀ i, w2.frozen? ⟨w.heap.size + 1, i, none⟩ = false := fun i => (f1 i).trans (frozen_of_row _ _ _ _ _ (heap_alloc2_new _ _ _))
  clear a1 c1 f1 g1
  go_wp2
  go_region_with (go_at_call 91; refine (l3To_b _ _ _ _ _).mono ?_; rintro e w3 ⟨rfl, hb3, hh3⟩; have a3 := fun i => hb3.cell (p := ⟨w.heap.size, i, none⟩) (by simp; omega); have c3 := fun i => hb3.cell (p := ⟨w.heap.size + 1, i, none⟩) (by simp; omega); have f3 := fun i => hb3.frozen (p := ⟨w.heap.size + 1, i, none⟩) (by simp; omega); have hh4 : Holds6 w3 w2.heap.size 2 core 0 line 0 0 := by simpa using hh3)
  all_goals go_wp2
  all_goals refine bodyPost_ret (v := .tuple #[slV 1 d 2 x, .slice (some ⟨w2.heap.size, 0, none⟩) 1 1, .int .i64 3]) (by simp [results, Tryd.results31, go_sem, Act.put, c3, r0, r1, r2, r3]) rfl ⟨_, rfl, ?_, .inr ⟨by decide, w2.heap.size, by omega, rfl, hh4.put4 (by omega) _ _ _ _⟩⟩
  all_goals refine below_put4 (Below.trans ?_ (hb3.mono (by simp; omega))) (Nat.le_succ _) _ _ _ _
  all_goals repeat' (first | exact HB1.out | refine Below.drew ?_ | refine Below.setCell ?_ (by exact Nat.le_refl _) _)

set_option maxHeartbeats 400000 in
theorem spSt_S1 (d wt v core line x : Int) (w : World) (hok : slB 1 d wt v = true) (hf : frm core line = true) (hx : inB x 0 1000000 = true) (n : (wt != 0) = true) : Calls Tryd.prog 31 #[slV 1 d wt v, .int .i64 core, .int .i64 line, .int .i64 x] w fun e w' => ∃ tv, e = .returned (.tuple #[slV 1 d wt v, tv, .int .i64 4]) ∧ Below w.heap.size w w' ∧ Told w' w.heap.size tv 0 core line 0 := by
  have HB0 := hide (((Below.refl w.heap.size w).alloc (Nat.le_refl _) (.cells #[.int .i64 1, .int .i64 d, .int .i64 wt, .int .i64 v] 33)).alloc (by simp) (.cells #[.int .i64 0, .int .i64 0, .int .i64 0, .int .i64 0] 33))
  go_enter Tryd.func31, Tryd.ntmps31
  go_wp2_with fail
  refine (specSlotOk_any _ _ _ _ _).mono ?_
  rintro e w1 ⟨rfl, hb1⟩
  obtain ⟨a1, c1, f1⟩ := two4 (w := w) hb1 (by simp)
  have g1 := (at4 (B := w.heap.size) hb1 (by simp; omega)).2
  have HB1 := hide (HB0.out.trans (hb1.mono HB0.out.size))
  have hz : w.heap.size + 1 < w1.heap.size := by have := hb1.size; simp at this; omega
  clear hb1
  rw [hok]
  go_wp2_with fail
  refine (l3Form_any _ _ _).mono ?_
  rintro e w2 ⟨rfl, rfl⟩
  rw [hf]
  go_wp2_with fail
  refine (in_any _ _ _ _).mono ?_
  rintro e w2 ⟨rfl, rfl⟩
  rw [hx]
  go_wp2
  refine bodyPost_ret (v := .tuple #[slV 1 d wt v, .slice none 0 0, .int .i64 4]) (by simp [results, Tryd.results31, go_sem, c1]) rfl ⟨_, rfl, ?_, .inl ⟨rfl, rfl⟩⟩
  refine below_put4 ?_ (Nat.le_succ _) _ _ _ _
  first
  | exact HB1.out
  | exact HB1.out.setCell (by exact Nat.le_refl _) _

set_option maxHeartbeats 400000 in
theorem spSt_I0 (d v core line x : Int) (w : World) (hok : slB 0 d 0 v = true) (hf : frm core line = true) (hx : inB x 0 1000000 = true) : Calls Tryd.prog 31 #[slV 0 d 0 v, .int .i64 core, .int .i64 line, .int .i64 x] w fun e w' => ∃ tv, e = .returned (.tuple #[slV 0 d 2 x, tv, .int .i64 3]) ∧ Below w.heap.size w w' ∧ Told w' w.heap.size tv 2 core line 0 := by
  have HB0 := hide (((Below.refl w.heap.size w).alloc (Nat.le_refl _) (.cells #[.int .i64 0, .int .i64 d, .int .i64 0, .int .i64 v] 33)).alloc (by simp) (.cells #[.int .i64 0, .int .i64 0, .int .i64 0, .int .i64 0] 33))
  go_enter Tryd.func31, Tryd.ntmps31
  go_wp2_with fail
  refine (specSlotOk_any _ _ _ _ _).mono ?_
  rintro e w1 ⟨rfl, hb1⟩
  obtain ⟨a1, c1, f1⟩ := two4 (w := w) hb1 (by simp)
  have g1 := (at4 (B := w.heap.size) hb1 (by simp; omega)).2
  have HB1 := hide (HB0.out.trans (hb1.mono HB0.out.size))
  have hz : w.heap.size + 1 < w1.heap.size := by have := hb1.size; simp at this; omega
  clear hb1
  rw [hok]
  go_wp2_with fail
  refine (l3Form_any _ _ _).mono ?_
  rintro e w2 ⟨rfl, rfl⟩
  rw [hf]
  go_wp2_with fail
  refine (in_any _ _ _ _).mono ?_
  rintro e w2 ⟨rfl, rfl⟩
  rw [hx]
  have b0 : w2.cell? ⟨w.heap.size, 0, none⟩ = some (.int .i64 0) := (a1 0).trans ((cell_of_row _ _ _ _ _ _ (heap_alloc2_old _ _ _)).trans rfl)
  have r0 : w2.cell? ⟨w.heap.size + 1, 0, none⟩ = some (.int .i64 0) := (c1 0).trans ((cell_of_row _ _ _ _ _ _ (heap_alloc2_new _ _ _)).trans rfl)
  have b1 : w2.cell? ⟨w.heap.size, 1, none⟩ = some (.int .i64 d) := (a1 1).trans ((cell_of_row _ _ _ _ _ _ (heap_alloc2_old _ _ _)).trans rfl)
  have r1 : w2.cell? ⟨w.heap.size + 1, 1, none⟩ = some (.int .i64 0) := (c1 1).trans ((cell_of_row _ _ _ _ _ _ (heap_alloc2_new _ _ _)).trans rfl)
  have b2 : w2.cell? ⟨w.heap.size, 2, none⟩ = some (.int .i64 0) := (a1 2).trans ((cell_of_row _ _ _ _ _ _ (heap_alloc2_old _ _ _)).trans rfl)
  have r2 : w2.cell? ⟨w.heap.size + 1, 2, none⟩ = some (.int .i64 0) := (c1 2).trans ((cell_of_row _ _ _ _ _ _ (heap_alloc2_new _ _ _)).trans rfl)
  have b3 : w2.cell? ⟨w.heap.size, 3, none⟩ = some (.int .i64 v) := (a1 3).trans ((cell_of_row _ _ _ _ _ _ (heap_alloc2_old _ _ _)).trans rfl)
  have r3 : w2.cell? ⟨w.heap.size + 1, 3, none⟩ = some (.int .i64 0) := (c1 3).trans ((cell_of_row _ _ _ _ _ _ (heap_alloc2_new _ _ _)).trans rfl)
  have fz : ∀ i, w2.frozen? ⟨w.heap.size, i, none⟩ = false := fun i => (g1 i).trans (frozen_of_row _ _ _ _ _ (heap_alloc2_old _ _ _))
  have fy : ∀ i, w2.frozen? ⟨w.heap.size + 1, i, none⟩ = false := fun i => (f1 i).trans (frozen_of_row _ _ _ _ _ (heap_alloc2_new _ _ _))
  clear a1 c1 f1 g1
  go_wp2
  go_region_with (go_at_call 91; refine (l3To_b _ _ _ _ _).mono ?_; rintro e w3 ⟨rfl, hb3, hh3⟩; have a3 := fun i => hb3.cell (p := ⟨w.heap.size, i, none⟩) (by simp; omega); have c3 := fun i => hb3.cell (p := ⟨w.heap.size + 1, i, none⟩) (by simp; omega); have f3 := fun i => hb3.frozen (p := ⟨w.heap.size + 1, i, none⟩) (by simp; omega); have hh4 : Holds6 w3 w2.heap.size 2 core 0 line 0 0 := by simpa using hh3)
  all_goals go_wp2
  all_goals refine bodyPost_ret (v := .tuple #[slV 0 d 2 x, .slice (some ⟨w2.heap.size, 0, none⟩) 1 1, .int .i64 3]) (by simp [results, Tryd.results31, go_sem, Act.put, c3, r0, r1, r2, r3]) rfl ⟨_, rfl, ?_, .inr ⟨by decide, w2.heap.size, by omega, rfl, hh4.put4 (by omega) _ _ _ _⟩⟩
  all_goals refine below_put4 (Below.trans ?_ (hb3.mono (by simp; omega))) (Nat.le_succ _) _ _ _ _
  all_goals repeat' (first | exact HB1.out | refine Below.drew ?_ | refine Below.setCell ?_ (by exact Nat.le_refl _) _)

set_option maxHeartbeats 400000 in
theorem spSt_I1 (d wt v core line x : Int) (w : World) (hok : slB 0 d wt v = true) (hf : frm core line = true) (hx : inB x 0 1000000 = true) (n : (wt != 0) = true) : Calls Tryd.prog 31 #[slV 0 d wt v, .int .i64 core, .int .i64 line, .int .i64 x] w fun e w' => ∃ tv, e = .returned (.tuple #[slV 0 d wt v, tv, .int .i64 4]) ∧ Below w.heap.size w w' ∧ Told w' w.heap.size tv 0 core line 0 := by
  have HB0 := hide (((Below.refl w.heap.size w).alloc (Nat.le_refl _) (.cells #[.int .i64 0, .int .i64 d, .int .i64 wt, .int .i64 v] 33)).alloc (by simp) (.cells #[.int .i64 0, .int .i64 0, .int .i64 0, .int .i64 0] 33))
  go_enter Tryd.func31, Tryd.ntmps31
  go_wp2_with fail
  refine (specSlotOk_any _ _ _ _ _).mono ?_
  rintro e w1 ⟨rfl, hb1⟩
  obtain ⟨a1, c1, f1⟩ := two4 (w := w) hb1 (by simp)
  have g1 := (at4 (B := w.heap.size) hb1 (by simp; omega)).2
  have HB1 := hide (HB0.out.trans (hb1.mono HB0.out.size))
  have hz : w.heap.size + 1 < w1.heap.size := by have := hb1.size; simp at this; omega
  clear hb1
  rw [hok]
  go_wp2_with fail
  refine (l3Form_any _ _ _).mono ?_
  rintro e w2 ⟨rfl, rfl⟩
  rw [hf]
  go_wp2_with fail
  refine (in_any _ _ _ _).mono ?_
  rintro e w2 ⟨rfl, rfl⟩
  rw [hx]
  go_wp2
  refine bodyPost_ret (v := .tuple #[slV 0 d wt v, .slice none 0 0, .int .i64 4]) (by simp [results, Tryd.results31, go_sem, c1]) rfl ⟨_, rfl, ?_, .inl ⟨rfl, rfl⟩⟩
  refine below_put4 ?_ (Nat.le_succ _) _ _ _ _
  first
  | exact HB1.out
  | exact HB1.out.setCell (by exact Nat.le_refl _) _


theorem specStored_any (s : Sl4) (core line x : Int) (w : World) : Calls Tryd.prog 31 #[slOf s, .int .i64 core, .int .i64 line, .int .i64 x] w (Answers w (mvd s (frm3 core line x) (storM x s)) core line) := by
  obtain ⟨st, d, wt, v⟩ := s
  cases h : slB st d wt v with
  | false => rw [mvd_no h]; exact spSt_no st d wt v core line x w h
  | true =>
    unfold frm3
    cases hf : frm core line with
    | false => rw [Bool.false_and, mvd_fm h]; exact spSt_f0 st d wt v core line x w h hf
    | true =>
      rw [Bool.true_and]
      cases hx : inB x 0 1000000 with
      | false => rw [mvd_fm h]; exact spSt_f1 st d wt v core line x w h hf hx
      | true =>
        rw [mvd_do h]
        obtain ⟨_, hs⟩ := slB_cases h
        rcases hs with ⟨rfl, rfl, rfl, rfl⟩ | ⟨rfl, rfl, rfl, rfl⟩ | ⟨rfl, rfl, rfl⟩ | ⟨rfl, rfl, rfl⟩ | ⟨rfl, rfl⟩ | ⟨rfl, rfl, rfl⟩ | ⟨rfl, rfl, rfl⟩
        · exact spSt_I0 _ _ core line x w h hf hx
        · exact spSt_I1 _ _ _ core line x w h hf hx rfl
        · exact spSt_I1 _ _ _ core line x w h hf hx rfl
        · exact spSt_S0 _ _ core line x w h hf hx
        · exact spSt_S1 _ _ _ core line x w h hf hx rfl
        · exact spSt_O _ core line x w h hf hx
        · exact spSt_L _ _ _ core line x w h hf hx

end Go.Proofs.YtjhaloeahidplaaDoor
