/- impl.Asked, spec.Asked by their results (written by mkSlA2.py) -/
import Derived.Test.YtjhaloeahidplaaDoorSlJ
import Derived.Deep.RegionWith
namespace Go.Proofs.YtjhaloeahidplaaDoor
open Go.RowKit
set_option linter.unusedVariables false
set_option linter.unusedSimpArgs false

/-- what Asked answers: the value is the data where the code is done -/
def AnswersV (w : World) (m : MR) (vv core line : Int) (e : Ending) (w' : World) : Prop :=
  ∃ tv, e = .returned (.tuple #[slOf m.1, tv, .int .i64 m.2.2.2, .int .i64 vv]) ∧ Below w.heap.size w w' ∧ Told w' w.heap.size tv m.2.1 core line m.2.2.1
theorem Told.drew {w : World} {b0 : Nat} {v : Value} {k core line d : Int} (h : Told w b0 v k core line d) : Told w.drew b0 v k core line d := h
def valOf (m : MR) : Int := if m.2.2.2 = 0 then m.1.2.1 else 0

set_option maxHeartbeats 1000000 in
theorem implAsked_0n (s : Sl4) (core line : Int) (w : World) (n0 n1 n2 n3 k dd c : Int) (mv : Value) (hc : inB core 1 5 = false) (hn : (c != 0) = true)
    (hmv : ∀ w, Calls Tryd.prog 87 #[slOf s, .bool false, .func (.func 88) #[] #[]] w fun e w' => e = .returned mv ∧ Below w.heap.size w w')
    (han : ∀ w, Calls Tryd.prog 89 #[mv, .int .i64 core, .int .i64 line] w fun e w' => ∃ tv, e = .returned (.tuple #[slV n0 n1 n2 n3, tv, .int .i64 c]) ∧ Below w.heap.size w w' ∧ Told w' w.heap.size tv k core line dd) :
    Calls Tryd.prog 24 #[slOf s, .int .i64 core, .int .i64 line] w (AnswersV w ((n0, n1, n2, n3), k, dd, c) 0 core line) := by
  have HB0 := hide (((Below.refl w.heap.size w).alloc (Nat.le_refl _) (.cells #[.int .i64 s.1, .int .i64 s.2.1, .int .i64 s.2.2.1, .int .i64 s.2.2.2] 33)).alloc (by simp) (.cells #[.int .i64 0, .int .i64 0, .int .i64 0, .int .i64 0] 33))
  unfold AnswersV
  go_enter Tryd.func24, Tryd.ntmps24
  go_wp2_with fail
  refine (isCore_any _ _).mono ?_
  rintro e w1 ⟨rfl, rfl⟩
  rw [hc]
  go_wp2_with fail
  refine (hmv _).mono ?_
  rintro e w1 ⟨rfl, hb1⟩
  have a1 : ∀ i, w1.cell? ⟨w.heap.size + 1, i, none⟩ = _ := fun i => hb1.cell (p := ⟨w.heap.size + 1, i, none⟩) (by simp)
  have f1 : ∀ i, w1.frozen? ⟨w.heap.size + 1, i, none⟩ = _ := fun i => hb1.frozen (p := ⟨w.heap.size + 1, i, none⟩) (by simp)
  have HB1 := hide (HB0.out.trans (hb1.mono HB0.out.size))
  have hz : w.heap.size + 1 + 1 ≤ w1.heap.size := by have := hb1.size; simp at this; omega
  clear hb1
  go_wp2_with fail
  refine (han _).mono ?_
  rintro e w2 ⟨tv, rfl, hb2, ht⟩
  have r0 : w2.cell? ⟨w.heap.size + 1, 0, none⟩ = some (.int .i64 0) := (hb2.cell (p := ⟨w.heap.size + 1, 0, none⟩) (by simp; omega)).trans ((a1 0).trans ((cell_of_row _ _ _ _ _ _ (heap_alloc2_new _ _ _)).trans rfl))
  have r1 : w2.cell? ⟨w.heap.size + 1, 1, none⟩ = some (.int .i64 0) := (hb2.cell (p := ⟨w.heap.size + 1, 1, none⟩) (by simp; omega)).trans ((a1 1).trans ((cell_of_row _ _ _ _ _ _ (heap_alloc2_new _ _ _)).trans rfl))
  have r2 : w2.cell? ⟨w.heap.size + 1, 2, none⟩ = some (.int .i64 0) := (hb2.cell (p := ⟨w.heap.size + 1, 2, none⟩) (by simp; omega)).trans ((a1 2).trans ((cell_of_row _ _ _ _ _ _ (heap_alloc2_new _ _ _)).trans rfl))
  have r3 : w2.cell? ⟨w.heap.size + 1, 3, none⟩ = some (.int .i64 0) := (hb2.cell (p := ⟨w.heap.size + 1, 3, none⟩) (by simp; omega)).trans ((a1 3).trans ((cell_of_row _ _ _ _ _ _ (heap_alloc2_new _ _ _)).trans rfl))
  have fy : ∀ i, w2.frozen? ⟨w.heap.size + 1, i, none⟩ = false := fun i => (hb2.frozen (p := ⟨w.heap.size + 1, i, none⟩) (by simp; omega)).trans ((f1 i).trans (frozen_of_row _ _ _ _ _ (heap_alloc2_new _ _ _)))
  have HB2 := hide (HB1.out.trans (hb2.mono HB1.out.size))
  have hz2 : w.heap.size + 1 < w2.heap.size := by have := hb2.size; omega
  have HT := hide ht
  clear hb2 ht hmv han a1 f1
  -- the new box is a block beyond the result's
  have hr : ∀ (v0 v1 v2 v3 : Value) (o : Obj) i, (((((w2.setCell ⟨w.heap.size + 1, 0, none⟩ v0).setCell ⟨w.heap.size + 1, 1, none⟩ v1).setCell ⟨w.heap.size + 1, 2, none⟩ v2).setCell ⟨w.heap.size + 1, 3, none⟩ v3).alloc o).cell? ⟨w.heap.size + 1, i, none⟩ = ((((w2.setCell ⟨w.heap.size + 1, 0, none⟩ v0).setCell ⟨w.heap.size + 1, 1, none⟩ v1).setCell ⟨w.heap.size + 1, 2, none⟩ v2).setCell ⟨w.heap.size + 1, 3, none⟩ v3).cell? ⟨w.heap.size + 1, i, none⟩ :=
    fun v0 v1 v2 v3 o i => ((Below.refl _ _).alloc (Nat.le_refl _) o).cell (p := ⟨w.heap.size + 1, i, none⟩) (by simpa [Go.Deep.nblk_setCell] using hz2)
  go_wp2
  all_goals refine bodyPost_ret (v := .tuple #[slV n0 n1 n2 n3, tv, .int .i64 c, .int .i64 0]) (by simp [results, Tryd.results24, go_sem, Act.put, hr, r0, r1, r2, r3]) rfl ⟨tv, rfl, ?_, ?_⟩
  all_goals first
    | exact (below_put4 HB2.out (Nat.le_succ _) _ _ _ _).alloc (by simp; omega) _
    | exact ((below_put4 HB2.out (Nat.le_succ _) _ _ _ _).alloc (by simp; omega) _).drew
    | exact (((HT.out.low (b1 := w.heap.size + 1 + 1) hz).put4 (Nat.lt_succ_self _) _ _ _ _).next ((Below.refl _ _).alloc (Nat.le_refl _) _)).low (Nat.le_trans (Nat.le_succ _) (Nat.le_succ _))
    | exact ((((HT.out.low (b1 := w.heap.size + 1 + 1) hz).put4 (Nat.lt_succ_self _) _ _ _ _).next ((Below.refl _ _).alloc (Nat.le_refl _) _)).low (Nat.le_trans (Nat.le_succ _) (Nat.le_succ _))).drew
    | trace_state

set_option maxHeartbeats 1000000 in
theorem implAsked_1z (s : Sl4) (core line : Int) (w : World) (n0 n1 n2 n3 k dd c : Int) (mv : Value) (hc : inB core 1 5 = true)
    (hmv : ∀ w, Calls Tryd.prog 87 #[slOf s, .bool (inB line 0 3), .func (.func 88) #[] #[]] w fun e w' => e = .returned mv ∧ Below w.heap.size w w')
    (han : ∀ w, Calls Tryd.prog 89 #[mv, .int .i64 core, .int .i64 line] w fun e w' => ∃ tv, e = .returned (.tuple #[slV n0 n1 n2 n3, tv, .int .i64 0]) ∧ Below w.heap.size w w' ∧ Told w' w.heap.size tv k core line dd) :
    Calls Tryd.prog 24 #[slOf s, .int .i64 core, .int .i64 line] w (AnswersV w ((n0, n1, n2, n3), k, dd, 0) n1 core line) := by
  have HB0 := hide (((Below.refl w.heap.size w).alloc (Nat.le_refl _) (.cells #[.int .i64 s.1, .int .i64 s.2.1, .int .i64 s.2.2.1, .int .i64 s.2.2.2] 33)).alloc (by simp) (.cells #[.int .i64 0, .int .i64 0, .int .i64 0, .int .i64 0] 33))
  unfold AnswersV
  go_enter Tryd.func24, Tryd.ntmps24
  go_wp2_with fail
  refine (isCore_any _ _).mono ?_
  rintro e w1 ⟨rfl, rfl⟩
  rw [hc]
  go_wp2_with fail
  refine (isLine_any _ _).mono ?_
  rintro e w1 ⟨rfl, rfl⟩
  go_wp2_with fail
  refine (hmv _).mono ?_
  rintro e w1 ⟨rfl, hb1⟩
  have a1 : ∀ i, w1.cell? ⟨w.heap.size + 1, i, none⟩ = _ := fun i => hb1.cell (p := ⟨w.heap.size + 1, i, none⟩) (by simp)
  have f1 : ∀ i, w1.frozen? ⟨w.heap.size + 1, i, none⟩ = _ := fun i => hb1.frozen (p := ⟨w.heap.size + 1, i, none⟩) (by simp)
  have HB1 := hide (HB0.out.trans (hb1.mono HB0.out.size))
  have hz : w.heap.size + 1 + 1 ≤ w1.heap.size := by have := hb1.size; simp at this; omega
  clear hb1
  go_wp2_with fail
  refine (han _).mono ?_
  rintro e w2 ⟨tv, rfl, hb2, ht⟩
  have r0 : w2.cell? ⟨w.heap.size + 1, 0, none⟩ = some (.int .i64 0) := (hb2.cell (p := ⟨w.heap.size + 1, 0, none⟩) (by simp; omega)).trans ((a1 0).trans ((cell_of_row _ _ _ _ _ _ (heap_alloc2_new _ _ _)).trans rfl))
  have r1 : w2.cell? ⟨w.heap.size + 1, 1, none⟩ = some (.int .i64 0) := (hb2.cell (p := ⟨w.heap.size + 1, 1, none⟩) (by simp; omega)).trans ((a1 1).trans ((cell_of_row _ _ _ _ _ _ (heap_alloc2_new _ _ _)).trans rfl))
  have r2 : w2.cell? ⟨w.heap.size + 1, 2, none⟩ = some (.int .i64 0) := (hb2.cell (p := ⟨w.heap.size + 1, 2, none⟩) (by simp; omega)).trans ((a1 2).trans ((cell_of_row _ _ _ _ _ _ (heap_alloc2_new _ _ _)).trans rfl))
  have r3 : w2.cell? ⟨w.heap.size + 1, 3, none⟩ = some (.int .i64 0) := (hb2.cell (p := ⟨w.heap.size + 1, 3, none⟩) (by simp; omega)).trans ((a1 3).trans ((cell_of_row _ _ _ _ _ _ (heap_alloc2_new _ _ _)).trans rfl))
  have fy : ∀ i, w2.frozen? ⟨w.heap.size + 1, i, none⟩ = false := fun i => (hb2.frozen (p := ⟨w.heap.size + 1, i, none⟩) (by simp; omega)).trans ((f1 i).trans (frozen_of_row _ _ _ _ _ (heap_alloc2_new _ _ _)))
  have HB2 := hide (HB1.out.trans (hb2.mono HB1.out.size))
  have hz2 : w.heap.size + 1 < w2.heap.size := by have := hb2.size; omega
  have HT := hide ht
  clear hb2 ht hmv han a1 f1
  -- the new box is a block beyond the result's
  have hr : ∀ (v0 v1 v2 v3 : Value) (o : Obj) i, (((((w2.setCell ⟨w.heap.size + 1, 0, none⟩ v0).setCell ⟨w.heap.size + 1, 1, none⟩ v1).setCell ⟨w.heap.size + 1, 2, none⟩ v2).setCell ⟨w.heap.size + 1, 3, none⟩ v3).alloc o).cell? ⟨w.heap.size + 1, i, none⟩ = ((((w2.setCell ⟨w.heap.size + 1, 0, none⟩ v0).setCell ⟨w.heap.size + 1, 1, none⟩ v1).setCell ⟨w.heap.size + 1, 2, none⟩ v2).setCell ⟨w.heap.size + 1, 3, none⟩ v3).cell? ⟨w.heap.size + 1, i, none⟩ :=
    fun v0 v1 v2 v3 o i => ((Below.refl _ _).alloc (Nat.le_refl _) o).cell (p := ⟨w.heap.size + 1, i, none⟩) (by simpa [Go.Deep.nblk_setCell] using hz2)
  go_wp2
  go_region
  all_goals go_wp2
  all_goals refine bodyPost_ret (v := .tuple #[slV n0 n1 n2 n3, tv, .int .i64 0, .int .i64 n1]) (by simp [results, Tryd.results24, go_sem, Act.put, hr, r0, r1, r2, r3]) rfl ⟨tv, rfl, ?_, ?_⟩
  all_goals first
    | exact (below_put4 HB2.out (Nat.le_succ _) _ _ _ _).alloc (by simp; omega) _
    | exact ((below_put4 HB2.out (Nat.le_succ _) _ _ _ _).alloc (by simp; omega) _).drew
    | exact (((HT.out.low (b1 := w.heap.size + 1 + 1) hz).put4 (Nat.lt_succ_self _) _ _ _ _).next ((Below.refl _ _).alloc (Nat.le_refl _) _)).low (Nat.le_trans (Nat.le_succ _) (Nat.le_succ _))
    | exact ((((HT.out.low (b1 := w.heap.size + 1 + 1) hz).put4 (Nat.lt_succ_self _) _ _ _ _).next ((Below.refl _ _).alloc (Nat.le_refl _) _)).low (Nat.le_trans (Nat.le_succ _) (Nat.le_succ _))).drew
    | trace_state

set_option maxHeartbeats 1000000 in
theorem implAsked_0z (s : Sl4) (core line : Int) (w : World) (n0 n1 n2 n3 k dd c : Int) (mv : Value) (hc : inB core 1 5 = false)
    (hmv : ∀ w, Calls Tryd.prog 87 #[slOf s, .bool false, .func (.func 88) #[] #[]] w fun e w' => e = .returned mv ∧ Below w.heap.size w w')
    (han : ∀ w, Calls Tryd.prog 89 #[mv, .int .i64 core, .int .i64 line] w fun e w' => ∃ tv, e = .returned (.tuple #[slV n0 n1 n2 n3, tv, .int .i64 0]) ∧ Below w.heap.size w w' ∧ Told w' w.heap.size tv k core line dd) :
    Calls Tryd.prog 24 #[slOf s, .int .i64 core, .int .i64 line] w (AnswersV w ((n0, n1, n2, n3), k, dd, 0) n1 core line) := by
  have HB0 := hide (((Below.refl w.heap.size w).alloc (Nat.le_refl _) (.cells #[.int .i64 s.1, .int .i64 s.2.1, .int .i64 s.2.2.1, .int .i64 s.2.2.2] 33)).alloc (by simp) (.cells #[.int .i64 0, .int .i64 0, .int .i64 0, .int .i64 0] 33))
  unfold AnswersV
  go_enter Tryd.func24, Tryd.ntmps24
  go_wp2_with fail
  refine (isCore_any _ _).mono ?_
  rintro e w1 ⟨rfl, rfl⟩
  rw [hc]
  go_wp2_with fail
  refine (hmv _).mono ?_
  rintro e w1 ⟨rfl, hb1⟩
  have a1 : ∀ i, w1.cell? ⟨w.heap.size + 1, i, none⟩ = _ := fun i => hb1.cell (p := ⟨w.heap.size + 1, i, none⟩) (by simp)
  have f1 : ∀ i, w1.frozen? ⟨w.heap.size + 1, i, none⟩ = _ := fun i => hb1.frozen (p := ⟨w.heap.size + 1, i, none⟩) (by simp)
  have HB1 := hide (HB0.out.trans (hb1.mono HB0.out.size))
  have hz : w.heap.size + 1 + 1 ≤ w1.heap.size := by have := hb1.size; simp at this; omega
  clear hb1
  go_wp2_with fail
  refine (han _).mono ?_
  rintro e w2 ⟨tv, rfl, hb2, ht⟩
  have r0 : w2.cell? ⟨w.heap.size + 1, 0, none⟩ = some (.int .i64 0) := (hb2.cell (p := ⟨w.heap.size + 1, 0, none⟩) (by simp; omega)).trans ((a1 0).trans ((cell_of_row _ _ _ _ _ _ (heap_alloc2_new _ _ _)).trans rfl))
  have r1 : w2.cell? ⟨w.heap.size + 1, 1, none⟩ = some (.int .i64 0) := (hb2.cell (p := ⟨w.heap.size + 1, 1, none⟩) (by simp; omega)).trans ((a1 1).trans ((cell_of_row _ _ _ _ _ _ (heap_alloc2_new _ _ _)).trans rfl))
  have r2 : w2.cell? ⟨w.heap.size + 1, 2, none⟩ = some (.int .i64 0) := (hb2.cell (p := ⟨w.heap.size + 1, 2, none⟩) (by simp; omega)).trans ((a1 2).trans ((cell_of_row _ _ _ _ _ _ (heap_alloc2_new _ _ _)).trans rfl))
  have r3 : w2.cell? ⟨w.heap.size + 1, 3, none⟩ = some (.int .i64 0) := (hb2.cell (p := ⟨w.heap.size + 1, 3, none⟩) (by simp; omega)).trans ((a1 3).trans ((cell_of_row _ _ _ _ _ _ (heap_alloc2_new _ _ _)).trans rfl))
  have fy : ∀ i, w2.frozen? ⟨w.heap.size + 1, i, none⟩ = false := fun i => (hb2.frozen (p := ⟨w.heap.size + 1, i, none⟩) (by simp; omega)).trans ((f1 i).trans (frozen_of_row _ _ _ _ _ (heap_alloc2_new _ _ _)))
  have HB2 := hide (HB1.out.trans (hb2.mono HB1.out.size))
  have hz2 : w.heap.size + 1 < w2.heap.size := by have := hb2.size; omega
  have HT := hide ht
  clear hb2 ht hmv han a1 f1
  -- the new box is a block beyond the result's
  have hr : ∀ (v0 v1 v2 v3 : Value) (o : Obj) i, (((((w2.setCell ⟨w.heap.size + 1, 0, none⟩ v0).setCell ⟨w.heap.size + 1, 1, none⟩ v1).setCell ⟨w.heap.size + 1, 2, none⟩ v2).setCell ⟨w.heap.size + 1, 3, none⟩ v3).alloc o).cell? ⟨w.heap.size + 1, i, none⟩ = ((((w2.setCell ⟨w.heap.size + 1, 0, none⟩ v0).setCell ⟨w.heap.size + 1, 1, none⟩ v1).setCell ⟨w.heap.size + 1, 2, none⟩ v2).setCell ⟨w.heap.size + 1, 3, none⟩ v3).cell? ⟨w.heap.size + 1, i, none⟩ :=
    fun v0 v1 v2 v3 o i => ((Below.refl _ _).alloc (Nat.le_refl _) o).cell (p := ⟨w.heap.size + 1, i, none⟩) (by simpa [Go.Deep.nblk_setCell] using hz2)
  go_wp2
  go_region
  all_goals go_wp2
  all_goals refine bodyPost_ret (v := .tuple #[slV n0 n1 n2 n3, tv, .int .i64 0, .int .i64 n1]) (by simp [results, Tryd.results24, go_sem, Act.put, hr, r0, r1, r2, r3]) rfl ⟨tv, rfl, ?_, ?_⟩
  all_goals first
    | exact (below_put4 HB2.out (Nat.le_succ _) _ _ _ _).alloc (by simp; omega) _
    | exact ((below_put4 HB2.out (Nat.le_succ _) _ _ _ _).alloc (by simp; omega) _).drew
    | exact (((HT.out.low (b1 := w.heap.size + 1 + 1) hz).put4 (Nat.lt_succ_self _) _ _ _ _).next ((Below.refl _ _).alloc (Nat.le_refl _) _)).low (Nat.le_trans (Nat.le_succ _) (Nat.le_succ _))
    | exact ((((HT.out.low (b1 := w.heap.size + 1 + 1) hz).put4 (Nat.lt_succ_self _) _ _ _ _).next ((Below.refl _ _).alloc (Nat.le_refl _) _)).low (Nat.le_trans (Nat.le_succ _) (Nat.le_succ _))).drew
    | trace_state

set_option maxHeartbeats 1000000 in
theorem implAsked_1n (s : Sl4) (core line : Int) (w : World) (n0 n1 n2 n3 k dd c : Int) (mv : Value) (hc : inB core 1 5 = true) (hn : (c != 0) = true)
    (hmv : ∀ w, Calls Tryd.prog 87 #[slOf s, .bool (inB line 0 3), .func (.func 88) #[] #[]] w fun e w' => e = .returned mv ∧ Below w.heap.size w w')
    (han : ∀ w, Calls Tryd.prog 89 #[mv, .int .i64 core, .int .i64 line] w fun e w' => ∃ tv, e = .returned (.tuple #[slV n0 n1 n2 n3, tv, .int .i64 c]) ∧ Below w.heap.size w w' ∧ Told w' w.heap.size tv k core line dd) :
    Calls Tryd.prog 24 #[slOf s, .int .i64 core, .int .i64 line] w (AnswersV w ((n0, n1, n2, n3), k, dd, c) 0 core line) := by
  have HB0 := hide (((Below.refl w.heap.size w).alloc (Nat.le_refl _) (.cells #[.int .i64 s.1, .int .i64 s.2.1, .int .i64 s.2.2.1, .int .i64 s.2.2.2] 33)).alloc (by simp) (.cells #[.int .i64 0, .int .i64 0, .int .i64 0, .int .i64 0] 33))
  unfold AnswersV
  go_enter Tryd.func24, Tryd.ntmps24
  go_wp2_with fail
  refine (isCore_any _ _).mono ?_
  rintro e w1 ⟨rfl, rfl⟩
  rw [hc]
  go_wp2_with fail
  refine (isLine_any _ _).mono ?_
  rintro e w1 ⟨rfl, rfl⟩
  go_wp2_with fail
  refine (hmv _).mono ?_
  rintro e w1 ⟨rfl, hb1⟩
  have a1 : ∀ i, w1.cell? ⟨w.heap.size + 1, i, none⟩ = _ := fun i => hb1.cell (p := ⟨w.heap.size + 1, i, none⟩) (by simp)
  have f1 : ∀ i, w1.frozen? ⟨w.heap.size + 1, i, none⟩ = _ := fun i => hb1.frozen (p := ⟨w.heap.size + 1, i, none⟩) (by simp)
  have HB1 := hide (HB0.out.trans (hb1.mono HB0.out.size))
  have hz : w.heap.size + 1 + 1 ≤ w1.heap.size := by have := hb1.size; simp at this; omega
  clear hb1
  go_wp2_with fail
  refine (han _).mono ?_
  rintro e w2 ⟨tv, rfl, hb2, ht⟩
  have r0 : w2.cell? ⟨w.heap.size + 1, 0, none⟩ = some (.int .i64 0) := (hb2.cell (p := ⟨w.heap.size + 1, 0, none⟩) (by simp; omega)).trans ((a1 0).trans ((cell_of_row _ _ _ _ _ _ (heap_alloc2_new _ _ _)).trans rfl))
  have r1 : w2.cell? ⟨w.heap.size + 1, 1, none⟩ = some (.int .i64 0) := (hb2.cell (p := ⟨w.heap.size + 1, 1, none⟩) (by simp; omega)).trans ((a1 1).trans ((cell_of_row _ _ _ _ _ _ (heap_alloc2_new _ _ _)).trans rfl))
  have r2 : w2.cell? ⟨w.heap.size + 1, 2, none⟩ = some (.int .i64 0) := (hb2.cell (p := ⟨w.heap.size + 1, 2, none⟩) (by simp; omega)).trans ((a1 2).trans ((cell_of_row _ _ _ _ _ _ (heap_alloc2_new _ _ _)).trans rfl))
  have r3 : w2.cell? ⟨w.heap.size + 1, 3, none⟩ = some (.int .i64 0) := (hb2.cell (p := ⟨w.heap.size + 1, 3, none⟩) (by simp; omega)).trans ((a1 3).trans ((cell_of_row _ _ _ _ _ _ (heap_alloc2_new _ _ _)).trans rfl))
  have fy : ∀ i, w2.frozen? ⟨w.heap.size + 1, i, none⟩ = false := fun i => (hb2.frozen (p := ⟨w.heap.size + 1, i, none⟩) (by simp; omega)).trans ((f1 i).trans (frozen_of_row _ _ _ _ _ (heap_alloc2_new _ _ _)))
  have HB2 := hide (HB1.out.trans (hb2.mono HB1.out.size))
  have hz2 : w.heap.size + 1 < w2.heap.size := by have := hb2.size; omega
  have HT := hide ht
  clear hb2 ht hmv han a1 f1
  -- the new box is a block beyond the result's
  have hr : ∀ (v0 v1 v2 v3 : Value) (o : Obj) i, (((((w2.setCell ⟨w.heap.size + 1, 0, none⟩ v0).setCell ⟨w.heap.size + 1, 1, none⟩ v1).setCell ⟨w.heap.size + 1, 2, none⟩ v2).setCell ⟨w.heap.size + 1, 3, none⟩ v3).alloc o).cell? ⟨w.heap.size + 1, i, none⟩ = ((((w2.setCell ⟨w.heap.size + 1, 0, none⟩ v0).setCell ⟨w.heap.size + 1, 1, none⟩ v1).setCell ⟨w.heap.size + 1, 2, none⟩ v2).setCell ⟨w.heap.size + 1, 3, none⟩ v3).cell? ⟨w.heap.size + 1, i, none⟩ :=
    fun v0 v1 v2 v3 o i => ((Below.refl _ _).alloc (Nat.le_refl _) o).cell (p := ⟨w.heap.size + 1, i, none⟩) (by simpa [Go.Deep.nblk_setCell] using hz2)
  go_wp2
  all_goals refine bodyPost_ret (v := .tuple #[slV n0 n1 n2 n3, tv, .int .i64 c, .int .i64 0]) (by simp [results, Tryd.results24, go_sem, Act.put, hr, r0, r1, r2, r3]) rfl ⟨tv, rfl, ?_, ?_⟩
  all_goals first
    | exact (below_put4 HB2.out (Nat.le_succ _) _ _ _ _).alloc (by simp; omega) _
    | exact ((below_put4 HB2.out (Nat.le_succ _) _ _ _ _).alloc (by simp; omega) _).drew
    | exact (((HT.out.low (b1 := w.heap.size + 1 + 1) hz).put4 (Nat.lt_succ_self _) _ _ _ _).next ((Below.refl _ _).alloc (Nat.le_refl _) _)).low (Nat.le_trans (Nat.le_succ _) (Nat.le_succ _))
    | exact ((((HT.out.low (b1 := w.heap.size + 1 + 1) hz).put4 (Nat.lt_succ_self _) _ _ _ _).next ((Below.refl _ _).alloc (Nat.le_refl _) _)).low (Nat.le_trans (Nat.le_succ _) (Nat.le_succ _))).drew
    | trace_state

set_option maxHeartbeats 400000 in
theorem spAsk_no (st d wt v core line : Int) (w : World) (hok : slB st d wt v = false) : Calls Tryd.prog 25 #[slV st d wt v, .int .i64 core, .int .i64 line] w fun e w' => ∃ tv, e = .returned (.tuple #[slV 0 0 0 0, tv, .int .i64 1, .int .i64 0]) ∧ Below w.heap.size w w' ∧ Told w' w.heap.size tv 0 core line 0 := by
  have HB0 := hide (((Below.refl w.heap.size w).alloc (Nat.le_refl _) (.cells #[.int .i64 st, .int .i64 d, .int .i64 wt, .int .i64 v] 33)).alloc (by simp) (.cells #[.int .i64 0, .int .i64 0, .int .i64 0, .int .i64 0] 33))
  go_enter Tryd.func25, Tryd.ntmps25
  go_wp2_with fail
  refine (specSlotOk_any _ _ _ _ _).mono ?_
  rintro e w1 ⟨rfl, hb1⟩
  obtain ⟨a1, c1, f1⟩ := two4 (w := w) hb1 (by simp)
  have g1 := (at4 (B := w.heap.size) hb1 (by simp; omega)).2
  have HB1 := hide (HB0.out.trans (hb1.mono HB0.out.size))
  have hz : w.heap.size + 1 < w1.heap.size := by have := hb1.size; simp at this; omega
  clear hb1
  rw [hok]
  go_wp2
  refine bodyPost_ret (v := .tuple #[slV 0 0 0 0, .slice none 0 0, .int .i64 1, .int .i64 0]) (by simp [results, Tryd.results25, go_sem, c1]) rfl ⟨_, rfl, ?_, .inl ⟨rfl, rfl⟩⟩
  refine below_put4 ?_ (Nat.le_succ _) _ _ _ _
  first
  | exact HB1.out
  | exact HB1.out.setCell (by exact Nat.le_refl _) _

set_option maxHeartbeats 400000 in
theorem spAsk_fm (st d wt v core line : Int) (w : World) (hok : slB st d wt v = true) (hf : frm core line = false) : Calls Tryd.prog 25 #[slV st d wt v, .int .i64 core, .int .i64 line] w fun e w' => ∃ tv, e = .returned (.tuple #[slV st d wt v, tv, .int .i64 2, .int .i64 0]) ∧ Below w.heap.size w w' ∧ Told w' w.heap.size tv 0 core line 0 := by
  have HB0 := hide (((Below.refl w.heap.size w).alloc (Nat.le_refl _) (.cells #[.int .i64 st, .int .i64 d, .int .i64 wt, .int .i64 v] 33)).alloc (by simp) (.cells #[.int .i64 0, .int .i64 0, .int .i64 0, .int .i64 0] 33))
  go_enter Tryd.func25, Tryd.ntmps25
  go_wp2_with fail
  refine (specSlotOk_any _ _ _ _ _).mono ?_
  rintro e w1 ⟨rfl, hb1⟩
  obtain ⟨a1, c1, f1⟩ := two4 (w := w) hb1 (by simp)
  have g1 := (at4 (B := w.heap.size) hb1 (by simp; omega)).2
  have HB1 := hide (HB0.out.trans (hb1.mono HB0.out.size))
  have hz : w.heap.size + 1 < w1.heap.size := by have := hb1.size; simp at this; omega
  clear hb1
  rw [hok]
  go_wp2_with fail
  refine (l3Form_any _ _ _).mono ?_
  rintro e w2 ⟨rfl, rfl⟩
  rw [hf]
  go_wp2
  refine bodyPost_ret (v := .tuple #[slV st d wt v, .slice none 0 0, .int .i64 2, .int .i64 0]) (by simp [results, Tryd.results25, go_sem, c1]) rfl ⟨_, rfl, ?_, .inl ⟨rfl, rfl⟩⟩
  refine below_put4 ?_ (Nat.le_succ _) _ _ _ _
  first
  | exact HB1.out
  | exact HB1.out.setCell (by exact Nat.le_refl _) _

set_option maxHeartbeats 400000 in
theorem spAsk_S (d wt v core line : Int) (w : World) (hok : slB 1 d wt v = true) (hf : frm core line = true) : Calls Tryd.prog 25 #[slV 1 d wt v, .int .i64 core, .int .i64 line] w fun e w' => ∃ tv, e = .returned (.tuple #[slV 1 d wt v, tv, .int .i64 0, .int .i64 d]) ∧ Below w.heap.size w w' ∧ Told w' w.heap.size tv 0 core line 0 := by
  have HB0 := hide (((Below.refl w.heap.size w).alloc (Nat.le_refl _) (.cells #[.int .i64 1, .int .i64 d, .int .i64 wt, .int .i64 v] 33)).alloc (by simp) (.cells #[.int .i64 0, .int .i64 0, .int .i64 0, .int .i64 0] 33))
  go_enter Tryd.func25, Tryd.ntmps25
  go_wp2_with fail
  refine (specSlotOk_any _ _ _ _ _).mono ?_
  rintro e w1 ⟨rfl, hb1⟩
  obtain ⟨a1, c1, f1⟩ := two4 (w := w) hb1 (by simp)
  have g1 := (at4 (B := w.heap.size) hb1 (by simp; omega)).2
  have HB1 := hide (HB0.out.trans (hb1.mono HB0.out.size))
  have hz : w.heap.size + 1 < w1.heap.size := by have := hb1.size; simp at this; omega
  clear hb1
  rw [hok]
  go_wp2_with fail
  refine (l3Form_any _ _ _).mono ?_
  rintro e w2 ⟨rfl, rfl⟩
  rw [hf]
  have b0 : w2.cell? ⟨w.heap.size, 0, none⟩ = some (.int .i64 1) := (a1 0).trans ((cell_of_row _ _ _ _ _ _ (heap_alloc2_old _ _ _)).trans rfl)
  have r0 : w2.cell? ⟨w.heap.size + 1, 0, none⟩ = some (.int .i64 0) := (c1 0).trans ((cell_of_row _ _ _ _ _ _ (heap_alloc2_new _ _ _)).trans rfl)
  have b1 : w2.cell? ⟨w.heap.size, 1, none⟩ = some (.int .i64 d) := (a1 1).trans ((cell_of_row _ _ _ _ _ _ (heap_alloc2_old _ _ _)).trans rfl)
  have r1 : w2.cell? ⟨w.heap.size + 1, 1, none⟩ = some (.int .i64 0) := (c1 1).trans ((cell_of_row _ _ _ _ _ _ (heap_alloc2_new _ _ _)).trans rfl)
  have b2 : w2.cell? ⟨w.heap.size, 2, none⟩ = some (.int .i64 wt) := (a1 2).trans ((cell_of_row _ _ _ _ _ _ (heap_alloc2_old _ _ _)).trans rfl)
  have r2 : w2.cell? ⟨w.heap.size + 1, 2, none⟩ = some (.int .i64 0) := (c1 2).trans ((cell_of_row _ _ _ _ _ _ (heap_alloc2_new _ _ _)).trans rfl)
  have b3 : w2.cell? ⟨w.heap.size, 3, none⟩ = some (.int .i64 v) := (a1 3).trans ((cell_of_row _ _ _ _ _ _ (heap_alloc2_old _ _ _)).trans rfl)
  have r3 : w2.cell? ⟨w.heap.size + 1, 3, none⟩ = some (.int .i64 0) := (c1 3).trans ((cell_of_row _ _ _ _ _ _ (heap_alloc2_new _ _ _)).trans rfl)
  have fy : ∀ i, w2.frozen? ⟨w.heap.size + 1, i, none⟩ = false := fun i => (f1 i).trans (frozen_of_row _ _ _ _ _ (heap_alloc2_new _ _ _))
  clear a1 c1 f1 g1
  go_wp2
  go_region
  all_goals go_wp2
  all_goals refine bodyPost_ret (v := .tuple #[slV 1 d wt v, .slice none 0 0, .int .i64 0, .int .i64 d]) (by simp [results, Tryd.results25, go_sem, Act.put, r0, r1, r2, r3]) rfl ⟨_, rfl, ?_, .inl ⟨rfl, rfl⟩⟩
  all_goals first
    | exact below_put4 HB1.out (Nat.le_succ _) _ _ _ _
    | exact (below_put4 HB1.out (Nat.le_succ _) _ _ _ _).drew
    | exact below_put4 HB1.out.drew (Nat.le_succ _) _ _ _ _

set_option maxHeartbeats 400000 in
theorem spAsk_O (d wt v core line : Int) (w : World) (hok : slB 2 d wt v = true) (hf : frm core line = true) : Calls Tryd.prog 25 #[slV 2 d wt v, .int .i64 core, .int .i64 line] w fun e w' => ∃ tv, e = .returned (.tuple #[slV 2 d wt v, tv, .int .i64 0, .int .i64 d]) ∧ Below w.heap.size w w' ∧ Told w' w.heap.size tv 0 core line 0 := by
  have HB0 := hide (((Below.refl w.heap.size w).alloc (Nat.le_refl _) (.cells #[.int .i64 2, .int .i64 d, .int .i64 wt, .int .i64 v] 33)).alloc (by simp) (.cells #[.int .i64 0, .int .i64 0, .int .i64 0, .int .i64 0] 33))
  go_enter Tryd.func25, Tryd.ntmps25
  go_wp2_with fail
  refine (specSlotOk_any _ _ _ _ _).mono ?_
  rintro e w1 ⟨rfl, hb1⟩
  obtain ⟨a1, c1, f1⟩ := two4 (w := w) hb1 (by simp)
  have g1 := (at4 (B := w.heap.size) hb1 (by simp; omega)).2
  have HB1 := hide (HB0.out.trans (hb1.mono HB0.out.size))
  have hz : w.heap.size + 1 < w1.heap.size := by have := hb1.size; simp at this; omega
  clear hb1
  rw [hok]
  go_wp2_with fail
  refine (l3Form_any _ _ _).mono ?_
  rintro e w2 ⟨rfl, rfl⟩
  rw [hf]
  have b0 : w2.cell? ⟨w.heap.size, 0, none⟩ = some (.int .i64 2) := (a1 0).trans ((cell_of_row _ _ _ _ _ _ (heap_alloc2_old _ _ _)).trans rfl)
  have r0 : w2.cell? ⟨w.heap.size + 1, 0, none⟩ = some (.int .i64 0) := (c1 0).trans ((cell_of_row _ _ _ _ _ _ (heap_alloc2_new _ _ _)).trans rfl)
  have b1 : w2.cell? ⟨w.heap.size, 1, none⟩ = some (.int .i64 d) := (a1 1).trans ((cell_of_row _ _ _ _ _ _ (heap_alloc2_old _ _ _)).trans rfl)
  have r1 : w2.cell? ⟨w.heap.size + 1, 1, none⟩ = some (.int .i64 0) := (c1 1).trans ((cell_of_row _ _ _ _ _ _ (heap_alloc2_new _ _ _)).trans rfl)
  have b2 : w2.cell? ⟨w.heap.size, 2, none⟩ = some (.int .i64 wt) := (a1 2).trans ((cell_of_row _ _ _ _ _ _ (heap_alloc2_old _ _ _)).trans rfl)
  have r2 : w2.cell? ⟨w.heap.size + 1, 2, none⟩ = some (.int .i64 0) := (c1 2).trans ((cell_of_row _ _ _ _ _ _ (heap_alloc2_new _ _ _)).trans rfl)
  have b3 : w2.cell? ⟨w.heap.size, 3, none⟩ = some (.int .i64 v) := (a1 3).trans ((cell_of_row _ _ _ _ _ _ (heap_alloc2_old _ _ _)).trans rfl)
  have r3 : w2.cell? ⟨w.heap.size + 1, 3, none⟩ = some (.int .i64 0) := (c1 3).trans ((cell_of_row _ _ _ _ _ _ (heap_alloc2_new _ _ _)).trans rfl)
  have fy : ∀ i, w2.frozen? ⟨w.heap.size + 1, i, none⟩ = false := fun i => (f1 i).trans (frozen_of_row _ _ _ _ _ (heap_alloc2_new _ _ _))
  clear a1 c1 f1 g1
  go_wp2
  go_region
  all_goals go_wp2
  all_goals refine bodyPost_ret (v := .tuple #[slV 2 d wt v, .slice none 0 0, .int .i64 0, .int .i64 d]) (by simp [results, Tryd.results25, go_sem, Act.put, r0, r1, r2, r3]) rfl ⟨_, rfl, ?_, .inl ⟨rfl, rfl⟩⟩
  all_goals first
    | exact below_put4 HB1.out (Nat.le_succ _) _ _ _ _
    | exact (below_put4 HB1.out (Nat.le_succ _) _ _ _ _).drew
    | exact below_put4 HB1.out.drew (Nat.le_succ _) _ _ _ _

set_option maxHeartbeats 400000 in
theorem spAsk_L (d wt v core line : Int) (w : World) (hok : slB 3 d wt v = true) (hf : frm core line = true) : Calls Tryd.prog 25 #[slV 3 d wt v, .int .i64 core, .int .i64 line] w fun e w' => ∃ tv, e = .returned (.tuple #[slV 3 d wt v, tv, .int .i64 4, .int .i64 0]) ∧ Below w.heap.size w w' ∧ Told w' w.heap.size tv 0 core line 0 := by
  have HB0 := hide (((Below.refl w.heap.size w).alloc (Nat.le_refl _) (.cells #[.int .i64 3, .int .i64 d, .int .i64 wt, .int .i64 v] 33)).alloc (by simp) (.cells #[.int .i64 0, .int .i64 0, .int .i64 0, .int .i64 0] 33))
  go_enter Tryd.func25, Tryd.ntmps25
  go_wp2_with fail
  refine (specSlotOk_any _ _ _ _ _).mono ?_
  rintro e w1 ⟨rfl, hb1⟩
  obtain ⟨a1, c1, f1⟩ := two4 (w := w) hb1 (by simp)
  have g1 := (at4 (B := w.heap.size) hb1 (by simp; omega)).2
  have HB1 := hide (HB0.out.trans (hb1.mono HB0.out.size))
  have hz : w.heap.size + 1 < w1.heap.size := by have := hb1.size; simp at this; omega
  clear hb1
  rw [hok]
  go_wp2_with fail
  refine (l3Form_any _ _ _).mono ?_
  rintro e w2 ⟨rfl, rfl⟩
  rw [hf]
  go_wp2
  refine bodyPost_ret (v := .tuple #[slV 3 d wt v, .slice none 0 0, .int .i64 4, .int .i64 0]) (by simp [results, Tryd.results25, go_sem, c1]) rfl ⟨_, rfl, ?_, .inl ⟨rfl, rfl⟩⟩
  refine below_put4 ?_ (Nat.le_succ _) _ _ _ _
  first
  | exact HB1.out
  | exact HB1.out.setCell (by exact Nat.le_refl _) _

set_option maxHeartbeats 400000 in
theorem spAsk_I1 (d wt v core line : Int) (w : World) (hok : slB 0 d wt v = true) (hf : frm core line = true) (n : (wt != 0) = true) : Calls Tryd.prog 25 #[slV 0 d wt v, .int .i64 core, .int .i64 line] w fun e w' => ∃ tv, e = .returned (.tuple #[slV 0 d wt v, tv, .int .i64 4, .int .i64 0]) ∧ Below w.heap.size w w' ∧ Told w' w.heap.size tv 0 core line 0 := by
  have HB0 := hide (((Below.refl w.heap.size w).alloc (Nat.le_refl _) (.cells #[.int .i64 0, .int .i64 d, .int .i64 wt, .int .i64 v] 33)).alloc (by simp) (.cells #[.int .i64 0, .int .i64 0, .int .i64 0, .int .i64 0] 33))
  go_enter Tryd.func25, Tryd.ntmps25
  go_wp2_with fail
  refine (specSlotOk_any _ _ _ _ _).mono ?_
  rintro e w1 ⟨rfl, hb1⟩
  obtain ⟨a1, c1, f1⟩ := two4 (w := w) hb1 (by simp)
  have g1 := (at4 (B := w.heap.size) hb1 (by simp; omega)).2
  have HB1 := hide (HB0.out.trans (hb1.mono HB0.out.size))
  have hz : w.heap.size + 1 < w1.heap.size := by have := hb1.size; simp at this; omega
  clear hb1
  rw [hok]
  go_wp2_with fail
  refine (l3Form_any _ _ _).mono ?_
  rintro e w2 ⟨rfl, rfl⟩
  rw [hf]
  go_wp2
  refine bodyPost_ret (v := .tuple #[slV 0 d wt v, .slice none 0 0, .int .i64 4, .int .i64 0]) (by simp [results, Tryd.results25, go_sem, c1]) rfl ⟨_, rfl, ?_, .inl ⟨rfl, rfl⟩⟩
  refine below_put4 ?_ (Nat.le_succ _) _ _ _ _
  first
  | exact HB1.out
  | exact HB1.out.setCell (by exact Nat.le_refl _) _

set_option maxHeartbeats 400000 in
theorem spAsk_I0 (d v core line : Int) (w : World) (hok : slB 0 d 0 v = true) (hf : frm core line = true) : Calls Tryd.prog 25 #[slV 0 d 0 v, .int .i64 core, .int .i64 line] w fun e w' => ∃ tv, e = .returned (.tuple #[slV 0 d 1 v, tv, .int .i64 3, .int .i64 0]) ∧ Below w.heap.size w w' ∧ Told w' w.heap.size tv 1 core line 0 := by
  have HB0 := hide (((Below.refl w.heap.size w).alloc (Nat.le_refl _) (.cells #[.int .i64 0, .int .i64 d, .int .i64 0, .int .i64 v] 33)).alloc (by simp) (.cells #[.int .i64 0, .int .i64 0, .int .i64 0, .int .i64 0] 33))
  go_enter Tryd.func25, Tryd.ntmps25
  go_wp2_with fail
  refine (specSlotOk_any _ _ _ _ _).mono ?_
  rintro e w1 ⟨rfl, hb1⟩
  obtain ⟨a1, c1, f1⟩ := two4 (w := w) hb1 (by simp)
  have g1 := (at4 (B := w.heap.size) hb1 (by simp; omega)).2
  have HB1 := hide (HB0.out.trans (hb1.mono HB0.out.size))
  have hz : w.heap.size + 1 < w1.heap.size := by have := hb1.size; simp at this; omega
  clear hb1
  rw [hok]
  go_wp2_with fail
  refine (l3Form_any _ _ _).mono ?_
  rintro e w2 ⟨rfl, rfl⟩
  rw [hf]
  have b0 : w2.cell? ⟨w.heap.size, 0, none⟩ = some (.int .i64 0) := (a1 0).trans ((cell_of_row _ _ _ _ _ _ (heap_alloc2_old _ _ _)).trans rfl)
  have r0 : w2.cell? ⟨w.heap.size + 1, 0, none⟩ = some (.int .i64 0) := (c1 0).trans ((cell_of_row _ _ _ _ _ _ (heap_alloc2_new _ _ _)).trans rfl)
  have b1 : w2.cell? ⟨w.heap.size, 1, none⟩ = some (.int .i64 d) := (a1 1).trans ((cell_of_row _ _ _ _ _ _ (heap_alloc2_old _ _ _)).trans rfl)
  have r1 : w2.cell? ⟨w.heap.size + 1, 1, none⟩ = some (.int .i64 0) := (c1 1).trans ((cell_of_row _ _ _ _ _ _ (heap_alloc2_new _ _ _)).trans rfl)
  have b2 : w2.cell? ⟨w.heap.size, 2, none⟩ = some (.int .i64 0) := (a1 2).trans ((cell_of_row _ _ _ _ _ _ (heap_alloc2_old _ _ _)).trans rfl)
  have r2 : w2.cell? ⟨w.heap.size + 1, 2, none⟩ = some (.int .i64 0) := (c1 2).trans ((cell_of_row _ _ _ _ _ _ (heap_alloc2_new _ _ _)).trans rfl)
  have b3 : w2.cell? ⟨w.heap.size, 3, none⟩ = some (.int .i64 v) := (a1 3).trans ((cell_of_row _ _ _ _ _ _ (heap_alloc2_old _ _ _)).trans rfl)
  have r3 : w2.cell? ⟨w.heap.size + 1, 3, none⟩ = some (.int .i64 0) := (c1 3).trans ((cell_of_row _ _ _ _ _ _ (heap_alloc2_new _ _ _)).trans rfl)
  have fz : ∀ i, w2.frozen? ⟨w.heap.size, i, none⟩ = false := fun i => (g1 i).trans (frozen_of_row _ _ _ _ _ (heap_alloc2_old _ _ _))
  have fy : ∀ i, w2.frozen? ⟨w.heap.size + 1, i, none⟩ = false := fun i => (f1 i).trans (frozen_of_row _ _ _ _ _ (heap_alloc2_new _ _ _))
  clear a1 c1 f1 g1
  go_wp2
  go_region_with (go_at_call 91; refine (l3To_b _ _ _ _ _).mono ?_; rintro e w3 ⟨rfl, hb3, hh3⟩; have a3 := fun i => hb3.cell (p := ⟨w.heap.size, i, none⟩) (by simp; omega); have c3 := fun i => hb3.cell (p := ⟨w.heap.size + 1, i, none⟩) (by simp; omega); have f3 := fun i => hb3.frozen (p := ⟨w.heap.size + 1, i, none⟩) (by simp; omega); have hh4 : Holds6 w3 w2.heap.size 1 core 0 line 0 0 := by simpa using hh3)
  all_goals go_wp2
  all_goals refine bodyPost_ret (v := .tuple #[slV 0 d 1 v, .slice (some ⟨w2.heap.size, 0, none⟩) 1 1, .int .i64 3, .int .i64 0]) (by simp [results, Tryd.results25, go_sem, Act.put, c3, r0, r1, r2, r3]) rfl ⟨_, rfl, ?_, .inr ⟨by decide, w2.heap.size, by omega, rfl, hh4.put4 (by omega) _ _ _ _⟩⟩
  all_goals refine below_put4 (Below.trans ?_ (hb3.mono (by simp; omega))) (Nat.le_succ _) _ _ _ _
  all_goals repeat' (first | exact HB1.out | refine Below.drew ?_ | refine Below.setCell ?_ (by exact Nat.le_refl _) _)

theorem specAsked_any (s : Sl4) (core line : Int) (w : World) : Calls Tryd.prog 25 #[slOf s, .int .i64 core, .int .i64 line] w (AnswersV w (mvd s (frm core line) (askM s)) (valOf (mvd s (frm core line) (askM s))) core line) := by
  obtain ⟨st, d, wt, v⟩ := s
  cases h : slB st d wt v with
  | false => rw [mvd_no h]; exact spAsk_no st d wt v core line w h
  | true =>
    cases hf : frm core line with
    | false => rw [mvd_fm h]; exact spAsk_fm st d wt v core line w h hf
    | true =>
      rw [mvd_do h]
      obtain ⟨_, hs⟩ := slB_cases h
      rcases hs with ⟨rfl, rfl, rfl, rfl⟩ | ⟨rfl, rfl, rfl, rfl⟩ | ⟨rfl, rfl, rfl⟩ | ⟨rfl, rfl, rfl⟩ | ⟨rfl, rfl⟩ | ⟨rfl, rfl, rfl⟩ | ⟨rfl, rfl, rfl⟩
      · exact spAsk_I0 _ _ core line w h hf
      · exact spAsk_I1 _ _ _ core line w h hf rfl
      · exact spAsk_I1 _ _ _ core line w h hf rfl
      · exact spAsk_S _ _ _ core line w h hf
      · exact spAsk_S _ _ _ core line w h hf
      · exact spAsk_O _ _ _ core line w h hf
      · exact spAsk_L _ _ _ core line w h hf
theorem implAsked_any (s : Sl4) (core line : Int) (w : World) : Calls Tryd.prog 24 #[slOf s, .int .i64 core, .int .i64 line] w (AnswersV w (mvd s (frm core line) (askM s)) (valOf (mvd s (frm core line) (askM s))) core line) := by
  have OK : okS (mvd s (frm core line) (askM s)).1 := mvd_ok fun h _ => ask_ok h
  have hmv := fun w => moved_asked s (frm core line) w
  have han := fun w => answer_any _ core line w OK
  clear OK
  generalize mvd s (frm core line) (askM s) = m at hmv han ⊢
  generalize mvOf m = mv at hmv han
  obtain ⟨⟨n0, n1, n2, n3⟩, k, dd, c⟩ := m
  by_cases hz : c = 0
  · subst hz
    rw [show valOf ((n0, n1, n2, n3), k, dd, 0) = n1 by simp [valOf]]
    cases hc : inB core 1 5 with
    | false => rw [frm_no hc] at hmv; exact implAsked_0z s core line w n0 n1 n2 n3 k dd 0 mv hc hmv han
    | true => rw [frm_yes hc] at hmv; exact implAsked_1z s core line w n0 n1 n2 n3 k dd 0 mv hc hmv han
  · have hn : (c != 0) = true := by simp [hz]
    rw [show valOf ((n0, n1, n2, n3), k, dd, c) = 0 by simp [valOf, hz]]
    cases hc : inB core 1 5 with
    | false => rw [frm_no hc] at hmv; exact implAsked_0n s core line w n0 n1 n2 n3 k dd c mv hc hn hmv han
    | true => rw [frm_yes hc] at hmv; exact implAsked_1n s core line w n0 n1 n2 n3 k dd c mv hc hn hmv han

end Go.Proofs.YtjhaloeahidplaaDoor
