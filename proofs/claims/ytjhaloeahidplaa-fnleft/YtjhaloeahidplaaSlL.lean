/- impl.Asked, spec.Asked by their results (written by mkSlA2.py) -/
import Derived.Test.YtjhaloeahidplaaSlJ
import Derived.Deep.RegionWith
namespace Go.Proofs.Ytjhaloeahidplaa
open Go.RowKit
set_option linter.unusedVariables false
set_option linter.unusedSimpArgs false

/-- what Asked answers: the value is the data where the code is done -/
def AnswersV (w : World) (m : MR) (vv core line : Int) (e : Ending) (w' : World) : Prop :=
  ∃ tv, e = .returned (.tuple #[slOf m.1, tv, .int .i64 m.2.2.2, .int .i64 vv]) ∧ Below w.heap.size w w' ∧ Told w' w.heap.size tv m.2.1 core line m.2.2.1
theorem Told.drew {w : World} {b0 : Nat} {v : Value} {k core line d : Int} (h : Told w b0 v k core line d) : Told w.drew b0 v k core line d := h
def valOf (m : MR) : Int := if m.2.2.2 = 0 then m.1.2.1 else 0

set_option maxHeartbeats 1000000 in
theorem implAsked_0n (s : Sl4) (core line : Int) (w : World) (n0 n1 n2 n3 k dd c : Int) (mv : Value) (hc : inB core 1 5 = false) (hn : (c != 0) = true)
    (hmv : ∀ w, Calls Try.prog 26 #[slOf s, .bool false, .func (.func 32) #[] #[]] w fun e w' => e = .returned mv ∧ Below w.heap.size w w')
    (han : ∀ w, Calls Try.prog 28 #[mv, .int .i64 core, .int .i64 line] w fun e w' => ∃ tv, e = .returned (.tuple #[slV n0 n1 n2 n3, tv, .int .i64 c]) ∧ Below w.heap.size w w' ∧ Told w' w.heap.size tv k core line dd) :
    Calls Try.prog 11 #[slOf s, .int .i64 core, .int .i64 line] w (AnswersV w ((n0, n1, n2, n3), k, dd, c) 0 core line) := by
  have HB0 := hide (((Below.refl w.heap.size w).alloc (Nat.le_refl _) (.cells #[.int .i64 s.1, .int .i64 s.2.1, .int .i64 s.2.2.1, .int .i64 s.2.2.2] 25)).alloc (by simp) (.cells #[.int .i64 0, .int .i64 0, .int .i64 0, .int .i64 0] 25))
  unfold AnswersV
  go_enter Try.func11, Try.ntmps11
  go_wp2_with fail
  refine (isCore_any _ _).mono ?_
  rintro e w1 ⟨rfl, rfl⟩
  rw [hc]
  go_wp2_with fail
  refine (hmv _).mono ?_
  rintro e w1 ⟨rfl, hb1⟩
  have a1 : ∀ i, w1.cell? ⟨w.heap.size + 1, i, none⟩ = _ := fun i => hb1.cell (p := ⟨w.heap.size + 1, i, none⟩) (by simp)
  have f1 : ∀ i, w1.frozen? ⟨w.heap.size + 1, i, none⟩ = _ := fun i => hb1.frozen (p := ⟨w.heap.size + 1, i, none⟩) (by simp)
  have HB1 := hide (HB0.out.trans (hb1.mono HB0.out.size))
  have hz : w.heap.size + 1 + 1 ≤ w1.heap.size := by have := hb1.size; simp at this; omega
  clear hb1
  go_wp2_with fail
  refine (han _).mono ?_
  rintro e w2 ⟨tv, rfl, hb2, ht⟩
  have r0 : w2.cell? ⟨w.heap.size + 1, 0, none⟩ = some (.int .i64 0) := (hb2.cell (p := ⟨w.heap.size + 1, 0, none⟩) (by simp; omega)).trans ((a1 0).trans ((cell_of_row _ _ _ _ _ _ (heap_alloc2_new _ _ _)).trans rfl))
  have r1 : w2.cell? ⟨w.heap.size + 1, 1, none⟩ = some (.int .i64 0) := (hb2.cell (p := ⟨w.heap.size + 1, 1, none⟩) (by simp; omega)).trans ((a1 1).trans ((cell_of_row _ _ _ _ _ _ (heap_alloc2_new _ _ _)).trans rfl))
  have r2 : w2.cell? ⟨w.heap.size + 1, 2, none⟩ = some (.int .i64 0) := (hb2.cell (p := ⟨w.heap.size + 1, 2, none⟩) (by simp; omega)).trans ((a1 2).trans ((cell_of_row _ _ _ _ _ _ (heap_alloc2_new _ _ _)).trans rfl))
  have r3 : w2.cell? ⟨w.heap.size + 1, 3, none⟩ = some (.int .i64 0) := (hb2.cell (p := ⟨w.heap.size + 1, 3, none⟩) (by simp; omega)).trans ((a1 3).trans ((cell_of_row _ _ _ _ _ _ (heap_alloc2_new _ _ _)).trans rfl))
  have fy : ∀ i, w2.frozen? ⟨w.heap.size + 1, i, none⟩ = false := fun i => (hb2.frozen (p := ⟨w.heap.size + 1, i, none⟩) (by simp; omega)).trans ((f1 i).trans (frozen_of_row _ _ _ _ _ (heap_alloc2_new _ _ _)))
  have HB2 := hide (HB1.out.trans (hb2.mono HB1.out.size))
  have hz2 : w.heap.size + 1 < w2.heap.size := by have := hb2.size; omega
  have HT := hide ht
  clear hb2 ht hmv han a1 f1
  -- the new box is a block beyond the result's
  have hr : ∀ (v0 v1 v2 v3 : Value) (o : Obj) i, (((((w2.setCell ⟨w.heap.size + 1, 0, none⟩ v0).setCell ⟨w.heap.size + 1, 1, none⟩ v1).setCell ⟨w.heap.size + 1, 2, none⟩ v2).setCell ⟨w.heap.size + 1, 3, none⟩ v3).alloc o).cell? ⟨w.heap.size + 1, i, none⟩ = ((((w2.setCell ⟨w.heap.size + 1, 0, none⟩ v0).setCell ⟨w.heap.size + 1, 1, none⟩ v1).setCell ⟨w.heap.size + 1, 2, none⟩ v2).setCell ⟨w.heap.size + 1, 3, none⟩ v3).cell? ⟨w.heap.size + 1, i, none⟩ :=
    fun v0 v1 v2 v3 o i => ((Below.refl _ _).alloc (Nat.le_refl _) o).cell (p := ⟨w.heap.size + 1, i, none⟩) (by simpa [Go.Deep.nblk_setCell] using hz2)
  go_wp2
  all_goals refine bodyPost_ret (v := .tuple #[slV n0 n1 n2 n3, tv, .int .i64 c, .int .i64 0]) (by simp [results, Try.results11, go_sem, Act.put, hr, r0, r1, r2, r3]) rfl ⟨tv, rfl, ?_, ?_⟩
  all_goals first
    | exact (below_put4 HB2.out (Nat.le_succ _) _ _ _ _).alloc (by simp; omega) _
    | exact ((below_put4 HB2.out (Nat.le_succ _) _ _ _ _).alloc (by simp; omega) _).drew
    | exact (((HT.out.low (b1 := w.heap.size + 1 + 1) hz).put4 (Nat.lt_succ_self _) _ _ _ _).next ((Below.refl _ _).alloc (Nat.le_refl _) _)).low (Nat.le_trans (Nat.le_succ _) (Nat.le_succ _))
    | exact ((((HT.out.low (b1 := w.heap.size + 1 + 1) hz).put4 (Nat.lt_succ_self _) _ _ _ _).next ((Below.refl _ _).alloc (Nat.le_refl _) _)).low (Nat.le_trans (Nat.le_succ _) (Nat.le_succ _))).drew
    | trace_state

set_option maxHeartbeats 1000000 in
theorem implAsked_1z (s : Sl4) (core line : Int) (w : World) (n0 n1 n2 n3 k dd c : Int) (mv : Value) (hc : inB core 1 5 = true)
    (hmv : ∀ w, Calls Try.prog 26 #[slOf s, .bool (inB line 0 3), .func (.func 32) #[] #[]] w fun e w' => e = .returned mv ∧ Below w.heap.size w w')
    (han : ∀ w, Calls Try.prog 28 #[mv, .int .i64 core, .int .i64 line] w fun e w' => ∃ tv, e = .returned (.tuple #[slV n0 n1 n2 n3, tv, .int .i64 0]) ∧ Below w.heap.size w w' ∧ Told w' w.heap.size tv k core line dd) :
    Calls Try.prog 11 #[slOf s, .int .i64 core, .int .i64 line] w (AnswersV w ((n0, n1, n2, n3), k, dd, 0) n1 core line) := by
  have HB0 := hide (((Below.refl w.heap.size w).alloc (Nat.le_refl _) (.cells #[.int .i64 s.1, .int .i64 s.2.1, .int .i64 s.2.2.1, .int .i64 s.2.2.2] 25)).alloc (by simp) (.cells #[.int .i64 0, .int .i64 0, .int .i64 0, .int .i64 0] 25))
  unfold AnswersV
  go_enter Try.func11, Try.ntmps11
  go_wp2_with fail
  refine (isCore_any _ _).mono ?_
  rintro e w1 ⟨rfl, rfl⟩
  rw [hc]
  go_wp2_with fail
  refine (isLine_any _ _).mono ?_
  rintro e w1 ⟨rfl, rfl⟩
  go_wp2_with fail
  refine (hmv _).mono ?_
  rintro e w1 ⟨rfl, hb1⟩
  have a1 : ∀ i, w1.cell? ⟨w.heap.size + 1, i, none⟩ = _ := fun i => hb1.cell (p := ⟨w.heap.size + 1, i, none⟩) (by simp)
  have f1 : ∀ i, w1.frozen? ⟨w.heap.size + 1, i, none⟩ = _ := fun i => hb1.frozen (p := ⟨w.heap.size + 1, i, none⟩) (by simp)
  have HB1 := hide (HB0.out.trans (hb1.mono HB0.out.size))
  have hz : w.heap.size + 1 + 1 ≤ w1.heap.size := by have := hb1.size; simp at this; omega
  clear hb1
  go_wp2_with fail
  refine (han _).mono ?_
  rintro e w2 ⟨tv, rfl, hb2, ht⟩
  have r0 : w2.cell? ⟨w.heap.size + 1, 0, none⟩ = some (.int .i64 0) := (hb2.cell (p := ⟨w.heap.size + 1, 0, none⟩) (by simp; omega)).trans ((a1 0).trans ((cell_of_row _ _ _ _ _ _ (heap_alloc2_new _ _ _)).trans rfl))
  have r1 : w2.cell? ⟨w.heap.size + 1, 1, none⟩ = some (.int .i64 0) := (hb2.cell (p := ⟨w.heap.size + 1, 1, none⟩) (by simp; omega)).trans ((a1 1).trans ((cell_of_row _ _ _ _ _ _ (heap_alloc2_new _ _ _)).trans rfl))
  have r2 : w2.cell? ⟨w.heap.size + 1, 2, none⟩ = some (.int .i64 0) := (hb2.cell (p := ⟨w.heap.size + 1, 2, none⟩) (by simp; omega)).trans ((a1 2).trans ((cell_of_row _ _ _ _ _ _ (heap_alloc2_new _ _ _)).trans rfl))
  have r3 : w2.cell? ⟨w.heap.size + 1, 3, none⟩ = some (.int .i64 0) := (hb2.cell (p := ⟨w.heap.size + 1, 3, none⟩) (by simp; omega)).trans ((a1 3).trans ((cell_of_row _ _ _ _ _ _ (heap_alloc2_new _ _ _)).trans rfl))
  have fy : ∀ i, w2.frozen? ⟨w.heap.size + 1, i, none⟩ = false := fun i => (hb2.frozen (p := ⟨w.heap.size + 1, i, none⟩) (by simp; omega)).trans ((f1 i).trans (frozen_of_row _ _ _ _ _ (heap_alloc2_new _ _ _)))
  have HB2 := hide (HB1.out.trans (hb2.mono HB1.out.size))
  have hz2 : w.heap.size + 1 < w2.heap.size := by have := hb2.size; omega
  have HT := hide ht
  clear hb2 ht hmv han a1 f1
  -- the new box is a block beyond the result's
  have hr : ∀ (v0 v1 v2 v3 : Value) (o : Obj) i, (((((w2.setCell ⟨w.heap.size + 1, 0, none⟩ v0).setCell ⟨w.heap.size + 1, 1, none⟩ v1).setCell ⟨w.heap.size + 1, 2, none⟩ v2).setCell ⟨w.heap.size + 1, 3, none⟩ v3).alloc o).cell? ⟨w.heap.size + 1, i, none⟩ = ((((w2.setCell ⟨w.heap.size + 1, 0, none⟩ v0).setCell ⟨w.heap.size + 1, 1, none⟩ v1).setCell ⟨w.heap.size + 1, 2, none⟩ v2).setCell ⟨w.heap.size + 1, 3, none⟩ v3).cell? ⟨w.heap.size + 1, i, none⟩ :=
    fun v0 v1 v2 v3 o i => ((Below.refl _ _).alloc (Nat.le_refl _) o).cell (p := ⟨w.heap.size + 1, i, none⟩) (by simpa [Go.Deep.nblk_setCell] using hz2)
  go_wp2
  go_region
  all_goals go_wp2
  all_goals refine bodyPost_ret (v := .tuple #[slV n0 n1 n2 n3, tv, .int .i64 0, .int .i64 n1]) (by simp [results, Try.results11, go_sem, Act.put, hr, r0, r1, r2, r3]) rfl ⟨tv, rfl, ?_, ?_⟩
  all_goals first
    | exact (below_put4 HB2.out (Nat.le_succ _) _ _ _ _).alloc (by simp; omega) _
    | exact ((below_put4 HB2.out (Nat.le_succ _) _ _ _ _).alloc (by simp; omega) _).drew
    | exact (((HT.out.low (b1 := w.heap.size + 1 + 1) hz).put4 (Nat.lt_succ_self _) _ _ _ _).next ((Below.refl _ _).alloc (Nat.le_refl _) _)).low (Nat.le_trans (Nat.le_succ _) (Nat.le_succ _))
    | exact ((((HT.out.low (b1 := w.heap.size + 1 + 1) hz).put4 (Nat.lt_succ_self _) _ _ _ _).next ((Below.refl _ _).alloc (Nat.le_refl _) _)).low (Nat.le_trans (Nat.le_succ _) (Nat.le_succ _))).drew
    | trace_state

set_option maxHeartbeats 1000000 in
theorem implAsked_0z (s : Sl4) (core line : Int) (w : World) (n0 n1 n2 n3 k dd c : Int) (mv : Value) (hc : inB core 1 5 = false)
    (hmv : ∀ w, Calls Try.prog 26 #[slOf s, .bool false, .func (.func 32) #[] #[]] w fun e w' => e = .returned mv ∧ Below w.heap.size w w')
    (han : ∀ w, Calls Try.prog 28 #[mv, .int .i64 core, .int .i64 line] w fun e w' => ∃ tv, e = .returned (.tuple #[slV n0 n1 n2 n3, tv, .int .i64 0]) ∧ Below w.heap.size w w' ∧ Told w' w.heap.size tv k core line dd) :
    Calls Try.prog 11 #[slOf s, .int .i64 core, .int .i64 line] w (AnswersV w ((n0, n1, n2, n3), k, dd, 0) n1 core line) := by
  have HB0 := hide (((Below.refl w.heap.size w).alloc (Nat.le_refl _) (.cells #[.int .i64 s.1, .int .i64 s.2.1, .int .i64 s.2.2.1, .int .i64 s.2.2.2] 25)).alloc (by simp) (.cells #[.int .i64 0, .int .i64 0, .int .i64 0, .int .i64 0] 25))
  unfold AnswersV
  go_enter Try.func11, Try.ntmps11
  go_wp2_with fail
  refine (isCore_any _ _).mono ?_
  rintro e w1 ⟨rfl, rfl⟩
  rw [hc]
  go_wp2_with fail
  refine (hmv _).mono ?_
  rintro e w1 ⟨rfl, hb1⟩
  have a1 : ∀ i, w1.cell? ⟨w.heap.size + 1, i, none⟩ = _ := fun i => hb1.cell (p := ⟨w.heap.size + 1, i, none⟩) (by simp)
  have f1 : ∀ i, w1.frozen? ⟨w.heap.size + 1, i, none⟩ = _ := fun i => hb1.frozen (p := ⟨w.heap.size + 1, i, none⟩) (by simp)
  have HB1 := hide (HB0.out.trans (hb1.mono HB0.out.size))
  have hz : w.heap.size + 1 + 1 ≤ w1.heap.size := by have := hb1.size; simp at this; omega
  clear hb1
  go_wp2_with fail
  refine (han _).mono ?_
  rintro e w2 ⟨tv, rfl, hb2, ht⟩
  have r0 : w2.cell? ⟨w.heap.size + 1, 0, none⟩ = some (.int .i64 0) := (hb2.cell (p := ⟨w.heap.size + 1, 0, none⟩) (by simp; omega)).trans ((a1 0).trans ((cell_of_row _ _ _ _ _ _ (heap_alloc2_new _ _ _)).trans rfl))
  have r1 : w2.cell? ⟨w.heap.size + 1, 1, none⟩ = some (.int .i64 0) := (hb2.cell (p := ⟨w.heap.size + 1, 1, none⟩) (by simp; omega)).trans ((a1 1).trans ((cell_of_row _ _ _ _ _ _ (heap_alloc2_new _ _ _)).trans rfl))
  have r2 : w2.cell? ⟨w.heap.size + 1, 2, none⟩ = some (.int .i64 0) := (hb2.cell (p := ⟨w.heap.size + 1, 2, none⟩) (by simp; omega)).trans ((a1 2).trans ((cell_of_row _ _ _ _ _ _ (heap_alloc2_new _ _ _)).trans rfl))
  have r3 : w2.cell? ⟨w.heap.size + 1, 3, none⟩ = some (.int .i64 0) := (hb2.cell (p := ⟨w.heap.size + 1, 3, none⟩) (by simp; omega)).trans ((a1 3).trans ((cell_of_row _ _ _ _ _ _ (heap_alloc2_new _ _ _)).trans rfl))
  have fy : ∀ i, w2.frozen? ⟨w.heap.size + 1, i, none⟩ = false := fun i => (hb2.frozen (p := ⟨w.heap.size + 1, i, none⟩) (by simp; omega)).trans ((f1 i).trans (frozen_of_row _ _ _ _ _ (heap_alloc2_new _ _ _)))
  have HB2 := hide (HB1.out.trans (hb2.mono HB1.out.size))
  have hz2 : w.heap.size + 1 < w2.heap.size := by have := hb2.size; omega
  have HT := hide ht
  clear hb2 ht hmv han a1 f1
  -- the new box is a block beyond the result's
  have hr : ∀ (v0 v1 v2 v3 : Value) (o : Obj) i, (((((w2.setCell ⟨w.heap.size + 1, 0, none⟩ v0).setCell ⟨w.heap.size + 1, 1, none⟩ v1).setCell ⟨w.heap.size + 1, 2, none⟩ v2).setCell ⟨w.heap.size + 1, 3, none⟩ v3).alloc o).cell? ⟨w.heap.size + 1, i, none⟩ = ((((w2.setCell ⟨w.heap.size + 1, 0, none⟩ v0).setCell ⟨w.heap.size + 1, 1, none⟩ v1).setCell ⟨w.heap.size + 1, 2, none⟩ v2).setCell ⟨w.heap.size + 1, 3, none⟩ v3).cell? ⟨w.heap.size + 1, i, none⟩ :=
    fun v0 v1 v2 v3 o i => ((Below.refl _ _).alloc (Nat.le_refl _) o).cell (p := ⟨w.heap.size + 1, i, none⟩) (by simpa [Go.Deep.nblk_setCell] using hz2)
  go_wp2
  go_region
  all_goals go_wp2
  all_goals refine bodyPost_ret (v := .tuple #[slV n0 n1 n2 n3, tv, .int .i64 0, .int .i64 n1]) (by simp [results, Try.results11, go_sem, Act.put, hr, r0, r1, r2, r3]) rfl ⟨tv, rfl, ?_, ?_⟩
  all_goals first
    | exact (below_put4 HB2.out (Nat.le_succ _) _ _ _ _).alloc (by simp; omega) _
    | exact ((below_put4 HB2.out (Nat.le_succ _) _ _ _ _).alloc (by simp; omega) _).drew
    | exact (((HT.out.low (b1 := w.heap.size + 1 + 1) hz).put4 (Nat.lt_succ_self _) _ _ _ _).next ((Below.refl _ _).alloc (Nat.le_refl _) _)).low (Nat.le_trans (Nat.le_succ _) (Nat.le_succ _))
    | exact ((((HT.out.low (b1 := w.heap.size + 1 + 1) hz).put4 (Nat.lt_succ_self _) _ _ _ _).next ((Below.refl _ _).alloc (Nat.le_refl _) _)).low (Nat.le_trans (Nat.le_succ _) (Nat.le_succ _))).drew
    | trace_state

set_option maxHeartbeats 1000000 in
theorem implAsked_1n (s : Sl4) (core line : Int) (w : World) (n0 n1 n2 n3 k dd c : Int) (mv : Value) (hc : inB core 1 5 = true) (hn : (c != 0) = true)
    (hmv : ∀ w, Calls Try.prog 26 #[slOf s, .bool (inB line 0 3), .func (.func 32) #[] #[]] w fun e w' => e = .returned mv ∧ Below w.heap.size w w')
    (han : ∀ w, Calls Try.prog 28 #[mv, .int .i64 core, .int .i64 line] w fun e w' => ∃ tv, e = .returned (.tuple #[slV n0 n1 n2 n3, tv, .int .i64 c]) ∧ Below w.heap.size w w' ∧ Told w' w.heap.size tv k core line dd) :
    Calls Try.prog 11 #[slOf s, .int .i64 core, .int .i64 line] w (AnswersV w ((n0, n1, n2, n3), k, dd, c) 0 core line) := by
  have HB0 := hide (((Below.refl w.heap.size w).alloc (Nat.le_refl _) (.cells #[.int .i64 s.1, .int .i64 s.2.1, .int .i64 s.2.2.1, .int .i64 s.2.2.2] 25)).alloc (by simp) (.cells #[.int .i64 0, .int .i64 0, .int .i64 0, .int .i64 0] 25))
  unfold AnswersV
  go_enter Try.func11, Try.ntmps11
  go_wp2_with fail
  refine (isCore_any _ _).mono ?_
  rintro e w1 ⟨rfl, rfl⟩
  rw [hc]
  go_wp2_with fail
  refine (isLine_any _ _).mono ?_
  rintro e w1 ⟨rfl, rfl⟩
  go_wp2_with fail
  refine (hmv _).mono ?_
  rintro e w1 ⟨rfl, hb1⟩
  have a1 : ∀ i, w1.cell? ⟨w.heap.size + 1, i, none⟩ = _ := fun i => hb1.cell (p := ⟨w.heap.size + 1, i, none⟩) (by simp)
  have f1 : ∀ i, w1.frozen? ⟨w.heap.size + 1, i, none⟩ = _ := fun i => hb1.frozen (p := ⟨w.heap.size + 1, i, none⟩) (by simp)
  have HB1 := hide (HB0.out.trans (hb1.mono HB0.out.size))
  have hz : w.heap.size + 1 + 1 ≤ w1.heap.size := by have := hb1.size; simp at this; omega
  clear hb1
  go_wp2_with fail
  refine (han _).mono ?_
  rintro e w2 ⟨tv, rfl, hb2, ht⟩
  have r0 : w2.cell? ⟨w.heap.size + 1, 0, none⟩ = some (.int .i64 0) := (hb2.cell (p := ⟨w.heap.size + 1, 0, none⟩) (by simp; omega)).trans ((a1 0).trans ((cell_of_row _ _ _ _ _ _ (heap_alloc2_new _ _ _)).trans rfl))
  have r1 : w2.cell? ⟨w.heap.size + 1, 1, none⟩ = some (.int .i64 0) := (hb2.cell (p := ⟨w.heap.size + 1, 1, none⟩) (by simp; omega)).trans ((a1 1).trans ((cell_of_row _ _ _ _ _ _ (heap_alloc2_new _ _ _)).trans rfl))
  have r2 : w2.cell? ⟨w.heap.size + 1, 2, none⟩ = some (.int .i64 0) := (hb2.cell (p := ⟨w.heap.size + 1, 2, none⟩) (by simp; omega)).trans ((a1 2).trans ((cell_of_row _ _ _ _ _ _ (heap_alloc2_new _ _ _)).trans rfl))
  have r3 : w2.cell? ⟨w.heap.size + 1, 3, none⟩ = some (.int .i64 0) := (hb2.cell (p := ⟨w.heap.size + 1, 3, none⟩) (by simp; omega)).trans ((a1 3).trans ((cell_of_row _ _ _ _ _ _ (heap_alloc2_new _ _ _)).trans rfl))
  have fy : ∀ i, w2.frozen? ⟨w.heap.size + 1, i, none⟩ = false := fun i => (hb2.frozen (p := ⟨w.heap.size + 1, i, none⟩) (by simp; omega)).trans ((f1 i).trans (frozen_of_row _ _ _ _ _ (heap_alloc2_new _ _ _)))
  have HB2 := hide (HB1.out.trans (hb2.mono HB1.out.size))
  have hz2 : w.heap.size + 1 < w2.heap.size := by have := hb2.size; omega
  have HT := hide ht
  clear hb2 ht hmv han a1 f1
  -- the new box is a block beyond the result's
  have hr : ∀ (v0 v1 v2 v3 : Value) (o : Obj) i, (((((w2.setCell ⟨w.heap.size + 1, 0, none⟩ v0).setCell ⟨w.heap.size + 1, 1, none⟩ v1).setCell ⟨w.heap.size + 1, 2, none⟩ v2).setCell ⟨w.heap.size + 1, 3, none⟩ v3).alloc o).cell? ⟨w.heap.size + 1, i, none⟩ = ((((w2.setCell ⟨w.heap.size + 1, 0, none⟩ v0).setCell ⟨w.heap.size + 1, 1, none⟩ v1).setCell ⟨w.heap.size + 1, 2, none⟩ v2).setCell ⟨w.heap.size + 1, 3, none⟩ v3).cell? ⟨w.heap.size + 1, i, none⟩ :=
    fun v0 v1 v2 v3 o i => ((Below.refl _ _).alloc (Nat.le_refl _) o).cell (p := ⟨w.heap.size + 1, i, none⟩) (by simpa [Go.Deep.nblk_setCell] using hz2)
  go_wp2
  all_goals refine bodyPost_ret (v := .tuple #[slV n0 n1 n2 n3, tv, .int .i64 c, .int .i64 0]) (by simp [results, Try.results11, go_sem, Act.put, hr, r0, r1, r2, r3]) rfl ⟨tv, rfl, ?_, ?_⟩
  all_goals first
    | exact (below_put4 HB2.out (Nat.le_succ _) _ _ _ _).alloc (by simp; omega) _
    | exact ((below_put4 HB2.out (Nat.le_succ _) _ _ _ _).alloc (by simp; omega) _).drew
    | exact (((HT.out.low (b1 := w.heap.size + 1 + 1) hz).put4 (Nat.lt_succ_self _) _ _ _ _).next ((Below.refl _ _).alloc (Nat.le_refl _) _)).low (Nat.le_trans (Nat.le_succ _) (Nat.le_succ _))
    | exact ((((HT.out.low (b1 := w.heap.size + 1 + 1) hz).put4 (Nat.lt_succ_self _) _ _ _ _).next ((Below.refl _ _).alloc (Nat.le_refl _) _)).low (Nat.le_trans (Nat.le_succ _) (Nat.le_succ _))).drew
    | trace_state
theorem implAsked_any (s : Sl4) (core line : Int) (w : World) : Calls Try.prog 11 #[slOf s, .int .i64 core, .int .i64 line] w (AnswersV w (mvd s (frm core line) (askM s)) (valOf (mvd s (frm core line) (askM s))) core line) := by
  have OK : okS (mvd s (frm core line) (askM s)).1 := mvd_ok fun h _ => ask_ok h
  have hmv := fun w => moved_asked s (frm core line) w
  have han := fun w => answer_any _ core line w OK
  clear OK
  generalize mvd s (frm core line) (askM s) = m at hmv han ⊢
  generalize mvOf m = mv at hmv han
  obtain ⟨⟨n0, n1, n2, n3⟩, k, dd, c⟩ := m
  by_cases hz : c = 0
  · subst hz
    rw [show valOf ((n0, n1, n2, n3), k, dd, 0) = n1 by simp [valOf]]
    cases hc : inB core 1 5 with
    | false => rw [frm_no hc] at hmv; exact implAsked_0z s core line w n0 n1 n2 n3 k dd 0 mv hc hmv han
    | true => rw [frm_yes hc] at hmv; exact implAsked_1z s core line w n0 n1 n2 n3 k dd 0 mv hc hmv han
  · have hn : (c != 0) = true := by simp [hz]
    rw [show valOf ((n0, n1, n2, n3), k, dd, c) = 0 by simp [valOf, hz]]
    cases hc : inB core 1 5 with
    | false => rw [frm_no hc] at hmv; exact implAsked_0n s core line w n0 n1 n2 n3 k dd c mv hc hn hmv han
    | true => rw [frm_yes hc] at hmv; exact implAsked_1n s core line w n0 n1 n2 n3 k dd c mv hc hn hmv han

end Go.Proofs.Ytjhaloeahidplaa
