/- spec.l3Got, spec.CoreGot by the same results (written by mkSlO.py) -/
import Derived.Test.YtjhaloeahidplaaDoorSlW
import Derived.Test.YtjhaloeahidplaaDoorSlJ
import Derived.Test.YtjhaloeahidplaaDoorMsgB
import Derived.Deep.Heap
import Derived.Deep.RegionWith
namespace Go.Proofs.YtjhaloeahidplaaDoor
open Go.RowKit
set_option linter.unusedVariables false
set_option linter.unusedSimpArgs false

theorem Holds6.put1 {w : World} {B C i : Nat} {a b c d e f : Int} (h : Holds6 w C a b c d e f) (hne : C ≠ B) (v : Value) : Holds6 (w.setCell ⟨B, i, none⟩ v) C a b c d e f := by
  unfold Holds6
  rw [Go.Deep.blk_setCell_other _ _ _ _ hne]
  exact h

set_option maxHeartbeats 2000000 in
theorem l3_4O (d mf mt ml mw md : Int) (w : World) : Calls Tryd.prog 102 #[slV 2 d 0 0, .agg (six 4 mf mt ml mw md)] w fun e w' => ∃ tv, e = .returned (.tuple #[slV 2 d 0 0, tv, .int .i64 4]) ∧ Below w.heap.size w w' ∧ Told w' w.heap.size tv 0 mt ml 0 := by
  go_enter Tryd.func102, Tryd.ntmps102
  go_wp2
  refine bodyPost_ret (v := .tuple #[slV 2 d 0 0, .slice none 0 0, .int .i64 4]) (by simp [results, Tryd.results102, go_sem]) rfl ⟨_, rfl, ?_, .inl ⟨rfl, rfl⟩⟩
  repeat' (first | exact Below.refl _ _ | refine Below.setCell ?_ (by simp <;> omega) _ | refine Below.alloc ?_ (by simp <;> omega) _)

set_option maxHeartbeats 2000000 in
theorem l3_4S (d wt v mf mt ml mw md : Int) (w : World) : Calls Tryd.prog 102 #[slV 1 d wt v, .agg (six 4 mf mt ml mw md)] w fun e w' => ∃ tv, e = .returned (.tuple #[slV 0 0 wt v, tv, .int .i64 0]) ∧ Below w.heap.size w w' ∧ Told w' w.heap.size tv 6 mt ml 0 := by
  go_enter Tryd.func102, Tryd.ntmps102
  go_wp2
  go_region_with (go_at_call 91; refine (l3To_b _ _ _ _ _).mono ?_; rintro e w3 ⟨rfl, hb3, hh3⟩; have a3 := fun i => hb3.cell (p := ⟨w.heap.size, i, none⟩) (by simp; omega); have c3 := fun i => hb3.cell (p := ⟨w.heap.size + 1 + 1, i, none⟩) (by simp); have f3 := fun i => hb3.frozen (p := ⟨w.heap.size + 1 + 1, i, none⟩) (by simp); have hh4 : Holds6 w3 (w.heap.size + 1 + 1 + 1 + 1) 6 mt 0 ml 0 0 := by simpa using hh3)
  all_goals go_wp2
  all_goals refine bodyPost_ret (v := .tuple #[slV 0 0 wt v, .slice (some ⟨w.heap.size + 1 + 1 + 1 + 1, 0, none⟩) 1 1, .int .i64 0]) (by simp [results, Tryd.results102, go_sem, Act.put, c3]) rfl ⟨_, rfl, ?_, .inr ⟨by decide, w.heap.size + 1 + 1 + 1 + 1, by omega, rfl, hh4.put4 (by omega) _ _ _ _⟩⟩
  all_goals refine below_put4 (Below.trans ?_ (hb3.mono (by simp; omega))) (by omega) _ _ _ _
  all_goals repeat' (first | exact Below.refl _ _ | refine Below.drew ?_ | refine Below.setCell ?_ (by simp <;> omega) _ | refine Below.alloc ?_ (by simp <;> omega) _)

set_option maxHeartbeats 2000000 in
theorem l3_4E (st d wt v mf mt ml mw md : Int) (w : World) (n2 : (st == 2) = false) (n1 : (st == 1) = false) : Calls Tryd.prog 102 #[slV st d wt v, .agg (six 4 mf mt ml mw md)] w fun e w' => ∃ tv, e = .returned (.tuple #[slV st d wt v, tv, .int .i64 0]) ∧ Below w.heap.size w w' ∧ Told w' w.heap.size tv 6 mt ml 0 := by
  go_enter Tryd.func102, Tryd.ntmps102
  go_wp2
  go_region_with (go_at_call 91; refine (l3To_b _ _ _ _ _).mono ?_; rintro e w3 ⟨rfl, hb3, hh3⟩; have a3 := fun i => hb3.cell (p := ⟨w.heap.size, i, none⟩) (by simp; omega); have c3 := fun i => hb3.cell (p := ⟨w.heap.size + 1 + 1, i, none⟩) (by simp); have f3 := fun i => hb3.frozen (p := ⟨w.heap.size + 1 + 1, i, none⟩) (by simp); have hh4 : Holds6 w3 (w.heap.size + 1 + 1 + 1 + 1) 6 mt 0 ml 0 0 := by simpa using hh3)
  all_goals go_wp2
  all_goals refine bodyPost_ret (v := .tuple #[slV st d wt v, .slice (some ⟨w.heap.size + 1 + 1 + 1 + 1, 0, none⟩) 1 1, .int .i64 0]) (by simp [results, Tryd.results102, go_sem, Act.put, c3]) rfl ⟨_, rfl, ?_, .inr ⟨by decide, w.heap.size + 1 + 1 + 1 + 1, by omega, rfl, hh4.put4 (by omega) _ _ _ _⟩⟩
  all_goals refine below_put4 (Below.trans ?_ (hb3.mono (by simp; omega))) (by omega) _ _ _ _
  all_goals repeat' (first | exact Below.refl _ _ | refine Below.drew ?_ | refine Below.setCell ?_ (by simp <;> omega) _ | refine Below.alloc ?_ (by simp <;> omega) _)

set_option maxHeartbeats 2000000 in
theorem l3_5L (d wt v mf mt ml mw md : Int) (w : World) : Calls Tryd.prog 102 #[slV 3 d wt v, .agg (six 5 mf mt ml mw md)] w fun e w' => ∃ tv, e = .returned (.tuple #[slV 3 d wt v, tv, .int .i64 0]) ∧ Below w.heap.size w w' ∧ Told w' w.heap.size tv 7 mt ml d := by
  go_enter Tryd.func102, Tryd.ntmps102
  have cw := (cw_start w 3 d wt v 5 mf mt ml mw md).next ((Below.refl _ _).alloc (Nat.le_refl _) (.cells #[.int .i64 3, .int .i64 d, .int .i64 wt, .int .i64 v] 33))
  have row : ((((w.alloc (.cells #[.int .i64 3, .int .i64 d, .int .i64 wt, .int .i64 v] 33)).alloc (.cells (six 5 mf mt ml mw md) 25)).alloc (.cells #[.int .i64 0, .int .i64 0, .int .i64 0, .int .i64 0] 33)).alloc (.cells #[.int .i64 3, .int .i64 d, .int .i64 wt, .int .i64 v] 33)).heap[w.heap.size]? = some (.cells #[.int .i64 3, .int .i64 d, .int .i64 wt, .int .i64 v] 33) := by
    rw [Below.heap_alloc _ _ _ (by simp; omega), Below.heap_alloc _ _ _ (by simp; omega), Below.heap_alloc _ _ _ (by simp)]; exact heap_alloc_new _ _
  have fz := fun i => frozen_of_row _ _ i _ _ row
  clear row
  go_wp2_with fail
  refine (l3To_b _ _ _ _ _).mono ?_
  rintro e w3 ⟨rfl, hb3, hh3⟩
  have hz3 := hb3.size
  simp at hz3
  have fy : ∀ i, w3.frozen? ⟨w.heap.size, i, none⟩ = false := fun i => (hb3.frozen (p := ⟨w.heap.size, i, none⟩) (by simp; omega)).trans (fz i)
  have kw := fun i => hb3.cell (p := ⟨w.heap.size + 1 + 1 + 1, i, none⟩) (by simp)
  replace cw := cw.next hb3
  have hh4 : Holds6 w3 (w.heap.size + 1 + 1 + 1 + 1) 7 mt 0 ml 0 d := by simpa using hh3
  have HH := hide hh4
  clear hb3 hh3 hh4 fz
  obtain ⟨⟨_, hz⟩, ⟨c0, c1, c2, c3⟩, ⟨x0, x1, x2, x3, x4, x5⟩, fr, r0, r1, r2, r3⟩ := id cw
  have HC := hide cw
  clear cw
  go_wp2
  refine bodyPost_ret (v := .tuple #[slV 3 d wt v, .slice (some ⟨w.heap.size + 1 + 1 + 1 + 1, 0, none⟩) 1 1, .int .i64 0]) (by simp [results, Tryd.results102, go_sem, r0, r1, r2, r3]) rfl ⟨_, rfl, ?_, .inr ⟨by decide, w.heap.size + 1 + 1 + 1 + 1, by omega, rfl, HH.out.put4 (by omega) _ _ _ _⟩⟩
  repeat' (first | exact HC.out.1.1 | refine Below.setCell ?_ (by simp <;> omega) _)

set_option maxHeartbeats 2000000 in
theorem l3_5O1 (d mf mt ml md : Int) (w : World) : Calls Tryd.prog 102 #[slV 2 d 0 0, .agg (six 5 mf mt ml 1 md)] w fun e w' => ∃ tv, e = .returned (.tuple #[slV 1 d 0 0, tv, .int .i64 0]) ∧ Below w.heap.size w w' ∧ Told w' w.heap.size tv 7 mt ml d := by
  go_enter Tryd.func102, Tryd.ntmps102
  have cw := (cw_start w 2 d 0 0 5 mf mt ml 1 md).next ((Below.refl _ _).alloc (Nat.le_refl _) (.cells #[.int .i64 2, .int .i64 d, .int .i64 0, .int .i64 0] 33))
  have row : ((((w.alloc (.cells #[.int .i64 2, .int .i64 d, .int .i64 0, .int .i64 0] 33)).alloc (.cells (six 5 mf mt ml 1 md) 25)).alloc (.cells #[.int .i64 0, .int .i64 0, .int .i64 0, .int .i64 0] 33)).alloc (.cells #[.int .i64 2, .int .i64 d, .int .i64 0, .int .i64 0] 33)).heap[w.heap.size]? = some (.cells #[.int .i64 2, .int .i64 d, .int .i64 0, .int .i64 0] 33) := by
    rw [Below.heap_alloc _ _ _ (by simp; omega), Below.heap_alloc _ _ _ (by simp; omega), Below.heap_alloc _ _ _ (by simp)]; exact heap_alloc_new _ _
  have fz := fun i => frozen_of_row _ _ i _ _ row
  clear row
  go_wp2_with fail
  refine (l3To_b _ _ _ _ _).mono ?_
  rintro e w3 ⟨rfl, hb3, hh3⟩
  have hz3 := hb3.size
  simp at hz3
  have fy : ∀ i, w3.frozen? ⟨w.heap.size, i, none⟩ = false := fun i => (hb3.frozen (p := ⟨w.heap.size, i, none⟩) (by simp; omega)).trans (fz i)
  have kw := fun i => hb3.cell (p := ⟨w.heap.size + 1 + 1 + 1, i, none⟩) (by simp)
  replace cw := cw.next hb3
  have hh4 : Holds6 w3 (w.heap.size + 1 + 1 + 1 + 1) 7 mt 0 ml 0 d := by simpa using hh3
  have HH := hide hh4
  clear hb3 hh3 hh4 fz
  obtain ⟨⟨_, hz⟩, ⟨c0, c1, c2, c3⟩, ⟨x0, x1, x2, x3, x4, x5⟩, fr, r0, r1, r2, r3⟩ := id cw
  have HC := hide cw
  clear cw
  go_wp2
  refine bodyPost_ret (v := .tuple #[slV 1 d 0 0, .slice (some ⟨w.heap.size + 1 + 1 + 1 + 1, 0, none⟩) 1 1, .int .i64 0]) (by simp [results, Tryd.results102, go_sem, r0, r1, r2, r3]) rfl ⟨_, rfl, ?_, .inr ⟨by decide, w.heap.size + 1 + 1 + 1 + 1, by omega, rfl, (HH.out.put1 (by omega) _).put4 (by omega) _ _ _ _⟩⟩
  repeat' (first | exact HC.out.1.1 | refine Below.setCell ?_ (by simp <;> omega) _)

set_option maxHeartbeats 2000000 in
theorem l3_5O2 (d mf mt ml md : Int) (w : World) : Calls Tryd.prog 102 #[slV 2 d 0 0, .agg (six 5 mf mt ml 2 md)] w fun e w' => ∃ tv, e = .returned (.tuple #[slV 0 0 0 0, tv, .int .i64 0]) ∧ Below w.heap.size w w' ∧ Told w' w.heap.size tv 7 mt ml d := by
  go_enter Tryd.func102, Tryd.ntmps102
  have cw := (cw_start w 2 d 0 0 5 mf mt ml 2 md).next ((Below.refl _ _).alloc (Nat.le_refl _) (.cells #[.int .i64 2, .int .i64 d, .int .i64 0, .int .i64 0] 33))
  have row : ((((w.alloc (.cells #[.int .i64 2, .int .i64 d, .int .i64 0, .int .i64 0] 33)).alloc (.cells (six 5 mf mt ml 2 md) 25)).alloc (.cells #[.int .i64 0, .int .i64 0, .int .i64 0, .int .i64 0] 33)).alloc (.cells #[.int .i64 2, .int .i64 d, .int .i64 0, .int .i64 0] 33)).heap[w.heap.size]? = some (.cells #[.int .i64 2, .int .i64 d, .int .i64 0, .int .i64 0] 33) := by
    rw [Below.heap_alloc _ _ _ (by simp; omega), Below.heap_alloc _ _ _ (by simp; omega), Below.heap_alloc _ _ _ (by simp)]; exact heap_alloc_new _ _
  have fz := fun i => frozen_of_row _ _ i _ _ row
  clear row
  go_wp2_with fail
  refine (l3To_b _ _ _ _ _).mono ?_
  rintro e w3 ⟨rfl, hb3, hh3⟩
  have hz3 := hb3.size
  simp at hz3
  have fy : ∀ i, w3.frozen? ⟨w.heap.size, i, none⟩ = false := fun i => (hb3.frozen (p := ⟨w.heap.size, i, none⟩) (by simp; omega)).trans (fz i)
  have kw := fun i => hb3.cell (p := ⟨w.heap.size + 1 + 1 + 1, i, none⟩) (by simp)
  replace cw := cw.next hb3
  have hh4 : Holds6 w3 (w.heap.size + 1 + 1 + 1 + 1) 7 mt 0 ml 0 d := by simpa using hh3
  have HH := hide hh4
  clear hb3 hh3 hh4 fz
  obtain ⟨⟨_, hz⟩, ⟨c0, c1, c2, c3⟩, ⟨x0, x1, x2, x3, x4, x5⟩, fr, r0, r1, r2, r3⟩ := id cw
  have HC := hide cw
  clear cw
  go_wp2
  refine bodyPost_ret (v := .tuple #[slV 0 0 0 0, .slice (some ⟨w.heap.size + 1 + 1 + 1 + 1, 0, none⟩) 1 1, .int .i64 0]) (by simp [results, Tryd.results102, go_sem, r0, r1, r2, r3]) rfl ⟨_, rfl, ?_, .inr ⟨by decide, w.heap.size + 1 + 1 + 1 + 1, by omega, rfl, HH.out.put4 (by omega) _ _ _ _⟩⟩
  repeat' (first | exact HC.out.1.1 | refine Below.setCell ?_ (by simp <;> omega) _)

set_option maxHeartbeats 2000000 in
theorem l3_5N (st d wt v mf mt ml mw md : Int) (w : World) (n3 : (st == 3) = false) (n2 : (st != 2) = true) : Calls Tryd.prog 102 #[slV st d wt v, .agg (six 5 mf mt ml mw md)] w fun e w' => ∃ tv, e = .returned (.tuple #[slV st d wt v, tv, .int .i64 4]) ∧ Below w.heap.size w w' ∧ Told w' w.heap.size tv 0 mt ml 0 := by
  go_enter Tryd.func102, Tryd.ntmps102
  have cw := (cw_start w st d wt v 5 mf mt ml mw md).next ((Below.refl _ _).alloc (Nat.le_refl _) (.cells #[.int .i64 st, .int .i64 d, .int .i64 wt, .int .i64 v] 33))
  have row : ((((w.alloc (.cells #[.int .i64 st, .int .i64 d, .int .i64 wt, .int .i64 v] 33)).alloc (.cells (six 5 mf mt ml mw md) 25)).alloc (.cells #[.int .i64 0, .int .i64 0, .int .i64 0, .int .i64 0] 33)).alloc (.cells #[.int .i64 st, .int .i64 d, .int .i64 wt, .int .i64 v] 33)).heap[w.heap.size]? = some (.cells #[.int .i64 st, .int .i64 d, .int .i64 wt, .int .i64 v] 33) := by
    rw [Below.heap_alloc _ _ _ (by simp; omega), Below.heap_alloc _ _ _ (by simp; omega), Below.heap_alloc _ _ _ (by simp)]; exact heap_alloc_new _ _
  have fz := fun i => frozen_of_row _ _ i _ _ row
  clear row
  go_wp2_with fail
  refine (l3To_b _ _ _ _ _).mono ?_
  rintro e w3 ⟨rfl, hb3, hh3⟩
  have hz3 := hb3.size
  simp at hz3
  have fy : ∀ i, w3.frozen? ⟨w.heap.size, i, none⟩ = false := fun i => (hb3.frozen (p := ⟨w.heap.size, i, none⟩) (by simp; omega)).trans (fz i)
  have kw := fun i => hb3.cell (p := ⟨w.heap.size + 1 + 1 + 1, i, none⟩) (by simp)
  replace cw := cw.next hb3
  have hh4 : Holds6 w3 (w.heap.size + 1 + 1 + 1 + 1) 7 mt 0 ml 0 d := by simpa using hh3
  have HH := hide hh4
  clear hb3 hh3 hh4 fz
  obtain ⟨⟨_, hz⟩, ⟨c0, c1, c2, c3⟩, ⟨x0, x1, x2, x3, x4, x5⟩, fr, r0, r1, r2, r3⟩ := id cw
  have HC := hide cw
  clear cw
  go_wp2
  refine bodyPost_ret (v := .tuple #[slV st d wt v, .slice none 0 0, .int .i64 4]) (by simp [results, Tryd.results102, go_sem, r0, r1, r2, r3]) rfl ⟨_, rfl, ?_, .inl ⟨rfl, rfl⟩⟩
  repeat' (first | exact HC.out.1.1 | refine Below.setCell ?_ (by simp <;> omega) _)

set_option maxHeartbeats 2000000 in
theorem l3_8N (st d wt v mf mt ml mw md : Int) (w : World) (nw : (wt != mw) = true) : Calls Tryd.prog 102 #[slV st d wt v, .agg (six 8 mf mt ml mw md)] w fun e w' => ∃ tv, e = .returned (.tuple #[slV st d wt v, tv, .int .i64 4]) ∧ Below w.heap.size w w' ∧ Told w' w.heap.size tv 0 mt ml 0 := by
  go_enter Tryd.func102, Tryd.ntmps102
  go_wp2
  refine bodyPost_ret (v := .tuple #[slV st d wt v, .slice none 0 0, .int .i64 4]) (by simp [results, Tryd.results102, go_sem]) rfl ⟨_, rfl, ?_, .inl ⟨rfl, rfl⟩⟩
  repeat' (first | exact Below.refl _ _ | refine Below.setCell ?_ (by simp <;> omega) _ | refine Below.alloc ?_ (by simp <;> omega) _)

set_option maxHeartbeats 2000000 in
theorem l3_81 (st d v mf mt ml md : Int) (w : World) : Calls Tryd.prog 102 #[slV st d 1 v, .agg (six 8 mf mt ml 1 md)] w fun e w' => ∃ tv, e = .returned (.tuple #[slV 1 md 0 0, tv, .int .i64 0]) ∧ Below w.heap.size w w' ∧ Told w' w.heap.size tv 0 mt ml 0 := by
  go_enter Tryd.func102, Tryd.ntmps102
  go_wp2
  refine bodyPost_ret (v := .tuple #[slV 1 md 0 0, .slice none 0 0, .int .i64 0]) (by simp [results, Tryd.results102, go_sem]) rfl ⟨_, rfl, ?_, .inl ⟨rfl, rfl⟩⟩
  repeat' (first | exact Below.refl _ _ | refine Below.setCell ?_ (by simp <;> omega) _ | refine Below.alloc ?_ (by simp <;> omega) _)

set_option maxHeartbeats 2000000 in
theorem l3_82 (st d v mf mt ml md : Int) (w : World) : Calls Tryd.prog 102 #[slV st d 2 v, .agg (six 8 mf mt ml 2 md)] w fun e w' => ∃ tv, e = .returned (.tuple #[slV 2 v 0 0, tv, .int .i64 0]) ∧ Below w.heap.size w w' ∧ Told w' w.heap.size tv 0 mt ml 0 := by
  go_enter Tryd.func102, Tryd.ntmps102
  go_wp2
  refine bodyPost_ret (v := .tuple #[slV 2 v 0 0, .slice none 0 0, .int .i64 0]) (by simp [results, Tryd.results102, go_sem]) rfl ⟨_, rfl, ?_, .inl ⟨rfl, rfl⟩⟩
  repeat' (first | exact Below.refl _ _ | refine Below.setCell ?_ (by simp <;> omega) _ | refine Below.alloc ?_ (by simp <;> omega) _)

set_option maxHeartbeats 2000000 in
theorem l3_9N (st d wt v mf mt ml mw md : Int) (w : World) (n3 : (st != 3) = true) : Calls Tryd.prog 102 #[slV st d wt v, .agg (six 9 mf mt ml mw md)] w fun e w' => ∃ tv, e = .returned (.tuple #[slV st d wt v, tv, .int .i64 4]) ∧ Below w.heap.size w w' ∧ Told w' w.heap.size tv 0 mt ml 0 := by
  go_enter Tryd.func102, Tryd.ntmps102
  go_wp2
  refine bodyPost_ret (v := .tuple #[slV st d wt v, .slice none 0 0, .int .i64 4]) (by simp [results, Tryd.results102, go_sem]) rfl ⟨_, rfl, ?_, .inl ⟨rfl, rfl⟩⟩
  repeat' (first | exact Below.refl _ _ | refine Below.setCell ?_ (by simp <;> omega) _ | refine Below.alloc ?_ (by simp <;> omega) _)

set_option maxHeartbeats 2000000 in
theorem l3_9L (d wt v mf mt ml mw md : Int) (w : World) : Calls Tryd.prog 102 #[slV 3 d wt v, .agg (six 9 mf mt ml mw md)] w fun e w' => ∃ tv, e = .returned (.tuple #[slV 0 0 0 0, tv, .int .i64 0]) ∧ Below w.heap.size w w' ∧ Told w' w.heap.size tv 0 mt ml 0 := by
  go_enter Tryd.func102, Tryd.ntmps102
  go_wp2
  refine bodyPost_ret (v := .tuple #[slV 0 0 0 0, .slice none 0 0, .int .i64 0]) (by simp [results, Tryd.results102, go_sem]) rfl ⟨_, rfl, ?_, .inl ⟨rfl, rfl⟩⟩
  repeat' (first | exact Below.refl _ _ | refine Below.setCell ?_ (by simp <;> omega) _ | refine Below.alloc ?_ (by simp <;> omega) _)

end Go.Proofs.YtjhaloeahidplaaDoor
