/- move.answer, a state (written by mkSlF.py) -/
import Derived.Test.YtjhaloeahidplaaDoorSlF
namespace Go.Proofs.YtjhaloeahidplaaDoor
open Go.RowKit

theorem nil_O0 (x : Value) (w : World) : (nilAhead 336 166 x "loop.example/g00384/impl.slot").run Tryd.prog w = .ok (some false) w := by kernel_rfl
theorem meth_O0 (x : Value) (w : World) : (method 336 166 x "loop.example/g00384/impl.slot").run Tryd.prog w = .ok (228, x) w := by kernel_rfl

set_option maxHeartbeats 2000000 in
theorem answer_O0 (d dd c core line : Int) (w : World) : Calls Tryd.prog 89 #[mvV (vO d) 0 dd c, .int .i64 core, .int .i64 line] w fun e w' => e = .returned (.tuple #[slV 2 d 0 0, .slice none 0 0, .int .i64 c]) ∧ Below w.heap.size w w' := by
  have hm := meth_O0
  have hn := nil_O0
  go_enter Tryd.func89, Tryd.ntmps89
  go_wp2
  go_region_with (go_at_call 228; refine (slot_O d _).mono ?_; rintro e w1 ⟨rfl, hb1⟩; have hc1 := fun i => hb1.cell (p := ⟨w.heap.size + 1, i, none⟩) (by simp <;> omega); have hf1 := fun i => hb1.frozen (p := ⟨w.heap.size + 1, i, none⟩) (by simp <;> omega); have hd1 := fun i => hb1.cell (p := ⟨w.heap.size, i, none⟩) (by simp <;> omega))
  all_goals go_wp2
  all_goals refine bodyPost_ret (v := .tuple #[slV 2 d 0 0, .slice none 0 0, .int .i64 c]) (by simp [results, Tryd.results89, go_sem, Act.put, hc1]) rfl ⟨rfl, ?_⟩
  all_goals exact below_put4 ((show Below w.heap.size w _ by (repeat' (first | exact Below.refl _ _ | refine Below.drew ?_ | refine Below.alloc ?_ (by simp <;> omega) _))).trans (hb1.mono (by simp <;> omega))) (by omega) _ _ _ _

set_option maxHeartbeats 2000000 in
theorem answer_O1 (d k dd c core line : Int) (hk : (k != 0) = true) (w : World) : Calls Tryd.prog 89 #[mvV (vO d) k dd c, .int .i64 core, .int .i64 line] w fun e w' => e = .returned (.tuple #[slV 2 d 0 0, .slice (some ⟨w.heap.size + 1 + 1, 0, none⟩) 1 1, .int .i64 c]) ∧ Below w.heap.size w w' ∧ Holds6 w' (w.heap.size + 1 + 1) k core 0 line 0 dd := by
  have hm := meth_O0
  have hn := nil_O0
  go_enter Tryd.func89, Tryd.ntmps89
  go_wp2
  go_region_with (go_at_call 228; refine (slot_O d _).mono ?_; rintro e w1 ⟨rfl, hb1⟩; have hc1 := fun i => hb1.cell (p := ⟨w.heap.size + 1, i, none⟩) (by simp <;> omega); have hf1 := fun i => hb1.frozen (p := ⟨w.heap.size + 1, i, none⟩) (by simp <;> omega); have hd1 := fun i => hb1.cell (p := ⟨w.heap.size, i, none⟩) (by simp <;> omega))
  all_goals go_wp2
  all_goals refine bodyPost_ret (v := .tuple #[slV 2 d 0 0, .slice (some ⟨w.heap.size + 1 + 1, 0, none⟩) 1 1, .int .i64 c]) (by simp [results, Tryd.results89, go_sem, Act.put, hc1]) rfl ⟨rfl, ?_⟩
  all_goals exact ⟨below_put4 ((show Below w.heap.size w _ by (repeat' (first | exact Below.refl _ _ | refine Below.drew ?_ | refine Below.alloc ?_ (by simp <;> omega) _))).trans (hb1.mono (by simp <;> omega))) (by omega) _ _ _ _, ((holds6_alloc _ k core 0 line 0 dd (n := w.heap.size + 1 + 1) (by simp)).drew.next hb1).put4 (by omega) _ _ _ _⟩

end Go.Proofs.YtjhaloeahidplaaDoor
