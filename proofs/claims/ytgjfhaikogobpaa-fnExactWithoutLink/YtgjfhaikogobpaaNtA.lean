/- a pair of numbers: copied, compared -/
import Derived.Test.YtgjfhaikogobpaaA
import Derived.Test.YtgjfhaikogobpaaChA
import Derived.Test.YtgjfhaikogobpaaRwA
import Derived.Test.YtgjfhaikogobpaaChecked
import Derived.WalkSmall
import Derived.Deep.RegionHeld3
namespace Go.Proofs.Ytgjfhaikogobpaa
open Go.RowKit
set_option linter.unusedVariables false
set_option linter.unusedSimpArgs false

theorem ret_b {a b : Bool} (h : a = b) : Ending.returned (.bool a) = .returned (.bool b) := by rw [h]
abbrev pr (x y : Int) : Array Value := #[.int .i64 x, .int .i64 y]
theorem row2_facts {w : World} {B : Nat} {T : TypeId} {v0 v1 : Value} (h : w.heap[B]? = some (.cells #[v0, v1] T (0, 0))) : (∀ i, w.frozen? ⟨B, i, none⟩ = false) ∧ w.cell? ⟨B, 0, none⟩ = some v0 ∧ w.cell? ⟨B, 1, none⟩ = some v1 :=
  ⟨fun i => frozen_of_row _ _ i _ _ h, (cell_of_row _ _ _ _ _ _ h).trans rfl, (cell_of_row _ _ _ _ _ _ h).trans rfl⟩

/-- where the copy stands: the argument, the answer, the copy -/
structure P2 (w wr : World) (x y u v : Int) : Prop where
  a : wr.heap[w.heap.size]? = some (.cells (pr x y) 42 (0, 0))
  b : wr.heap[w.heap.size + 1]? = some (.cells (pr 0 0) 42 (0, 0))
  c : wr.heap[w.heap.size + 1 + 1]? = some (.cells (pr u v) 42 (0, 0))
  d : Below w.heap.size w wr

theorem P2.start (w : World) (x y : Int) : P2 w (((w.alloc (.cells (pr x y) 42)).alloc (.cells (pr 0 0) 42)).alloc (.cells (pr 0 0) 42)) x y 0 0 := by
  refine ⟨?_, ?_, ?_, ?_⟩
  · rw [Below.heap_alloc _ _ _ (by simp; omega), Below.heap_alloc _ _ _ (by simp)]; exact heap_alloc_new _ _
  · rw [Below.heap_alloc _ _ _ (by simp)]; have := heap_alloc_new (w.alloc (.cells (pr x y) 42)) (.cells (pr 0 0) 42); simpa only [World.size_alloc] using this
  · have := heap_alloc_new ((w.alloc (.cells (pr x y) 42)).alloc (.cells (pr 0 0) 42)) (.cells (pr 0 0) 42); simpa only [World.size_alloc] using this
  · exact (((Below.refl _ _).alloc (Nat.le_refl _) _).alloc (by simp) _).alloc (by simp; omega) _
theorem P2.set0 {w wr : World} {x y u v : Int} (h : P2 w wr x y u v) (u' : Int) : P2 w (wr.setCell ⟨w.heap.size + 1 + 1, 0, none⟩ (.int .i64 u')) x y u' v := by
  refine ⟨?_, ?_, ?_, h.d.setCell (by simp <;> omega) _⟩
  · rw [heap_setCell_other _ _ _ _ (by simp; omega)]; exact h.a
  · rw [heap_setCell_other _ _ _ _ (by simp)]; exact h.b
  · rw [heap_setCell_same _ _ 0 _ _ _ h.c]; rfl
theorem P2.set1 {w wr : World} {x y u v : Int} (h : P2 w wr x y u v) (v' : Int) : P2 w (wr.setCell ⟨w.heap.size + 1 + 1, 1, none⟩ (.int .i64 v')) x y u v' := by
  refine ⟨?_, ?_, ?_, h.d.setCell (by simp <;> omega) _⟩
  · rw [heap_setCell_other _ _ _ _ (by simp; omega)]; exact h.a
  · rw [heap_setCell_other _ _ _ _ (by simp)]; exact h.b
  · rw [heap_setCell_same _ _ 1 _ _ _ h.c]; rfl

set_option maxHeartbeats 1000000 in
theorem toA2_any (x y : Int) (w : World) : Calls Try.prog 46 #[.agg (pr x y)] w fun e w' => e = .returned (.agg (pr x y)) ∧ Below w.heap.size w w' := by
  have HS := hide (P2.start w x y)
  go_enter Try.func46, Try.ntmps46
  go_wp2
  go_loopw [4] (fun i wr => ∃ k : Nat, k ≤ 2 ∧ i = .int .i64 k ∧ P2 w wr x y (if 0 < k then x else 0) (if 1 < k then y else 0)) (fun i _ => 2 - (intOf i).toNat)
  case atStart => exact ⟨0, by decide, rfl, HS.out⟩
  case round =>
    obtain ⟨k, hk, rfl, hp⟩ := hrel
    clear HS
    match k, hk with
    | 0, _ =>
      obtain ⟨_, a0, a1⟩ := row2_facts hp.a
      obtain ⟨fr, c0, c1⟩ := row2_facts hp.c
      have HP := hide (hp.set0 x)
      clear hp
      go_wp2
      go_roundw
      case rel => exact ⟨1, by decide, rfl, HP.out⟩
      case measure => simp [intOf]
    | 1, _ =>
      obtain ⟨_, a0, a1⟩ := row2_facts hp.a
      obtain ⟨fr, c0, c1⟩ := row2_facts hp.c
      have HP := hide (hp.set1 y)
      clear hp
      go_wp2
      go_roundw
      case rel => exact ⟨2, by decide, rfl, HP.out⟩
      case measure => simp [intOf]
    | 2, _ =>
      obtain ⟨fr, b0, b1⟩ := row2_facts hp.b
      obtain ⟨_, c0, c1⟩ := row2_facts hp.c
      have HB := hide hp.d
      clear hp
      go_wp2
      refine bodyPost_ret (v := .agg (pr x y)) (by simp [results, Try.results46, go_sem, b0, b1]) rfl ⟨rfl, ?_⟩
      repeat' (first | exact HB.out | refine Below.setCell ?_ (by simp <;> omega) _ )

set_option maxHeartbeats 1000000 in
theorem eqA2_same (x y : Int) (w : World) : Calls Try.prog 47 #[.agg (pr x y), .agg (pr x y)] w fun e w' => e = .returned (.bool true) ∧ Below w.heap.size w w' := by
  have eA : ((w.alloc (.cells (pr x y) 42)).alloc (.cells (pr x y) 42)).heap[w.heap.size]? = some (.cells (pr x y) 42 (0, 0)) := by
    rw [Below.heap_alloc _ _ _ (by simp)]; exact heap_alloc_new _ _
  have eB : ((w.alloc (.cells (pr x y) 42)).alloc (.cells (pr x y) 42)).heap[w.heap.size + 1]? = some (.cells (pr x y) 42 (0, 0)) := by
    have := heap_alloc_new (w.alloc (.cells (pr x y) 42)) (.cells (pr x y) 42); simpa only [World.size_alloc] using this
  have HB : Hid (Below w.heap.size w ((w.alloc (.cells (pr x y) 42)).alloc (.cells (pr x y) 42))) := hide (((Below.refl _ _).alloc (Nat.le_refl _) _).alloc (by simp) _)
  have HE := hide (And.intro eA eB)
  clear eA eB
  go_enter Try.func47, Try.ntmps47
  go_wp2
  go_loopw [5] (fun i wr => ∃ k : Nat, k ≤ 2 ∧ i = .int .i64 k ∧ wr.heap[w.heap.size]? = some (.cells (pr x y) 42 (0, 0)) ∧ wr.heap[w.heap.size + 1]? = some (.cells (pr x y) 42 (0, 0)) ∧ Hid (Below w.heap.size w wr)) (fun i _ => 2 - (intOf i).toNat)
  case atStart => exact ⟨0, by decide, rfl, HE.out.1, HE.out.2, HB⟩
  case round =>
    obtain ⟨k, hk, rfl, hA, hB, HW⟩ := hrel
    clear HB HE
    obtain ⟨_, a0, a1⟩ := row2_facts hA
    obtain ⟨_, b0, b1⟩ := row2_facts hB
    match k, hk with
    | 0, _ =>
      go_wp2
      go_region
      all_goals go_wp2
      all_goals go_roundw
      case rel => exact ⟨1, by decide, rfl, hA, hB, hide HW.out.drew⟩
      case measure => simp [intOf]
    | 1, _ =>
      go_wp2
      go_region
      all_goals go_wp2
      all_goals go_roundw
      case rel => exact ⟨2, by decide, rfl, hA, hB, hide HW.out.drew⟩
      case measure => simp [intOf]
    | 2, _ =>
      go_wp2
      go_ret
      exact ⟨rfl, HW.out⟩

end Go.Proofs.Ytgjfhaikogobpaa
