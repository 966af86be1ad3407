/- impl: a set looked up (written by mkCaY2.py) -/
import Derived.Test.YtlijgkodcbnhbaaCaY
import Derived.Test.YtlijgkodcbnhbaaCaK
namespace Go.Proofs.Ytlijgkodcbnhbaa
open Go.RowKit
set_option linter.unusedVariables false
set_option linter.unusedSimpArgs false

theorem info71 : (Try.prog.info? 43).map (·.size) = some 9 := by kernel_rfl
theorem results_cell_tmp2 {fn : Func} {p u v : Tmp} {ty : TypeId} (h : fn.results = #[.cell p ty, .tmp u, .tmp v]) (tmps : Array Value) (P : Program) (w : World) :
    (results fn tmps).run P w = ((asAddr (tmps.getD p undef)).run P w).andThen fun a w₁ => ((loadVar ty a).run P w₁).andThen fun x w₂ => .ok (.tuple #[x, tmps.getD u undef, tmps.getD v undef]) w₂ := by
  simp only [results, h]
  simp [Sem.run_bind, Result.andThen]
theorem there71 {W : World} {g : Nat} {C : Array Value} (h : W.heap[g]? = some (.cells C 43 (0, 0))) (hC : C.size = 9) : W.there g 0 9 := fun j hj => by
  rw [cell_of_row _ _ _ _ _ _ h, Nat.zero_add]
  exact ⟨by simp; omega, frozen_of_row _ _ _ _ _ h⟩
theorem read71 {W : World} {g : Nat} {C C' : Array Value} (h : W.heap[g]? = some (.cells C' 43 (0, 0))) (hC' : C'.size = 9) (hC : C.size = 9) : (loadVar 43 ⟨g, 0, none⟩).run Try.prog (W.setCells g 0 C.toList) = .ok (.agg C) (W.setCells g 0 C.toList) := by
  have h1 := World.rangeAt_setCells_same W g 0 C.toList (by have := there71 h hC'; rw [show C.toList.length = 9 by simpa using hC]; exact this)
  have h2 := run_loadVar_mid (P := Try.prog) _ g 0 43 C.toList _ h1 Try.underlying43 rfl (by rw [info71]; simp [hC])
  simpa using h2
theorem put71 {W : World} {g : Nat} {C C' : Array Value} (h : W.heap[g]? = some (.cells C' 43 (0, 0))) (hC' : C'.size = 9) (hC : C.size = 9) (ho : ∀ v ∈ C.toList, v.oneCell' = true) : (storeCells ⟨g, 0, none⟩ C.toList).run Try.prog W = .ok () (W.setCells g 0 C.toList) := by
  have h2 := there71 h hC'
  exact run_storeCells_cells (P := Try.prog) g 0 C.toList 0 W (fun j hj => by simpa using (h2 j (by simpa [hC] using hj)).1) (fun j hj => by simpa using (h2 j (by simpa [hC] using hj)).2) ho
theorem range71 {W : World} {g : Nat} {C : Array Value} (h : W.heap[g]? = some (.cells C 43 (0, 0))) : W.rangeAt g 0 C.toList := fun j v hv => by rw [cell_of_row _ _ _ _ _ _ h, Nat.zero_add]; simpa using hv

abbrev z9 : Array Value := #[.int .i64 0, .bool false, .int .i64 0, .bool false, .int .i64 0, .bool false, .int .i64 0, .bool false, .int .i64 0]

set_option maxHeartbeats 2000000 in
set_option maxRecDepth 20000 in
theorem lookedS_any (s : Sm) (x : Int) (w : World) (hb : inR s.b 7 = true) : Calls Try.prog 27 #[.agg (c9 s), .int .i64 x] w fun e w' => e = .returned (.tuple #[.agg (c9 (Ca.lk s x)), .bool (Ca.hd s x), .int .i64 (Ca.gn s x)]) ∧ Below w.heap.size w w' := by
  obtain ⟨W, hW⟩ : ∃ W, (w.alloc (.cells (c9 s) 43)).alloc (.cells z9 43) = W := ⟨_, rfl⟩
  have hg : W.heap[w.heap.size]? = some (.cells (c9 s) 43 (0, 0)) := by rw [← hW]; exact heap_a (heap_alloc_new _ _) _
  have hr : W.heap[w.heap.size + 1]? = some (.cells z9 43 (0, 0)) := by
    rw [← hW]
    have := heap_alloc_new (w.alloc (.cells (c9 s) 43)) (.cells z9 43)
    simpa only [World.size_alloc] using this
  have hB : Below w.heap.size w W := by rw [← hW]; exact ((Below.refl _ _).alloc (Nat.le_refl _) _).alloc (by simp) _
  obtain ⟨c0, c1, c2, c3, c4, c5, c6, c7, c8⟩ := nine hg
  have hp := fun w => placeFor_any s x w hb
  have hwr := Ca.wy_range (x := x) hb
  have ht := fun w => touched_all s.b (Ca.wy s x) w
  have HK : Hid (Ca.lk s x = ⟨Plru.tI s.b (Ca.wy s x), fun k => if (k : Int) = Ca.wy s x then true else s.u k, fun k => if (k : Int) = Ca.wy s x then x else s.a k⟩) := hide rfl
  rw [HK.out]
  clear HK
  generalize Ca.hd s x = hh at hp
  generalize Ca.gn s x = gg at hp
  generalize Ca.wy s x = wy at hp hwr ht
  generalize Plru.tI s.b wy = tt at ht
  rcases hwr with rfl | rfl | rfl | rfl
  · go_enter Try.func27, Try.ntmps27
    go_wp2_with fail
    refine (hp _).mono ?_
    rintro e w1 ⟨rfl, hb1⟩
    have hB1 := hB.trans (hb1.mono hB.size)
    have hg1 := heap_b hg hb1
    have hr1 := heap_b hr hb1
    clear c0 c1 c2 c3 c4 c5 c6 c7 c8 hp hW
    obtain ⟨W2, hW2⟩ : ∃ W2, (w1.setCell ⟨w.heap.size, 1, none⟩ (.bool true)).setCell ⟨w.heap.size, 2, none⟩ (.int .i64 x) = W2 := ⟨_, rfl⟩
    have hg2 : W2.heap[w.heap.size]? = some (.cells (((c9 s).setIfInBounds 1 (.bool true)).setIfInBounds 2 (.int .i64 x)) 43 (0, 0)) := by rw [← hW2]; exact heap_setCell_same _ _ 2 _ _ _ (heap_setCell_same _ _ 1 _ _ _ hg1)
    have hr2 : W2.heap[w.heap.size + 1]? = some (.cells z9 43 (0, 0)) := by rw [← hW2, heap_setCell_other _ _ _ _ (by simp), heap_setCell_other _ _ _ _ (by simp)]; exact hr1
    have hB2 : Below w.heap.size w W2 := by rw [← hW2]; exact (hB1.setCell (by simp) _).setCell (by simp) _
    obtain ⟨c0, c1, c2, c3, c4, c5, c6, c7, c8⟩ := nine hg1
    have f1 := fun i => frozen_of_row _ _ i _ _ hg1
    have e0 : W2.cell? ⟨w.heap.size, 0, none⟩ = some (.int .i64 s.b) := cell_of_row _ _ 0 _ _ _ hg2
    go_wp2_with fail
    clear c0 c1 c2 c3 c4 c5 c6 c7 c8 f1 hW2 hB1 hg1 hr1 e0
    refine (ht _).mono ?_
    rintro e w3 ⟨rfl, hb3⟩
    have hB3 := hB2.trans (hb3.mono hB2.size)
    have hg3 := heap_b hg2 hb3
    have hr3 := heap_b hr2 hb3
    have c0 : ∃ z, w3.cell? ⟨w.heap.size, 0, none⟩ = some z := ⟨_, cell_of_row _ _ 0 _ _ _ hg3⟩
    obtain ⟨z0, c0⟩ := c0
    have f3 := fun i => frozen_of_row _ _ i _ _ hg3
    obtain ⟨W4, hW4⟩ : ∃ W4, w3.setCell ⟨w.heap.size, 0, none⟩ (.int .i64 tt) = W4 := ⟨_, rfl⟩
    have hg4 : W4.heap[w.heap.size]? = some (.cells #[.int .i64 tt, .bool true, .int .i64 x, .bool (s.u 1), .int .i64 (s.a 1), .bool (s.u 2), .int .i64 (s.a 2), .bool (s.u 3), .int .i64 (s.a 3)] 43 (0, 0)) := by rw [← hW4]; exact heap_setCell_same _ _ 0 _ _ _ hg3
    have hr4 : W4.heap[w.heap.size + 1]? = some (.cells z9 43 (0, 0)) := by rw [← hW4, heap_setCell_other _ _ _ _ (by simp)]; exact hr3
    have HB4 : Hid (Below w.heap.size w W4) := hide (by rw [← hW4]; exact hB3.setCell (by simp) _)
    obtain ⟨C, hC⟩ : ∃ C : Array Value, #[.int .i64 tt, .bool true, .int .i64 x, .bool (s.u 1), .int .i64 (s.a 1), .bool (s.u 2), .int .i64 (s.a 2), .bool (s.u 3), .int .i64 (s.a 3)] = C := ⟨_, rfl⟩
    have hCs : C.size = 9 := by rw [← hC]; rfl
    have hone : ∀ v ∈ C.toList, v.oneCell' = true := by rw [← hC]; intro v hv; simp at hv; rcases hv with h | h | h | h | h | h | h | h | h <;> subst h <;> rfl
    rw [hC] at hg4
    have HL := hide (range71 hg4)
    have hst := put71 (C := C) hr4 rfl hCs hone
    have HR := hide (read71 (C := C) hr4 rfl hCs)
    have hsz : C.toList.length = 9 := by simpa using hCs
    have HC := hide hC
    clear hb3 hB2 hB3 hg2 hg3 hr2 hr3 hg4 hr4 hC hone
    go_wp2_with ((with_reducible refine wpList_load_mid (op := { dst := some 27, op := Op.load 43 (Operand.tmp 2), type := 43, pos := _, after := _, guard := none }) ?_ 43 (Operand.tmp 2) ?_ w.heap.size 0 ?_ C.toList _ HL.out Try.underlying43 ?_ ?_ ?_); (· rfl); (· rfl); (· rfl); (· rfl); (· rw [info71, hsz]))
    refine bodyPost_ret (v := .tuple #[.agg C, .bool hh, .int .i64 gg]) ?_ rfl ⟨by rw [← HC.out]; rfl, below_setCells HB4.out (by omega) _ _⟩
    rw [results_cell_tmp2 Try.results27]
    have HR2 := HR.out
    simp [asAddr, HR2]
  · go_enter Try.func27, Try.ntmps27
    go_wp2_with fail
    refine (hp _).mono ?_
    rintro e w1 ⟨rfl, hb1⟩
    have hB1 := hB.trans (hb1.mono hB.size)
    have hg1 := heap_b hg hb1
    have hr1 := heap_b hr hb1
    clear c0 c1 c2 c3 c4 c5 c6 c7 c8 hp hW
    obtain ⟨W2, hW2⟩ : ∃ W2, (w1.setCell ⟨w.heap.size, 3, none⟩ (.bool true)).setCell ⟨w.heap.size, 4, none⟩ (.int .i64 x) = W2 := ⟨_, rfl⟩
    have hg2 : W2.heap[w.heap.size]? = some (.cells (((c9 s).setIfInBounds 3 (.bool true)).setIfInBounds 4 (.int .i64 x)) 43 (0, 0)) := by rw [← hW2]; exact heap_setCell_same _ _ 4 _ _ _ (heap_setCell_same _ _ 3 _ _ _ hg1)
    have hr2 : W2.heap[w.heap.size + 1]? = some (.cells z9 43 (0, 0)) := by rw [← hW2, heap_setCell_other _ _ _ _ (by simp), heap_setCell_other _ _ _ _ (by simp)]; exact hr1
    have hB2 : Below w.heap.size w W2 := by rw [← hW2]; exact (hB1.setCell (by simp) _).setCell (by simp) _
    obtain ⟨c0, c1, c2, c3, c4, c5, c6, c7, c8⟩ := nine hg1
    have f1 := fun i => frozen_of_row _ _ i _ _ hg1
    have e0 : W2.cell? ⟨w.heap.size, 0, none⟩ = some (.int .i64 s.b) := cell_of_row _ _ 0 _ _ _ hg2
    go_wp2_with fail
    clear c0 c1 c2 c3 c4 c5 c6 c7 c8 f1 hW2 hB1 hg1 hr1 e0
    refine (ht _).mono ?_
    rintro e w3 ⟨rfl, hb3⟩
    have hB3 := hB2.trans (hb3.mono hB2.size)
    have hg3 := heap_b hg2 hb3
    have hr3 := heap_b hr2 hb3
    have c0 : ∃ z, w3.cell? ⟨w.heap.size, 0, none⟩ = some z := ⟨_, cell_of_row _ _ 0 _ _ _ hg3⟩
    obtain ⟨z0, c0⟩ := c0
    have f3 := fun i => frozen_of_row _ _ i _ _ hg3
    obtain ⟨W4, hW4⟩ : ∃ W4, w3.setCell ⟨w.heap.size, 0, none⟩ (.int .i64 tt) = W4 := ⟨_, rfl⟩
    have hg4 : W4.heap[w.heap.size]? = some (.cells #[.int .i64 tt, .bool (s.u 0), .int .i64 (s.a 0), .bool true, .int .i64 x, .bool (s.u 2), .int .i64 (s.a 2), .bool (s.u 3), .int .i64 (s.a 3)] 43 (0, 0)) := by rw [← hW4]; exact heap_setCell_same _ _ 0 _ _ _ hg3
    have hr4 : W4.heap[w.heap.size + 1]? = some (.cells z9 43 (0, 0)) := by rw [← hW4, heap_setCell_other _ _ _ _ (by simp)]; exact hr3
    have HB4 : Hid (Below w.heap.size w W4) := hide (by rw [← hW4]; exact hB3.setCell (by simp) _)
    obtain ⟨C, hC⟩ : ∃ C : Array Value, #[.int .i64 tt, .bool (s.u 0), .int .i64 (s.a 0), .bool true, .int .i64 x, .bool (s.u 2), .int .i64 (s.a 2), .bool (s.u 3), .int .i64 (s.a 3)] = C := ⟨_, rfl⟩
    have hCs : C.size = 9 := by rw [← hC]; rfl
    have hone : ∀ v ∈ C.toList, v.oneCell' = true := by rw [← hC]; intro v hv; simp at hv; rcases hv with h | h | h | h | h | h | h | h | h <;> subst h <;> rfl
    rw [hC] at hg4
    have HL := hide (range71 hg4)
    have hst := put71 (C := C) hr4 rfl hCs hone
    have HR := hide (read71 (C := C) hr4 rfl hCs)
    have hsz : C.toList.length = 9 := by simpa using hCs
    have HC := hide hC
    clear hb3 hB2 hB3 hg2 hg3 hr2 hr3 hg4 hr4 hC hone
    go_wp2_with ((with_reducible refine wpList_load_mid (op := { dst := some 27, op := Op.load 43 (Operand.tmp 2), type := 43, pos := _, after := _, guard := none }) ?_ 43 (Operand.tmp 2) ?_ w.heap.size 0 ?_ C.toList _ HL.out Try.underlying43 ?_ ?_ ?_); (· rfl); (· rfl); (· rfl); (· rfl); (· rw [info71, hsz]))
    refine bodyPost_ret (v := .tuple #[.agg C, .bool hh, .int .i64 gg]) ?_ rfl ⟨by rw [← HC.out]; rfl, below_setCells HB4.out (by omega) _ _⟩
    rw [results_cell_tmp2 Try.results27]
    have HR2 := HR.out
    simp [asAddr, HR2]
  · go_enter Try.func27, Try.ntmps27
    go_wp2_with fail
    refine (hp _).mono ?_
    rintro e w1 ⟨rfl, hb1⟩
    have hB1 := hB.trans (hb1.mono hB.size)
    have hg1 := heap_b hg hb1
    have hr1 := heap_b hr hb1
    clear c0 c1 c2 c3 c4 c5 c6 c7 c8 hp hW
    obtain ⟨W2, hW2⟩ : ∃ W2, (w1.setCell ⟨w.heap.size, 5, none⟩ (.bool true)).setCell ⟨w.heap.size, 6, none⟩ (.int .i64 x) = W2 := ⟨_, rfl⟩
    have hg2 : W2.heap[w.heap.size]? = some (.cells (((c9 s).setIfInBounds 5 (.bool true)).setIfInBounds 6 (.int .i64 x)) 43 (0, 0)) := by rw [← hW2]; exact heap_setCell_same _ _ 6 _ _ _ (heap_setCell_same _ _ 5 _ _ _ hg1)
    have hr2 : W2.heap[w.heap.size + 1]? = some (.cells z9 43 (0, 0)) := by rw [← hW2, heap_setCell_other _ _ _ _ (by simp), heap_setCell_other _ _ _ _ (by simp)]; exact hr1
    have hB2 : Below w.heap.size w W2 := by rw [← hW2]; exact (hB1.setCell (by simp) _).setCell (by simp) _
    obtain ⟨c0, c1, c2, c3, c4, c5, c6, c7, c8⟩ := nine hg1
    have f1 := fun i => frozen_of_row _ _ i _ _ hg1
    have e0 : W2.cell? ⟨w.heap.size, 0, none⟩ = some (.int .i64 s.b) := cell_of_row _ _ 0 _ _ _ hg2
    go_wp2_with fail
    clear c0 c1 c2 c3 c4 c5 c6 c7 c8 f1 hW2 hB1 hg1 hr1 e0
    refine (ht _).mono ?_
    rintro e w3 ⟨rfl, hb3⟩
    have hB3 := hB2.trans (hb3.mono hB2.size)
    have hg3 := heap_b hg2 hb3
    have hr3 := heap_b hr2 hb3
    have c0 : ∃ z, w3.cell? ⟨w.heap.size, 0, none⟩ = some z := ⟨_, cell_of_row _ _ 0 _ _ _ hg3⟩
    obtain ⟨z0, c0⟩ := c0
    have f3 := fun i => frozen_of_row _ _ i _ _ hg3
    obtain ⟨W4, hW4⟩ : ∃ W4, w3.setCell ⟨w.heap.size, 0, none⟩ (.int .i64 tt) = W4 := ⟨_, rfl⟩
    have hg4 : W4.heap[w.heap.size]? = some (.cells #[.int .i64 tt, .bool (s.u 0), .int .i64 (s.a 0), .bool (s.u 1), .int .i64 (s.a 1), .bool true, .int .i64 x, .bool (s.u 3), .int .i64 (s.a 3)] 43 (0, 0)) := by rw [← hW4]; exact heap_setCell_same _ _ 0 _ _ _ hg3
    have hr4 : W4.heap[w.heap.size + 1]? = some (.cells z9 43 (0, 0)) := by rw [← hW4, heap_setCell_other _ _ _ _ (by simp)]; exact hr3
    have HB4 : Hid (Below w.heap.size w W4) := hide (by rw [← hW4]; exact hB3.setCell (by simp) _)
    obtain ⟨C, hC⟩ : ∃ C : Array Value, #[.int .i64 tt, .bool (s.u 0), .int .i64 (s.a 0), .bool (s.u 1), .int .i64 (s.a 1), .bool true, .int .i64 x, .bool (s.u 3), .int .i64 (s.a 3)] = C := ⟨_, rfl⟩
    have hCs : C.size = 9 := by rw [← hC]; rfl
    have hone : ∀ v ∈ C.toList, v.oneCell' = true := by rw [← hC]; intro v hv; simp at hv; rcases hv with h | h | h | h | h | h | h | h | h <;> subst h <;> rfl
    rw [hC] at hg4
    have HL := hide (range71 hg4)
    have hst := put71 (C := C) hr4 rfl hCs hone
    have HR := hide (read71 (C := C) hr4 rfl hCs)
    have hsz : C.toList.length = 9 := by simpa using hCs
    have HC := hide hC
    clear hb3 hB2 hB3 hg2 hg3 hr2 hr3 hg4 hr4 hC hone
    go_wp2_with ((with_reducible refine wpList_load_mid (op := { dst := some 27, op := Op.load 43 (Operand.tmp 2), type := 43, pos := _, after := _, guard := none }) ?_ 43 (Operand.tmp 2) ?_ w.heap.size 0 ?_ C.toList _ HL.out Try.underlying43 ?_ ?_ ?_); (· rfl); (· rfl); (· rfl); (· rfl); (· rw [info71, hsz]))
    refine bodyPost_ret (v := .tuple #[.agg C, .bool hh, .int .i64 gg]) ?_ rfl ⟨by rw [← HC.out]; rfl, below_setCells HB4.out (by omega) _ _⟩
    rw [results_cell_tmp2 Try.results27]
    have HR2 := HR.out
    simp [asAddr, HR2]
  · go_enter Try.func27, Try.ntmps27
    go_wp2_with fail
    refine (hp _).mono ?_
    rintro e w1 ⟨rfl, hb1⟩
    have hB1 := hB.trans (hb1.mono hB.size)
    have hg1 := heap_b hg hb1
    have hr1 := heap_b hr hb1
    clear c0 c1 c2 c3 c4 c5 c6 c7 c8 hp hW
    obtain ⟨W2, hW2⟩ : ∃ W2, (w1.setCell ⟨w.heap.size, 7, none⟩ (.bool true)).setCell ⟨w.heap.size, 8, none⟩ (.int .i64 x) = W2 := ⟨_, rfl⟩
    have hg2 : W2.heap[w.heap.size]? = some (.cells (((c9 s).setIfInBounds 7 (.bool true)).setIfInBounds 8 (.int .i64 x)) 43 (0, 0)) := by rw [← hW2]; exact heap_setCell_same _ _ 8 _ _ _ (heap_setCell_same _ _ 7 _ _ _ hg1)
    have hr2 : W2.heap[w.heap.size + 1]? = some (.cells z9 43 (0, 0)) := by rw [← hW2, heap_setCell_other _ _ _ _ (by simp), heap_setCell_other _ _ _ _ (by simp)]; exact hr1
    have hB2 : Below w.heap.size w W2 := by rw [← hW2]; exact (hB1.setCell (by simp) _).setCell (by simp) _
    obtain ⟨c0, c1, c2, c3, c4, c5, c6, c7, c8⟩ := nine hg1
    have f1 := fun i => frozen_of_row _ _ i _ _ hg1
    have e0 : W2.cell? ⟨w.heap.size, 0, none⟩ = some (.int .i64 s.b) := cell_of_row _ _ 0 _ _ _ hg2
    go_wp2_with fail
    clear c0 c1 c2 c3 c4 c5 c6 c7 c8 f1 hW2 hB1 hg1 hr1 e0
    refine (ht _).mono ?_
    rintro e w3 ⟨rfl, hb3⟩
    have hB3 := hB2.trans (hb3.mono hB2.size)
    have hg3 := heap_b hg2 hb3
    have hr3 := heap_b hr2 hb3
    have c0 : ∃ z, w3.cell? ⟨w.heap.size, 0, none⟩ = some z := ⟨_, cell_of_row _ _ 0 _ _ _ hg3⟩
    obtain ⟨z0, c0⟩ := c0
    have f3 := fun i => frozen_of_row _ _ i _ _ hg3
    obtain ⟨W4, hW4⟩ : ∃ W4, w3.setCell ⟨w.heap.size, 0, none⟩ (.int .i64 tt) = W4 := ⟨_, rfl⟩
    have hg4 : W4.heap[w.heap.size]? = some (.cells #[.int .i64 tt, .bool (s.u 0), .int .i64 (s.a 0), .bool (s.u 1), .int .i64 (s.a 1), .bool (s.u 2), .int .i64 (s.a 2), .bool true, .int .i64 x] 43 (0, 0)) := by rw [← hW4]; exact heap_setCell_same _ _ 0 _ _ _ hg3
    have hr4 : W4.heap[w.heap.size + 1]? = some (.cells z9 43 (0, 0)) := by rw [← hW4, heap_setCell_other _ _ _ _ (by simp)]; exact hr3
    have HB4 : Hid (Below w.heap.size w W4) := hide (by rw [← hW4]; exact hB3.setCell (by simp) _)
    obtain ⟨C, hC⟩ : ∃ C : Array Value, #[.int .i64 tt, .bool (s.u 0), .int .i64 (s.a 0), .bool (s.u 1), .int .i64 (s.a 1), .bool (s.u 2), .int .i64 (s.a 2), .bool true, .int .i64 x] = C := ⟨_, rfl⟩
    have hCs : C.size = 9 := by rw [← hC]; rfl
    have hone : ∀ v ∈ C.toList, v.oneCell' = true := by rw [← hC]; intro v hv; simp at hv; rcases hv with h | h | h | h | h | h | h | h | h <;> subst h <;> rfl
    rw [hC] at hg4
    have HL := hide (range71 hg4)
    have hst := put71 (C := C) hr4 rfl hCs hone
    have HR := hide (read71 (C := C) hr4 rfl hCs)
    have hsz : C.toList.length = 9 := by simpa using hCs
    have HC := hide hC
    clear hb3 hB2 hB3 hg2 hg3 hr2 hr3 hg4 hr4 hC hone
    go_wp2_with ((with_reducible refine wpList_load_mid (op := { dst := some 27, op := Op.load 43 (Operand.tmp 2), type := 43, pos := _, after := _, guard := none }) ?_ 43 (Operand.tmp 2) ?_ w.heap.size 0 ?_ C.toList _ HL.out Try.underlying43 ?_ ?_ ?_); (· rfl); (· rfl); (· rfl); (· rfl); (· rw [info71, hsz]))
    refine bodyPost_ret (v := .tuple #[.agg C, .bool hh, .int .i64 gg]) ?_ rfl ⟨by rw [← HC.out]; rfl, below_setCells HB4.out (by omega) _ _⟩
    rw [results_cell_tmp2 Try.results27]
    have HR2 := HR.out
    simp [asAddr, HR2]

end Go.Proofs.Ytlijgkodcbnhbaa
