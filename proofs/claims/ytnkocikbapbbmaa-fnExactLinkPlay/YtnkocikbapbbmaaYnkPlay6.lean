/- LdB -/
import Derived.Test.YtnkocikbapbbmaaYnkPlay5
/- impl.linkActOf: an act of a right form (written by mkLdB.py) -/
namespace Go.Proofs.Ytnkocikbapbbmaa
open Go.RowKit
set_option linter.unusedVariables false
set_option linter.unusedSimpArgs false

theorem me_offer (x : Value) (w : World) : (method 244 95 (.agg #[x]) "loop.example/g00384/impl.fields").run Try.prog w = .ok (108, .agg #[x]) w := by kernel_rfl
theorem me_send (w : World) : (method 244 97 (.agg #[]) "loop.example/g00384/impl.fields").run Try.prog w = .ok (109, .agg #[]) w := by kernel_rfl
theorem me_come (x y : Value) (w : World) : (method 244 102 (.agg #[x, y]) "loop.example/g00384/impl.fields").run Try.prog w = .ok (110, .agg #[x, y]) w := by kernel_rfl
theorem me_lose (x y : Value) (w : World) : (method 244 104 (.agg #[x, y]) "loop.example/g00384/impl.fields").run Try.prog w = .ok (110, .agg #[x, y]) w := by kernel_rfl
theorem me_flip (x y z : Value) (w : World) : (method 244 108 (.agg #[x, y, z]) "loop.example/g00384/impl.fields").run Try.prog w = .ok (111, .agg #[x, y, z]) w := by kernel_rfl
abbrev e0 : ByteArray := ⟨#[]⟩

set_option maxHeartbeats 1000000 in
theorem fl_offer (body : ByteArray) (w : World) : Calls Try.prog 108 #[.agg #[.string body]] w fun e w' => e = .returned (.agg (a4 0 0 0 body)) ∧ Below w.heap.size w w' := by
  go_enter Try.func108, Try.ntmps108
  go_wp2
  refine bodyPost_ret (v := .agg (a4 0 0 0 body)) (by simp [results, Try.results108, go_sem]) rfl ⟨rfl, ?_⟩
  repeat' (first | exact Below.refl _ _ | refine Below.setCell ?_ (by simp <;> omega) _ | refine Below.alloc ?_ (by simp <;> omega) _)

set_option maxHeartbeats 1000000 in
theorem fl_send  (w : World) : Calls Try.prog 109 #[.agg #[]] w fun e w' => e = .returned (.agg (a4 0 0 0 e0)) ∧ Below w.heap.size w w' := by
  go_enter Try.func109, Try.ntmps109
  go_wp2
  refine bodyPost_ret (v := .agg (a4 0 0 0 e0)) (by simp [results, Try.results109, go_sem]) rfl ⟨rfl, ?_⟩
  repeat' (first | exact Below.refl _ _ | refine Below.setCell ?_ (by simp <;> omega) _ | refine Below.alloc ?_ (by simp <;> omega) _)

set_option maxHeartbeats 1000000 in
theorem fl_come (u : Bool) (at' : Int) (w : World) : Calls Try.prog 110 #[.agg #[.bool u, .int .i64 at']] w fun e w' => e = .returned (.agg (a4 0 at' 0 e0)) ∧ Below w.heap.size w w' := by
  go_enter Try.func110, Try.ntmps110
  go_wp2
  refine bodyPost_ret (v := .agg (a4 0 at' 0 e0)) (by simp [results, Try.results110, go_sem]) rfl ⟨rfl, ?_⟩
  repeat' (first | exact Below.refl _ _ | refine Below.setCell ?_ (by simp <;> omega) _ | refine Below.alloc ?_ (by simp <;> omega) _)

set_option maxHeartbeats 1000000 in
theorem fl_flip (u : Bool) (at' bit : Int) (w : World) : Calls Try.prog 111 #[.agg #[.bool u, .int .i64 at', .int .i64 bit]] w fun e w' => e = .returned (.agg (a4 0 at' bit e0)) ∧ Below w.heap.size w w' := by
  go_enter Try.func111, Try.ntmps111
  go_wp2
  refine bodyPost_ret (v := .agg (a4 0 at' bit e0)) (by simp [results, Try.results111, go_sem]) rfl ⟨rfl, ?_⟩
  repeat' (first | exact Below.refl _ _ | refine Below.setCell ?_ (by simp <;> omega) _ | refine Below.alloc ?_ (by simp <;> omega) _)

set_option maxHeartbeats 400000 in
theorem bodyOkL (b : ByteArray) (w : World) : Calls Try.prog 63 #[.string b] w fun e w' => e = .returned (.bool (decide (b.size ≤ 8))) ∧ w' = w := by
  by_cases h : b.size ≤ 8
  · have d : decide ((b.size : Int) ≤ 8) = true := by simp; omega
    rw [show decide (b.size ≤ 8) = true from decide_eq_true h]
    go_enter Try.func63, Try.ntmps63
    go_wp2
    go_ret
    exact ⟨rfl, rfl⟩
  · have d : decide ((b.size : Int) ≤ 8) = false := by simp; omega
    rw [show decide (b.size ≤ 8) = false from decide_eq_false h]
    go_enter Try.func63, Try.ntmps63
    go_wp2
    go_ret
    exact ⟨rfl, rfl⟩
theorem emp_of {b : ByteArray} (h : b.size = 0) : b = e0 := by
  apply ByteArray.ext
  have hz : b.data.size = 0 := h
  exact Array.eq_empty_of_size_eq_zero hz
theorem e0_list : e0.toList = [] := by rw [ByteArray.toList_eq]
/-- has an act the right form? -/
def laB (k at' bit : Int) (body : ByteArray) : Bool := if k = 1 then decide (at' = 0 ∧ bit = 0 ∧ body.size ≤ 8) else if k = 2 then decide (at' = 0 ∧ bit = 0 ∧ body.size = 0) else if 3 ≤ k ∧ k ≤ 6 then decide (bit = 0 ∧ body.size = 0) else if k = 7 ∨ k = 8 then decide (body.size = 0) else false
theorem ret2v {v : Value} {a b : Bool} (h : a = b) : Ending.returned (.tuple #[v, .bool a]) = .returned (.tuple #[v, .bool b]) := by rw [h]

set_option maxRecDepth 20000 in
set_option maxHeartbeats 2000000 in
theorem act_1 (at' bit : Int) (body : ByteArray) (w : World) : Calls Try.prog 58 #[.agg (a4 1 at' bit body)] w fun e w' => e = .returned (.tuple #[.iface 95 (.agg #[.string body]), .bool (laB 1 at' bit body)]) ∧ Below w.heap.size w w' := by
  have hB : Below w.heap.size w (w.alloc (.cells (a4 1 at' bit body) 39)) := (Below.refl _ _).alloc (Nat.le_refl _) _
  have qa := heap_alloc_new w (.cells (a4 1 at' bit body) 39)
  go_enter Try.func58, Try.ntmps58
  go_wp2_with fail
  refine (kind_1 at' bit body _).mono ?_
  rintro e w1 ⟨rfl, hb1⟩
  have qa1 := (hb1.block _ (lt_of_block qa)).trans qa
  have hme := fun x => me_offer x w1
  go_wp2_with fail
  refine (fl_offer _ _).mono ?_
  rintro e w2 ⟨rfl, hb2⟩
  have qa2 := (hb2.block _ (lt_of_block qa1)).trans qa1
  have hA2 : ∀ o, Below w2.heap.size w2 (w2.alloc o) := fun o => (Below.refl _ _).alloc (Nat.le_refl _) _
  have y0 : ∀ o, (w2.alloc o).cell? ⟨w.heap.size, 0, none⟩ = some (.int .i64 1) := fun o => keepc (hA2 o) ((cell_of_row _ _ 0 _ _ _ qa2).trans rfl)
  have y1 : ∀ o, (w2.alloc o).cell? ⟨w.heap.size, 1, none⟩ = some (.int .i64 at') := fun o => keepc (hA2 o) ((cell_of_row _ _ 1 _ _ _ qa2).trans rfl)
  have y2 : ∀ o, (w2.alloc o).cell? ⟨w.heap.size, 2, none⟩ = some (.int .i64 bit) := fun o => keepc (hA2 o) ((cell_of_row _ _ 2 _ _ _ qa2).trans rfl)
  have y3 : ∀ o, (w2.alloc o).cell? ⟨w.heap.size, 3, none⟩ = some (.string body) := fun o => keepc (hA2 o) ((cell_of_row _ _ 3 _ _ _ qa2).trans rfl)
  have HB2 : Hid (∀ o, Below w.heap.size w (w2.alloc o)) := hide (fun o => by
    have h1 := hB.trans (hb1.mono hB.size)
    have h2 := h1.trans (hb2.mono h1.size)
    exact h2.trans ((hA2 o).mono h2.size))
  clear hb1 hb2 hme hB qa qa1 qa2 hA2
  by_cases hc : ¬ (at' = 0)
  · have s1 : ¬ (0 = at') := fun e => hc e.symm
    have s2 : ((0 : Int) == at') = false := by rw [beq_eq_false_iff_ne]; exact s1
    have HO : Hid (false = laB 1 at' bit body) := hide (by simp [laB, hc])
    clear hc
    go_wp2
    go_ret2
    exact ⟨ret2v HO.out, HB2.out _⟩
  replace hc := Decidable.of_not_not hc
  subst hc
  by_cases hc : ¬ (bit = 0)
  · have s1 : ¬ (0 = bit) := fun e => hc e.symm
    have s2 : ((0 : Int) == bit) = false := by rw [beq_eq_false_iff_ne]; exact s1
    have HO : Hid (false = laB 1 0 bit body) := hide (by simp [laB, hc])
    clear hc
    go_wp2
    go_ret2
    exact ⟨ret2v HO.out, HB2.out _⟩
  replace hc := Decidable.of_not_not hc
  subst hc
  have HO : Hid (decide (body.size ≤ 8) = laB 1 0 0 body) := hide (by first | rfl | (simp [laB]; done))
  go_wp2_with fail
  refine (bodyOkL _ _).mono ?_
  rintro e w3 ⟨rfl, hw3⟩
  rw [hw3]
  generalize decide (body.size ≤ 8) = q at HO
  cases q
  all_goals
    go_wp2
    go_ret2
    exact ⟨ret2v HO.out, HB2.out _⟩

set_option maxRecDepth 20000 in
set_option maxHeartbeats 2000000 in
theorem act_2 (at' bit : Int) (body : ByteArray) (w : World) : Calls Try.prog 58 #[.agg (a4 2 at' bit body)] w fun e w' => e = .returned (.tuple #[.iface 97 (.agg #[]), .bool (laB 2 at' bit body)]) ∧ Below w.heap.size w w' := by
  have hB : Below w.heap.size w (w.alloc (.cells (a4 2 at' bit body) 39)) := (Below.refl _ _).alloc (Nat.le_refl _) _
  have qa := heap_alloc_new w (.cells (a4 2 at' bit body) 39)
  go_enter Try.func58, Try.ntmps58
  go_wp2_with fail
  refine (kind_2 at' bit body _).mono ?_
  rintro e w1 ⟨rfl, hb1⟩
  have qa1 := (hb1.block _ (lt_of_block qa)).trans qa
  have hme := me_send w1
  go_wp2_with fail
  refine (fl_send  _).mono ?_
  rintro e w2 ⟨rfl, hb2⟩
  have qa2 := (hb2.block _ (lt_of_block qa1)).trans qa1
  have hA2 : ∀ o, Below w2.heap.size w2 (w2.alloc o) := fun o => (Below.refl _ _).alloc (Nat.le_refl _) _
  have y0 : ∀ o, (w2.alloc o).cell? ⟨w.heap.size, 0, none⟩ = some (.int .i64 2) := fun o => keepc (hA2 o) ((cell_of_row _ _ 0 _ _ _ qa2).trans rfl)
  have y1 : ∀ o, (w2.alloc o).cell? ⟨w.heap.size, 1, none⟩ = some (.int .i64 at') := fun o => keepc (hA2 o) ((cell_of_row _ _ 1 _ _ _ qa2).trans rfl)
  have y2 : ∀ o, (w2.alloc o).cell? ⟨w.heap.size, 2, none⟩ = some (.int .i64 bit) := fun o => keepc (hA2 o) ((cell_of_row _ _ 2 _ _ _ qa2).trans rfl)
  have y3 : ∀ o, (w2.alloc o).cell? ⟨w.heap.size, 3, none⟩ = some (.string body) := fun o => keepc (hA2 o) ((cell_of_row _ _ 3 _ _ _ qa2).trans rfl)
  have HB2 : Hid (∀ o, Below w.heap.size w (w2.alloc o)) := hide (fun o => by
    have h1 := hB.trans (hb1.mono hB.size)
    have h2 := h1.trans (hb2.mono h1.size)
    exact h2.trans ((hA2 o).mono h2.size))
  clear hb1 hb2 hme hB qa qa1 qa2 hA2
  by_cases hc : ¬ (at' = 0)
  · have s1 : ¬ (0 = at') := fun e => hc e.symm
    have s2 : ((0 : Int) == at') = false := by rw [beq_eq_false_iff_ne]; exact s1
    have HO : Hid (false = laB 2 at' bit body) := hide (by simp [laB, hc])
    clear hc
    go_wp2
    go_ret2
    exact ⟨ret2v HO.out, HB2.out _⟩
  replace hc := Decidable.of_not_not hc
  subst hc
  by_cases hc : ¬ (bit = 0)
  · have s1 : ¬ (0 = bit) := fun e => hc e.symm
    have s2 : ((0 : Int) == bit) = false := by rw [beq_eq_false_iff_ne]; exact s1
    have HO : Hid (false = laB 2 0 bit body) := hide (by simp [laB, hc])
    clear hc
    go_wp2
    go_ret2
    exact ⟨ret2v HO.out, HB2.out _⟩
  replace hc := Decidable.of_not_not hc
  subst hc
  by_cases hc : ¬ (body.size = 0)
  · have s1 : ¬ (e0 = body) := fun e => hc (by rw [← e]; rfl)
    have s2 : (e0.toList == body.toList) = false := byt_ne s1
    have s3 : ¬ (e0.toList = body.toList) := fun e => by rw [e] at s2; simp at s2
    have s4 : ¬ ([] = body.toList) := by rw [← e0_list]; exact s3
    have s5 : ([] == body.toList) = false := by rw [← e0_list]; exact s2
    have s6 : (body.toList == []) = false := by rw [beq_eq_false_iff_ne]; exact fun e => s4 e.symm
    have s7 : ¬ (body.toList = []) := fun e => s4 e.symm
    have HO : Hid (false = laB 2 0 0 body) := hide (by simp only [laB]; simp [hc])
    clear hc
    go_wp2
    go_ret2
    exact ⟨ret2v HO.out, HB2.out _⟩
  replace hc := Decidable.of_not_not hc
  obtain rfl := emp_of hc
  clear hc
  have HO : Hid (decide (e0.size ≤ 8) = laB 2 0 0 e0) := hide (by first | rfl | (simp [laB]; done))
  go_wp2_with fail
  refine (bodyOkL _ _).mono ?_
  rintro e w3 ⟨rfl, hw3⟩
  rw [hw3]
  generalize decide (e0.size ≤ 8) = q at HO
  cases q
  all_goals
    go_wp2
    go_ret2
    exact ⟨ret2v HO.out, HB2.out _⟩

set_option maxRecDepth 20000 in
set_option maxHeartbeats 2000000 in
theorem act_3 (at' bit : Int) (body : ByteArray) (w : World) : Calls Try.prog 58 #[.agg (a4 3 at' bit body)] w fun e w' => e = .returned (.tuple #[.iface 102 (.agg #[.bool false, .int .i64 at']), .bool (laB 3 at' bit body)]) ∧ Below w.heap.size w w' := by
  have hB : Below w.heap.size w (w.alloc (.cells (a4 3 at' bit body) 39)) := (Below.refl _ _).alloc (Nat.le_refl _) _
  have qa := heap_alloc_new w (.cells (a4 3 at' bit body) 39)
  go_enter Try.func58, Try.ntmps58
  go_wp2_with fail
  refine (kind_3 at' bit body _).mono ?_
  rintro e w1 ⟨rfl, hb1⟩
  have qa1 := (hb1.block _ (lt_of_block qa)).trans qa
  have hme := fun x y => me_come x y w1
  go_wp2_with fail
  refine (fl_come _ _ _).mono ?_
  rintro e w2 ⟨rfl, hb2⟩
  have qa2 := (hb2.block _ (lt_of_block qa1)).trans qa1
  have hA2 : ∀ o, Below w2.heap.size w2 (w2.alloc o) := fun o => (Below.refl _ _).alloc (Nat.le_refl _) _
  have y0 : ∀ o, (w2.alloc o).cell? ⟨w.heap.size, 0, none⟩ = some (.int .i64 3) := fun o => keepc (hA2 o) ((cell_of_row _ _ 0 _ _ _ qa2).trans rfl)
  have y1 : ∀ o, (w2.alloc o).cell? ⟨w.heap.size, 1, none⟩ = some (.int .i64 at') := fun o => keepc (hA2 o) ((cell_of_row _ _ 1 _ _ _ qa2).trans rfl)
  have y2 : ∀ o, (w2.alloc o).cell? ⟨w.heap.size, 2, none⟩ = some (.int .i64 bit) := fun o => keepc (hA2 o) ((cell_of_row _ _ 2 _ _ _ qa2).trans rfl)
  have y3 : ∀ o, (w2.alloc o).cell? ⟨w.heap.size, 3, none⟩ = some (.string body) := fun o => keepc (hA2 o) ((cell_of_row _ _ 3 _ _ _ qa2).trans rfl)
  have HB2 : Hid (∀ o, Below w.heap.size w (w2.alloc o)) := hide (fun o => by
    have h1 := hB.trans (hb1.mono hB.size)
    have h2 := h1.trans (hb2.mono h1.size)
    exact h2.trans ((hA2 o).mono h2.size))
  clear hb1 hb2 hme hB qa qa1 qa2 hA2
  by_cases hc : ¬ (bit = 0)
  · have s1 : ¬ (0 = bit) := fun e => hc e.symm
    have s2 : ((0 : Int) == bit) = false := by rw [beq_eq_false_iff_ne]; exact s1
    have HO : Hid (false = laB 3 at' bit body) := hide (by simp [laB, hc])
    clear hc
    go_wp2
    go_ret2
    exact ⟨ret2v HO.out, HB2.out _⟩
  replace hc := Decidable.of_not_not hc
  subst hc
  by_cases hc : ¬ (body.size = 0)
  · have s1 : ¬ (e0 = body) := fun e => hc (by rw [← e]; rfl)
    have s2 : (e0.toList == body.toList) = false := byt_ne s1
    have s3 : ¬ (e0.toList = body.toList) := fun e => by rw [e] at s2; simp at s2
    have s4 : ¬ ([] = body.toList) := by rw [← e0_list]; exact s3
    have s5 : ([] == body.toList) = false := by rw [← e0_list]; exact s2
    have s6 : (body.toList == []) = false := by rw [beq_eq_false_iff_ne]; exact fun e => s4 e.symm
    have s7 : ¬ (body.toList = []) := fun e => s4 e.symm
    have HO : Hid (false = laB 3 at' 0 body) := hide (by simp only [laB]; simp [hc])
    clear hc
    go_wp2
    go_ret2
    exact ⟨ret2v HO.out, HB2.out _⟩
  replace hc := Decidable.of_not_not hc
  obtain rfl := emp_of hc
  clear hc
  have HO : Hid (decide (e0.size ≤ 8) = laB 3 at' 0 e0) := hide (by first | rfl | (simp [laB]; done))
  go_wp2_with fail
  refine (bodyOkL _ _).mono ?_
  rintro e w3 ⟨rfl, hw3⟩
  rw [hw3]
  generalize decide (e0.size ≤ 8) = q at HO
  cases q
  all_goals
    go_wp2
    go_ret2
    exact ⟨ret2v HO.out, HB2.out _⟩

set_option maxRecDepth 20000 in
set_option maxHeartbeats 2000000 in
theorem act_4 (at' bit : Int) (body : ByteArray) (w : World) : Calls Try.prog 58 #[.agg (a4 4 at' bit body)] w fun e w' => e = .returned (.tuple #[.iface 102 (.agg #[.bool true, .int .i64 at']), .bool (laB 4 at' bit body)]) ∧ Below w.heap.size w w' := by
  have hB : Below w.heap.size w (w.alloc (.cells (a4 4 at' bit body) 39)) := (Below.refl _ _).alloc (Nat.le_refl _) _
  have qa := heap_alloc_new w (.cells (a4 4 at' bit body) 39)
  go_enter Try.func58, Try.ntmps58
  go_wp2_with fail
  refine (kind_4 at' bit body _).mono ?_
  rintro e w1 ⟨rfl, hb1⟩
  have qa1 := (hb1.block _ (lt_of_block qa)).trans qa
  have hme := fun x y => me_come x y w1
  go_wp2_with fail
  refine (fl_come _ _ _).mono ?_
  rintro e w2 ⟨rfl, hb2⟩
  have qa2 := (hb2.block _ (lt_of_block qa1)).trans qa1
  have hA2 : ∀ o, Below w2.heap.size w2 (w2.alloc o) := fun o => (Below.refl _ _).alloc (Nat.le_refl _) _
  have y0 : ∀ o, (w2.alloc o).cell? ⟨w.heap.size, 0, none⟩ = some (.int .i64 4) := fun o => keepc (hA2 o) ((cell_of_row _ _ 0 _ _ _ qa2).trans rfl)
  have y1 : ∀ o, (w2.alloc o).cell? ⟨w.heap.size, 1, none⟩ = some (.int .i64 at') := fun o => keepc (hA2 o) ((cell_of_row _ _ 1 _ _ _ qa2).trans rfl)
  have y2 : ∀ o, (w2.alloc o).cell? ⟨w.heap.size, 2, none⟩ = some (.int .i64 bit) := fun o => keepc (hA2 o) ((cell_of_row _ _ 2 _ _ _ qa2).trans rfl)
  have y3 : ∀ o, (w2.alloc o).cell? ⟨w.heap.size, 3, none⟩ = some (.string body) := fun o => keepc (hA2 o) ((cell_of_row _ _ 3 _ _ _ qa2).trans rfl)
  have HB2 : Hid (∀ o, Below w.heap.size w (w2.alloc o)) := hide (fun o => by
    have h1 := hB.trans (hb1.mono hB.size)
    have h2 := h1.trans (hb2.mono h1.size)
    exact h2.trans ((hA2 o).mono h2.size))
  clear hb1 hb2 hme hB qa qa1 qa2 hA2
  by_cases hc : ¬ (bit = 0)
  · have s1 : ¬ (0 = bit) := fun e => hc e.symm
    have s2 : ((0 : Int) == bit) = false := by rw [beq_eq_false_iff_ne]; exact s1
    have HO : Hid (false = laB 4 at' bit body) := hide (by simp [laB, hc])
    clear hc
    go_wp2
    go_ret2
    exact ⟨ret2v HO.out, HB2.out _⟩
  replace hc := Decidable.of_not_not hc
  subst hc
  by_cases hc : ¬ (body.size = 0)
  · have s1 : ¬ (e0 = body) := fun e => hc (by rw [← e]; rfl)
    have s2 : (e0.toList == body.toList) = false := byt_ne s1
    have s3 : ¬ (e0.toList = body.toList) := fun e => by rw [e] at s2; simp at s2
    have s4 : ¬ ([] = body.toList) := by rw [← e0_list]; exact s3
    have s5 : ([] == body.toList) = false := by rw [← e0_list]; exact s2
    have s6 : (body.toList == []) = false := by rw [beq_eq_false_iff_ne]; exact fun e => s4 e.symm
    have s7 : ¬ (body.toList = []) := fun e => s4 e.symm
    have HO : Hid (false = laB 4 at' 0 body) := hide (by simp only [laB]; simp [hc])
    clear hc
    go_wp2
    go_ret2
    exact ⟨ret2v HO.out, HB2.out _⟩
  replace hc := Decidable.of_not_not hc
  obtain rfl := emp_of hc
  clear hc
  have HO : Hid (decide (e0.size ≤ 8) = laB 4 at' 0 e0) := hide (by first | rfl | (simp [laB]; done))
  go_wp2_with fail
  refine (bodyOkL _ _).mono ?_
  rintro e w3 ⟨rfl, hw3⟩
  rw [hw3]
  generalize decide (e0.size ≤ 8) = q at HO
  cases q
  all_goals
    go_wp2
    go_ret2
    exact ⟨ret2v HO.out, HB2.out _⟩

set_option maxRecDepth 20000 in
set_option maxHeartbeats 2000000 in
theorem act_5 (at' bit : Int) (body : ByteArray) (w : World) : Calls Try.prog 58 #[.agg (a4 5 at' bit body)] w fun e w' => e = .returned (.tuple #[.iface 104 (.agg #[.bool false, .int .i64 at']), .bool (laB 5 at' bit body)]) ∧ Below w.heap.size w w' := by
  have hB : Below w.heap.size w (w.alloc (.cells (a4 5 at' bit body) 39)) := (Below.refl _ _).alloc (Nat.le_refl _) _
  have qa := heap_alloc_new w (.cells (a4 5 at' bit body) 39)
  go_enter Try.func58, Try.ntmps58
  go_wp2_with fail
  refine (kind_5 at' bit body _).mono ?_
  rintro e w1 ⟨rfl, hb1⟩
  have qa1 := (hb1.block _ (lt_of_block qa)).trans qa
  have hme := fun x y => me_lose x y w1
  go_wp2_with fail
  refine (fl_come _ _ _).mono ?_
  rintro e w2 ⟨rfl, hb2⟩
  have qa2 := (hb2.block _ (lt_of_block qa1)).trans qa1
  have hA2 : ∀ o, Below w2.heap.size w2 (w2.alloc o) := fun o => (Below.refl _ _).alloc (Nat.le_refl _) _
  have y0 : ∀ o, (w2.alloc o).cell? ⟨w.heap.size, 0, none⟩ = some (.int .i64 5) := fun o => keepc (hA2 o) ((cell_of_row _ _ 0 _ _ _ qa2).trans rfl)
  have y1 : ∀ o, (w2.alloc o).cell? ⟨w.heap.size, 1, none⟩ = some (.int .i64 at') := fun o => keepc (hA2 o) ((cell_of_row _ _ 1 _ _ _ qa2).trans rfl)
  have y2 : ∀ o, (w2.alloc o).cell? ⟨w.heap.size, 2, none⟩ = some (.int .i64 bit) := fun o => keepc (hA2 o) ((cell_of_row _ _ 2 _ _ _ qa2).trans rfl)
  have y3 : ∀ o, (w2.alloc o).cell? ⟨w.heap.size, 3, none⟩ = some (.string body) := fun o => keepc (hA2 o) ((cell_of_row _ _ 3 _ _ _ qa2).trans rfl)
  have HB2 : Hid (∀ o, Below w.heap.size w (w2.alloc o)) := hide (fun o => by
    have h1 := hB.trans (hb1.mono hB.size)
    have h2 := h1.trans (hb2.mono h1.size)
    exact h2.trans ((hA2 o).mono h2.size))
  clear hb1 hb2 hme hB qa qa1 qa2 hA2
  by_cases hc : ¬ (bit = 0)
  · have s1 : ¬ (0 = bit) := fun e => hc e.symm
    have s2 : ((0 : Int) == bit) = false := by rw [beq_eq_false_iff_ne]; exact s1
    have HO : Hid (false = laB 5 at' bit body) := hide (by simp [laB, hc])
    clear hc
    go_wp2
    go_ret2
    exact ⟨ret2v HO.out, HB2.out _⟩
  replace hc := Decidable.of_not_not hc
  subst hc
  by_cases hc : ¬ (body.size = 0)
  · have s1 : ¬ (e0 = body) := fun e => hc (by rw [← e]; rfl)
    have s2 : (e0.toList == body.toList) = false := byt_ne s1
    have s3 : ¬ (e0.toList = body.toList) := fun e => by rw [e] at s2; simp at s2
    have s4 : ¬ ([] = body.toList) := by rw [← e0_list]; exact s3
    have s5 : ([] == body.toList) = false := by rw [← e0_list]; exact s2
    have s6 : (body.toList == []) = false := by rw [beq_eq_false_iff_ne]; exact fun e => s4 e.symm
    have s7 : ¬ (body.toList = []) := fun e => s4 e.symm
    have HO : Hid (false = laB 5 at' 0 body) := hide (by simp only [laB]; simp [hc])
    clear hc
    go_wp2
    go_ret2
    exact ⟨ret2v HO.out, HB2.out _⟩
  replace hc := Decidable.of_not_not hc
  obtain rfl := emp_of hc
  clear hc
  have HO : Hid (decide (e0.size ≤ 8) = laB 5 at' 0 e0) := hide (by first | rfl | (simp [laB]; done))
  go_wp2_with fail
  refine (bodyOkL _ _).mono ?_
  rintro e w3 ⟨rfl, hw3⟩
  rw [hw3]
  generalize decide (e0.size ≤ 8) = q at HO
  cases q
  all_goals
    go_wp2
    go_ret2
    exact ⟨ret2v HO.out, HB2.out _⟩

set_option maxRecDepth 20000 in
set_option maxHeartbeats 2000000 in
theorem act_6 (at' bit : Int) (body : ByteArray) (w : World) : Calls Try.prog 58 #[.agg (a4 6 at' bit body)] w fun e w' => e = .returned (.tuple #[.iface 104 (.agg #[.bool true, .int .i64 at']), .bool (laB 6 at' bit body)]) ∧ Below w.heap.size w w' := by
  have hB : Below w.heap.size w (w.alloc (.cells (a4 6 at' bit body) 39)) := (Below.refl _ _).alloc (Nat.le_refl _) _
  have qa := heap_alloc_new w (.cells (a4 6 at' bit body) 39)
  go_enter Try.func58, Try.ntmps58
  go_wp2_with fail
  refine (kind_6 at' bit body _).mono ?_
  rintro e w1 ⟨rfl, hb1⟩
  have qa1 := (hb1.block _ (lt_of_block qa)).trans qa
  have hme := fun x y => me_lose x y w1
  go_wp2_with fail
  refine (fl_come _ _ _).mono ?_
  rintro e w2 ⟨rfl, hb2⟩
  have qa2 := (hb2.block _ (lt_of_block qa1)).trans qa1
  have hA2 : ∀ o, Below w2.heap.size w2 (w2.alloc o) := fun o => (Below.refl _ _).alloc (Nat.le_refl _) _
  have y0 : ∀ o, (w2.alloc o).cell? ⟨w.heap.size, 0, none⟩ = some (.int .i64 6) := fun o => keepc (hA2 o) ((cell_of_row _ _ 0 _ _ _ qa2).trans rfl)
  have y1 : ∀ o, (w2.alloc o).cell? ⟨w.heap.size, 1, none⟩ = some (.int .i64 at') := fun o => keepc (hA2 o) ((cell_of_row _ _ 1 _ _ _ qa2).trans rfl)
  have y2 : ∀ o, (w2.alloc o).cell? ⟨w.heap.size, 2, none⟩ = some (.int .i64 bit) := fun o => keepc (hA2 o) ((cell_of_row _ _ 2 _ _ _ qa2).trans rfl)
  have y3 : ∀ o, (w2.alloc o).cell? ⟨w.heap.size, 3, none⟩ = some (.string body) := fun o => keepc (hA2 o) ((cell_of_row _ _ 3 _ _ _ qa2).trans rfl)
  have HB2 : Hid (∀ o, Below w.heap.size w (w2.alloc o)) := hide (fun o => by
    have h1 := hB.trans (hb1.mono hB.size)
    have h2 := h1.trans (hb2.mono h1.size)
    exact h2.trans ((hA2 o).mono h2.size))
  clear hb1 hb2 hme hB qa qa1 qa2 hA2
  by_cases hc : ¬ (bit = 0)
  · have s1 : ¬ (0 = bit) := fun e => hc e.symm
    have s2 : ((0 : Int) == bit) = false := by rw [beq_eq_false_iff_ne]; exact s1
    have HO : Hid (false = laB 6 at' bit body) := hide (by simp [laB, hc])
    clear hc
    go_wp2
    go_ret2
    exact ⟨ret2v HO.out, HB2.out _⟩
  replace hc := Decidable.of_not_not hc
  subst hc
  by_cases hc : ¬ (body.size = 0)
  · have s1 : ¬ (e0 = body) := fun e => hc (by rw [← e]; rfl)
    have s2 : (e0.toList == body.toList) = false := byt_ne s1
    have s3 : ¬ (e0.toList = body.toList) := fun e => by rw [e] at s2; simp at s2
    have s4 : ¬ ([] = body.toList) := by rw [← e0_list]; exact s3
    have s5 : ([] == body.toList) = false := by rw [← e0_list]; exact s2
    have s6 : (body.toList == []) = false := by rw [beq_eq_false_iff_ne]; exact fun e => s4 e.symm
    have s7 : ¬ (body.toList = []) := fun e => s4 e.symm
    have HO : Hid (false = laB 6 at' 0 body) := hide (by simp only [laB]; simp [hc])
    clear hc
    go_wp2
    go_ret2
    exact ⟨ret2v HO.out, HB2.out _⟩
  replace hc := Decidable.of_not_not hc
  obtain rfl := emp_of hc
  clear hc
  have HO : Hid (decide (e0.size ≤ 8) = laB 6 at' 0 e0) := hide (by first | rfl | (simp [laB]; done))
  go_wp2_with fail
  refine (bodyOkL _ _).mono ?_
  rintro e w3 ⟨rfl, hw3⟩
  rw [hw3]
  generalize decide (e0.size ≤ 8) = q at HO
  cases q
  all_goals
    go_wp2
    go_ret2
    exact ⟨ret2v HO.out, HB2.out _⟩

set_option maxRecDepth 20000 in
set_option maxHeartbeats 2000000 in
theorem act_7 (at' bit : Int) (body : ByteArray) (w : World) : Calls Try.prog 58 #[.agg (a4 7 at' bit body)] w fun e w' => e = .returned (.tuple #[.iface 108 (.agg #[.bool false, .int .i64 at', .int .i64 bit]), .bool (laB 7 at' bit body)]) ∧ Below w.heap.size w w' := by
  have hB : Below w.heap.size w (w.alloc (.cells (a4 7 at' bit body) 39)) := (Below.refl _ _).alloc (Nat.le_refl _) _
  have qa := heap_alloc_new w (.cells (a4 7 at' bit body) 39)
  go_enter Try.func58, Try.ntmps58
  go_wp2_with fail
  refine (kind_7 at' bit body _).mono ?_
  rintro e w1 ⟨rfl, hb1⟩
  have qa1 := (hb1.block _ (lt_of_block qa)).trans qa
  have hme := fun x y z => me_flip x y z w1
  go_wp2_with fail
  refine (fl_flip _ _ _ _).mono ?_
  rintro e w2 ⟨rfl, hb2⟩
  have qa2 := (hb2.block _ (lt_of_block qa1)).trans qa1
  have hA2 : ∀ o, Below w2.heap.size w2 (w2.alloc o) := fun o => (Below.refl _ _).alloc (Nat.le_refl _) _
  have y0 : ∀ o, (w2.alloc o).cell? ⟨w.heap.size, 0, none⟩ = some (.int .i64 7) := fun o => keepc (hA2 o) ((cell_of_row _ _ 0 _ _ _ qa2).trans rfl)
  have y1 : ∀ o, (w2.alloc o).cell? ⟨w.heap.size, 1, none⟩ = some (.int .i64 at') := fun o => keepc (hA2 o) ((cell_of_row _ _ 1 _ _ _ qa2).trans rfl)
  have y2 : ∀ o, (w2.alloc o).cell? ⟨w.heap.size, 2, none⟩ = some (.int .i64 bit) := fun o => keepc (hA2 o) ((cell_of_row _ _ 2 _ _ _ qa2).trans rfl)
  have y3 : ∀ o, (w2.alloc o).cell? ⟨w.heap.size, 3, none⟩ = some (.string body) := fun o => keepc (hA2 o) ((cell_of_row _ _ 3 _ _ _ qa2).trans rfl)
  have HB2 : Hid (∀ o, Below w.heap.size w (w2.alloc o)) := hide (fun o => by
    have h1 := hB.trans (hb1.mono hB.size)
    have h2 := h1.trans (hb2.mono h1.size)
    exact h2.trans ((hA2 o).mono h2.size))
  clear hb1 hb2 hme hB qa qa1 qa2 hA2
  by_cases hc : ¬ (body.size = 0)
  · have s1 : ¬ (e0 = body) := fun e => hc (by rw [← e]; rfl)
    have s2 : (e0.toList == body.toList) = false := byt_ne s1
    have s3 : ¬ (e0.toList = body.toList) := fun e => by rw [e] at s2; simp at s2
    have s4 : ¬ ([] = body.toList) := by rw [← e0_list]; exact s3
    have s5 : ([] == body.toList) = false := by rw [← e0_list]; exact s2
    have s6 : (body.toList == []) = false := by rw [beq_eq_false_iff_ne]; exact fun e => s4 e.symm
    have s7 : ¬ (body.toList = []) := fun e => s4 e.symm
    have HO : Hid (false = laB 7 at' bit body) := hide (by simp only [laB]; simp [hc])
    clear hc
    go_wp2
    go_ret2
    exact ⟨ret2v HO.out, HB2.out _⟩
  replace hc := Decidable.of_not_not hc
  obtain rfl := emp_of hc
  clear hc
  have HO : Hid (decide (e0.size ≤ 8) = laB 7 at' bit e0) := hide (by first | rfl | (simp [laB]; done))
  go_wp2_with fail
  refine (bodyOkL _ _).mono ?_
  rintro e w3 ⟨rfl, hw3⟩
  rw [hw3]
  generalize decide (e0.size ≤ 8) = q at HO
  cases q
  all_goals
    go_wp2
    go_ret2
    exact ⟨ret2v HO.out, HB2.out _⟩

set_option maxRecDepth 20000 in
set_option maxHeartbeats 2000000 in
theorem act_8 (at' bit : Int) (body : ByteArray) (w : World) : Calls Try.prog 58 #[.agg (a4 8 at' bit body)] w fun e w' => e = .returned (.tuple #[.iface 108 (.agg #[.bool true, .int .i64 at', .int .i64 bit]), .bool (laB 8 at' bit body)]) ∧ Below w.heap.size w w' := by
  have hB : Below w.heap.size w (w.alloc (.cells (a4 8 at' bit body) 39)) := (Below.refl _ _).alloc (Nat.le_refl _) _
  have qa := heap_alloc_new w (.cells (a4 8 at' bit body) 39)
  go_enter Try.func58, Try.ntmps58
  go_wp2_with fail
  refine (kind_8 at' bit body _).mono ?_
  rintro e w1 ⟨rfl, hb1⟩
  have qa1 := (hb1.block _ (lt_of_block qa)).trans qa
  have hme := fun x y z => me_flip x y z w1
  go_wp2_with fail
  refine (fl_flip _ _ _ _).mono ?_
  rintro e w2 ⟨rfl, hb2⟩
  have qa2 := (hb2.block _ (lt_of_block qa1)).trans qa1
  have hA2 : ∀ o, Below w2.heap.size w2 (w2.alloc o) := fun o => (Below.refl _ _).alloc (Nat.le_refl _) _
  have y0 : ∀ o, (w2.alloc o).cell? ⟨w.heap.size, 0, none⟩ = some (.int .i64 8) := fun o => keepc (hA2 o) ((cell_of_row _ _ 0 _ _ _ qa2).trans rfl)
  have y1 : ∀ o, (w2.alloc o).cell? ⟨w.heap.size, 1, none⟩ = some (.int .i64 at') := fun o => keepc (hA2 o) ((cell_of_row _ _ 1 _ _ _ qa2).trans rfl)
  have y2 : ∀ o, (w2.alloc o).cell? ⟨w.heap.size, 2, none⟩ = some (.int .i64 bit) := fun o => keepc (hA2 o) ((cell_of_row _ _ 2 _ _ _ qa2).trans rfl)
  have y3 : ∀ o, (w2.alloc o).cell? ⟨w.heap.size, 3, none⟩ = some (.string body) := fun o => keepc (hA2 o) ((cell_of_row _ _ 3 _ _ _ qa2).trans rfl)
  have HB2 : Hid (∀ o, Below w.heap.size w (w2.alloc o)) := hide (fun o => by
    have h1 := hB.trans (hb1.mono hB.size)
    have h2 := h1.trans (hb2.mono h1.size)
    exact h2.trans ((hA2 o).mono h2.size))
  clear hb1 hb2 hme hB qa qa1 qa2 hA2
  by_cases hc : ¬ (body.size = 0)
  · have s1 : ¬ (e0 = body) := fun e => hc (by rw [← e]; rfl)
    have s2 : (e0.toList == body.toList) = false := byt_ne s1
    have s3 : ¬ (e0.toList = body.toList) := fun e => by rw [e] at s2; simp at s2
    have s4 : ¬ ([] = body.toList) := by rw [← e0_list]; exact s3
    have s5 : ([] == body.toList) = false := by rw [← e0_list]; exact s2
    have s6 : (body.toList == []) = false := by rw [beq_eq_false_iff_ne]; exact fun e => s4 e.symm
    have s7 : ¬ (body.toList = []) := fun e => s4 e.symm
    have HO : Hid (false = laB 8 at' bit body) := hide (by simp only [laB]; simp [hc])
    clear hc
    go_wp2
    go_ret2
    exact ⟨ret2v HO.out, HB2.out _⟩
  replace hc := Decidable.of_not_not hc
  obtain rfl := emp_of hc
  clear hc
  have HO : Hid (decide (e0.size ≤ 8) = laB 8 at' bit e0) := hide (by first | rfl | (simp [laB]; done))
  go_wp2_with fail
  refine (bodyOkL _ _).mono ?_
  rintro e w3 ⟨rfl, hw3⟩
  rw [hw3]
  generalize decide (e0.size ≤ 8) = q at HO
  cases q
  all_goals
    go_wp2
    go_ret2
    exact ⟨ret2v HO.out, HB2.out _⟩

set_option maxHeartbeats 1000000 in
theorem act_no (k at' bit : Int) (body : ByteArray) (w : World) (h : ¬ (1 ≤ k ∧ k ≤ 8)) : Calls Try.prog 58 #[.agg (a4 k at' bit body)] w fun e w' => e = .returned (.tuple #[.nilIface, .bool (laB k at' bit body)]) ∧ Below w.heap.size w w' := by
  have hB : Below w.heap.size w (w.alloc (.cells (a4 k at' bit body) 39)) := (Below.refl _ _).alloc (Nat.le_refl _) _
  have HO : Hid (false = laB k at' bit body) := hide (by
    unfold laB
    rw [if_neg (by omega), if_neg (by omega), if_neg (by omega), if_neg (by omega)])
  go_enter Try.func58, Try.ntmps58
  go_wp2_with fail
  refine (kind_0 k at' bit body _ h).mono ?_
  rintro e w1 ⟨rfl, hb1⟩
  have HB := hide (hB.trans (hb1.mono hB.size))
  clear hb1 hB
  go_wp2
  go_ret2
  exact ⟨ret2v HO.out, HB.out⟩

theorem act_any (k at' bit : Int) (body : ByteArray) (w : World) : Calls Try.prog 58 #[.agg (a4 k at' bit body)] w fun e w' => e = .returned (.tuple #[laV k at' bit body, .bool (laB k at' bit body)]) ∧ Below w.heap.size w w' := by
  by_cases h : 1 ≤ k ∧ k ≤ 8
  · rcases (show k = 1 ∨ k = 2 ∨ k = 3 ∨ k = 4 ∨ k = 5 ∨ k = 6 ∨ k = 7 ∨ k = 8 by omega) with rfl | rfl | rfl | rfl | rfl | rfl | rfl | rfl
    · rw [laV_1]; exact act_1 at' bit body w
    · rw [laV_2]; exact act_2 at' bit body w
    · rw [laV_3]; exact act_3 at' bit body w
    · rw [laV_4]; exact act_4 at' bit body w
    · rw [laV_5]; exact act_5 at' bit body w
    · rw [laV_6]; exact act_6 at' bit body w
    · rw [laV_7]; exact act_7 at' bit body w
    · rw [laV_8]; exact act_8 at' bit body w
  · rw [laV_no at' bit body h]; exact act_no k at' bit body w h

end Go.Proofs.Ytnkocikbapbbmaa
