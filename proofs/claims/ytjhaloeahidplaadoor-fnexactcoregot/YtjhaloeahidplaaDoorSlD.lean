/- the moves of a core's own acts, a state each: asked, left, stored (written by mkSlD.py) -/
import Derived.Test.YtjhaloeahidplaaDoorSlC
namespace Go.Proofs.YtjhaloeahidplaaDoor
open Go.RowKit

abbrev zI : Value := .agg #[.int .i64 0, .int .i64 0]
abbrev zS : Value := .agg #[.int .i64 0, .int .i64 0, .int .i64 0]
abbrev z1 : Value := .agg #[.int .i64 0]
theorem below_put4 {w w1 : World} {B : Nat} (hb : Below w.heap.size w w1) (hB : w.heap.size ≤ B) (v0 v1 v2 v3 : Value) : Below w.heap.size w ((((w1.setCell ⟨B, 0, none⟩ v0).setCell ⟨B, 1, none⟩ v1).setCell ⟨B, 2, none⟩ v2).setCell ⟨B, 3, none⟩ v3) :=
  (((hb.setCell hB _).setCell hB _).setCell hB _).setCell hB _
theorem ta_II (x : Value) (w : World) : (Instr.typeAssert (.iface 161 x) 102 161 true).run Tryd.prog w = .ok (.tuple #[x, .bool true]) w := by kernel_rfl
theorem ta_IS (x : Value) (w : World) : (Instr.typeAssert (.iface 161 x) 102 164 true).run Tryd.prog w = .ok (.tuple #[zS, .bool false]) w := by kernel_rfl
theorem ta_IO (x : Value) (w : World) : (Instr.typeAssert (.iface 161 x) 102 166 true).run Tryd.prog w = .ok (.tuple #[z1, .bool false]) w := by kernel_rfl
theorem ta_IL (x : Value) (w : World) : (Instr.typeAssert (.iface 161 x) 102 187 true).run Tryd.prog w = .ok (.tuple #[z1, .bool false]) w := by kernel_rfl
theorem ta_SI (x : Value) (w : World) : (Instr.typeAssert (.iface 164 x) 102 161 true).run Tryd.prog w = .ok (.tuple #[zI, .bool false]) w := by kernel_rfl
theorem ta_SS (x : Value) (w : World) : (Instr.typeAssert (.iface 164 x) 102 164 true).run Tryd.prog w = .ok (.tuple #[x, .bool true]) w := by kernel_rfl
theorem ta_SO (x : Value) (w : World) : (Instr.typeAssert (.iface 164 x) 102 166 true).run Tryd.prog w = .ok (.tuple #[z1, .bool false]) w := by kernel_rfl
theorem ta_SL (x : Value) (w : World) : (Instr.typeAssert (.iface 164 x) 102 187 true).run Tryd.prog w = .ok (.tuple #[z1, .bool false]) w := by kernel_rfl
theorem ta_OI (x : Value) (w : World) : (Instr.typeAssert (.iface 166 x) 102 161 true).run Tryd.prog w = .ok (.tuple #[zI, .bool false]) w := by kernel_rfl
theorem ta_OS (x : Value) (w : World) : (Instr.typeAssert (.iface 166 x) 102 164 true).run Tryd.prog w = .ok (.tuple #[zS, .bool false]) w := by kernel_rfl
theorem ta_OO (x : Value) (w : World) : (Instr.typeAssert (.iface 166 x) 102 166 true).run Tryd.prog w = .ok (.tuple #[x, .bool true]) w := by kernel_rfl
theorem ta_OL (x : Value) (w : World) : (Instr.typeAssert (.iface 166 x) 102 187 true).run Tryd.prog w = .ok (.tuple #[z1, .bool false]) w := by kernel_rfl
theorem ta_LI (x : Value) (w : World) : (Instr.typeAssert (.iface 187 x) 102 161 true).run Tryd.prog w = .ok (.tuple #[zI, .bool false]) w := by kernel_rfl
theorem ta_LS (x : Value) (w : World) : (Instr.typeAssert (.iface 187 x) 102 164 true).run Tryd.prog w = .ok (.tuple #[zS, .bool false]) w := by kernel_rfl
theorem ta_LO (x : Value) (w : World) : (Instr.typeAssert (.iface 187 x) 102 166 true).run Tryd.prog w = .ok (.tuple #[z1, .bool false]) w := by kernel_rfl
theorem ta_LL (x : Value) (w : World) : (Instr.typeAssert (.iface 187 x) 102 187 true).run Tryd.prog w = .ok (.tuple #[x, .bool true]) w := by kernel_rfl

set_option maxHeartbeats 1000000 in
theorem asked_S (d wt v : Int) (w : World) : Calls Tryd.prog 88 #[vS d wt v] w fun e w' => e = .returned (mvV (vS d wt v) 0 0 0) ∧ Below w.heap.size w w' := by
  have tI := ta_SI
  have tS := ta_SS
  have tO := ta_SO
  have tL := ta_SL
  go_enter Tryd.func88, Tryd.ntmps88
  go_wp2
  refine bodyPost_ret (v := mvV (vS d wt v) 0 0 0) (by simp [results, Tryd.results88, go_sem]) rfl ⟨rfl, ?_⟩
  first
  | exact (Below.refl _ _).alloc (Nat.le_refl _) _
  | exact ((Below.refl _ _).alloc (Nat.le_refl _) _).alloc (by simp) _
  | exact (((Below.refl _ _).alloc (Nat.le_refl _) _).alloc (by simp) _).alloc (by simp; omega) _

set_option maxHeartbeats 1000000 in
theorem asked_O (d : Int) (w : World) : Calls Tryd.prog 88 #[vO d] w fun e w' => e = .returned (mvV (vO d) 0 0 0) ∧ Below w.heap.size w w' := by
  have tI := ta_OI
  have tS := ta_OS
  have tO := ta_OO
  have tL := ta_OL
  go_enter Tryd.func88, Tryd.ntmps88
  go_wp2
  refine bodyPost_ret (v := mvV (vO d) 0 0 0) (by simp [results, Tryd.results88, go_sem]) rfl ⟨rfl, ?_⟩
  first
  | exact (Below.refl _ _).alloc (Nat.le_refl _) _
  | exact ((Below.refl _ _).alloc (Nat.le_refl _) _).alloc (by simp) _
  | exact (((Below.refl _ _).alloc (Nat.le_refl _) _).alloc (by simp) _).alloc (by simp; omega) _

set_option maxHeartbeats 1000000 in
theorem asked_I0 (v : Int) (w : World) : Calls Tryd.prog 88 #[vI 0 v] w fun e w' => e = .returned (mvV (vI 1 0) 1 0 3) ∧ Below w.heap.size w w' := by
  have tI := ta_II
  have tS := ta_IS
  have tO := ta_IO
  have tL := ta_IL
  go_enter Tryd.func88, Tryd.ntmps88
  go_wp2
  refine bodyPost_ret (v := mvV (vI 1 0) 1 0 3) (by simp [results, Tryd.results88, go_sem]) rfl ⟨rfl, ?_⟩
  first
  | exact (Below.refl _ _).alloc (Nat.le_refl _) _
  | exact ((Below.refl _ _).alloc (Nat.le_refl _) _).alloc (by simp) _
  | exact (((Below.refl _ _).alloc (Nat.le_refl _) _).alloc (by simp) _).alloc (by simp; omega) _

set_option maxHeartbeats 1000000 in
theorem asked_I1 (wt v : Int) (h : (wt == 0) = false) (w : World) : Calls Tryd.prog 88 #[vI wt v] w fun e w' => e = .returned (mvV (vI wt v) 0 0 4) ∧ Below w.heap.size w w' := by
  have tI := ta_II
  have tS := ta_IS
  have tO := ta_IO
  have tL := ta_IL
  go_enter Tryd.func88, Tryd.ntmps88
  go_wp2_with fail
  refine (refused_any _ _ _).mono ?_
  rintro e w1 ⟨rfl, hb1⟩
  have hc1 := fun i => hb1.cell (p := ⟨w.heap.size, i, none⟩) (by simp <;> omega)
  have hf1 := fun i => hb1.frozen (p := ⟨w.heap.size, i, none⟩) (by simp <;> omega)
  have HB1 := hide hb1
  clear hb1
  go_wp2
  refine bodyPost_ret (v := mvV (vI wt v) 0 0 4) (by simp [results, Tryd.results88, go_sem, hc1]) rfl ⟨rfl, ?_⟩
  first
  | exact below_put4 (((Below.refl _ _).alloc (Nat.le_refl _) _).trans (HB1.out.mono (by simp))) (Nat.le_refl _) _ _ _ _
  | exact below_put4 ((((Below.refl _ _).alloc (Nat.le_refl _) _).alloc (by simp) _).trans (HB1.out.mono (by simp; omega))) (Nat.le_refl _) _ _ _ _

set_option maxHeartbeats 1000000 in
theorem asked_L (d : Int) (w : World) : Calls Tryd.prog 88 #[vL d] w fun e w' => e = .returned (mvV (vL d) 0 0 4) ∧ Below w.heap.size w w' := by
  have tI := ta_LI
  have tS := ta_LS
  have tO := ta_LO
  have tL := ta_LL
  go_enter Tryd.func88, Tryd.ntmps88
  go_wp2_with fail
  refine (refused_any _ _ _).mono ?_
  rintro e w1 ⟨rfl, hb1⟩
  have hc1 := fun i => hb1.cell (p := ⟨w.heap.size, i, none⟩) (by simp <;> omega)
  have hf1 := fun i => hb1.frozen (p := ⟨w.heap.size, i, none⟩) (by simp <;> omega)
  have HB1 := hide hb1
  clear hb1
  go_wp2
  refine bodyPost_ret (v := mvV (vL d) 0 0 4) (by simp [results, Tryd.results88, go_sem, hc1]) rfl ⟨rfl, ?_⟩
  first
  | exact below_put4 (((Below.refl _ _).alloc (Nat.le_refl _) _).trans (HB1.out.mono (by simp))) (Nat.le_refl _) _ _ _ _
  | exact below_put4 ((((Below.refl _ _).alloc (Nat.le_refl _) _).alloc (by simp) _).trans (HB1.out.mono (by simp; omega))) (Nat.le_refl _) _ _ _ _






set_option maxHeartbeats 1000000 in
theorem stored_O (d x : Int) (w : World) : Calls Tryd.prog 99 #[vO d, .int .i64 x] w fun e w' => e = .returned (mvV (vO x) 0 0 0) ∧ Below w.heap.size w w' := by
  have tI := ta_OI
  have tS := ta_OS
  have tO := ta_OO
  have tL := ta_OL
  go_enter Tryd.func99, Tryd.ntmps99
  go_wp2
  refine bodyPost_ret (v := mvV (vO x) 0 0 0) (by simp [results, Tryd.results99, go_sem]) rfl ⟨rfl, ?_⟩
  first
  | exact (Below.refl _ _).alloc (Nat.le_refl _) _
  | exact ((Below.refl _ _).alloc (Nat.le_refl _) _).alloc (by simp) _
  | exact (((Below.refl _ _).alloc (Nat.le_refl _) _).alloc (by simp) _).alloc (by simp; omega) _

set_option maxHeartbeats 1000000 in
theorem stored_S0 (d v x : Int) (w : World) : Calls Tryd.prog 99 #[vS d 0 v, .int .i64 x] w fun e w' => e = .returned (mvV (vS d 2 x) 2 0 3) ∧ Below w.heap.size w w' := by
  have tI := ta_SI
  have tS := ta_SS
  have tO := ta_SO
  have tL := ta_SL
  go_enter Tryd.func99, Tryd.ntmps99
  go_wp2
  refine bodyPost_ret (v := mvV (vS d 2 x) 2 0 3) (by simp [results, Tryd.results99, go_sem]) rfl ⟨rfl, ?_⟩
  first
  | exact (Below.refl _ _).alloc (Nat.le_refl _) _
  | exact ((Below.refl _ _).alloc (Nat.le_refl _) _).alloc (by simp) _
  | exact (((Below.refl _ _).alloc (Nat.le_refl _) _).alloc (by simp) _).alloc (by simp; omega) _

set_option maxHeartbeats 1000000 in
theorem stored_S1 (d wt v x : Int) (h : (wt == 0) = false) (w : World) : Calls Tryd.prog 99 #[vS d wt v, .int .i64 x] w fun e w' => e = .returned (mvV (vS d wt v) 0 0 4) ∧ Below w.heap.size w w' := by
  have tI := ta_SI
  have tS := ta_SS
  have tO := ta_SO
  have tL := ta_SL
  go_enter Tryd.func99, Tryd.ntmps99
  go_wp2_with fail
  refine (refused_any _ _ _).mono ?_
  rintro e w1 ⟨rfl, hb1⟩
  have hc1 := fun i => hb1.cell (p := ⟨w.heap.size, i, none⟩) (by simp <;> omega)
  have hf1 := fun i => hb1.frozen (p := ⟨w.heap.size, i, none⟩) (by simp <;> omega)
  have HB1 := hide hb1
  clear hb1
  go_wp2
  refine bodyPost_ret (v := mvV (vS d wt v) 0 0 4) (by simp [results, Tryd.results99, go_sem, hc1]) rfl ⟨rfl, ?_⟩
  first
  | exact below_put4 (((Below.refl _ _).alloc (Nat.le_refl _) _).trans (HB1.out.mono (by simp))) (Nat.le_refl _) _ _ _ _
  | exact below_put4 ((((Below.refl _ _).alloc (Nat.le_refl _) _).alloc (by simp) _).trans (HB1.out.mono (by simp; omega))) (Nat.le_refl _) _ _ _ _

set_option maxHeartbeats 1000000 in
theorem stored_I0 (v x : Int) (w : World) : Calls Tryd.prog 99 #[vI 0 v, .int .i64 x] w fun e w' => e = .returned (mvV (vI 2 x) 2 0 3) ∧ Below w.heap.size w w' := by
  have tI := ta_II
  have tS := ta_IS
  have tO := ta_IO
  have tL := ta_IL
  go_enter Tryd.func99, Tryd.ntmps99
  go_wp2
  refine bodyPost_ret (v := mvV (vI 2 x) 2 0 3) (by simp [results, Tryd.results99, go_sem]) rfl ⟨rfl, ?_⟩
  first
  | exact (Below.refl _ _).alloc (Nat.le_refl _) _
  | exact ((Below.refl _ _).alloc (Nat.le_refl _) _).alloc (by simp) _
  | exact (((Below.refl _ _).alloc (Nat.le_refl _) _).alloc (by simp) _).alloc (by simp; omega) _

set_option maxHeartbeats 1000000 in
theorem stored_I1 (wt v x : Int) (h : (wt == 0) = false) (w : World) : Calls Tryd.prog 99 #[vI wt v, .int .i64 x] w fun e w' => e = .returned (mvV (vI wt v) 0 0 4) ∧ Below w.heap.size w w' := by
  have tI := ta_II
  have tS := ta_IS
  have tO := ta_IO
  have tL := ta_IL
  go_enter Tryd.func99, Tryd.ntmps99
  go_wp2_with fail
  refine (refused_any _ _ _).mono ?_
  rintro e w1 ⟨rfl, hb1⟩
  have hc1 := fun i => hb1.cell (p := ⟨w.heap.size, i, none⟩) (by simp <;> omega)
  have hf1 := fun i => hb1.frozen (p := ⟨w.heap.size, i, none⟩) (by simp <;> omega)
  have HB1 := hide hb1
  clear hb1
  go_wp2
  refine bodyPost_ret (v := mvV (vI wt v) 0 0 4) (by simp [results, Tryd.results99, go_sem, hc1]) rfl ⟨rfl, ?_⟩
  first
  | exact below_put4 (((Below.refl _ _).alloc (Nat.le_refl _) _).trans (HB1.out.mono (by simp))) (Nat.le_refl _) _ _ _ _
  | exact below_put4 ((((Below.refl _ _).alloc (Nat.le_refl _) _).alloc (by simp) _).trans (HB1.out.mono (by simp; omega))) (Nat.le_refl _) _ _ _ _

set_option maxHeartbeats 1000000 in
theorem stored_L (d x : Int) (w : World) : Calls Tryd.prog 99 #[vL d, .int .i64 x] w fun e w' => e = .returned (mvV (vL d) 0 0 4) ∧ Below w.heap.size w w' := by
  have tI := ta_LI
  have tS := ta_LS
  have tO := ta_LO
  have tL := ta_LL
  go_enter Tryd.func99, Tryd.ntmps99
  go_wp2_with fail
  refine (refused_any _ _ _).mono ?_
  rintro e w1 ⟨rfl, hb1⟩
  have hc1 := fun i => hb1.cell (p := ⟨w.heap.size, i, none⟩) (by simp <;> omega)
  have hf1 := fun i => hb1.frozen (p := ⟨w.heap.size, i, none⟩) (by simp <;> omega)
  have HB1 := hide hb1
  clear hb1
  go_wp2
  refine bodyPost_ret (v := mvV (vL d) 0 0 4) (by simp [results, Tryd.results99, go_sem, hc1]) rfl ⟨rfl, ?_⟩
  first
  | exact below_put4 (((Below.refl _ _).alloc (Nat.le_refl _) _).trans (HB1.out.mono (by simp))) (Nat.le_refl _) _ _ _ _
  | exact below_put4 ((((Below.refl _ _).alloc (Nat.le_refl _) _).alloc (by simp) _).trans (HB1.out.mono (by simp; omega))) (Nat.le_refl _) _ _ _ _

set_option maxHeartbeats 1000000 in
theorem inv_O (d : Int) (w : World) : Calls Tryd.prog 145 #[vO d] w fun e w' => e = .returned (mvV (vO d) 0 0 4) ∧ Below w.heap.size w w' := by
  have tI := ta_OI
  have tS := ta_OS
  have tO := ta_OO
  have tL := ta_OL
  go_enter Tryd.func145, Tryd.ntmps145
  go_wp2_with fail
  refine (refused_any _ _ _).mono ?_
  rintro e w1 ⟨rfl, hb1⟩
  have hc1 := fun i => hb1.cell (p := ⟨w.heap.size, i, none⟩) (by simp <;> omega)
  have hf1 := fun i => hb1.frozen (p := ⟨w.heap.size, i, none⟩) (by simp <;> omega)
  have HB1 := hide hb1
  clear hb1
  go_wp2
  refine bodyPost_ret (v := mvV (vO d) 0 0 4) (by simp [results, Tryd.results145, go_sem, hc1]) rfl ⟨rfl, ?_⟩
  first
  | exact below_put4 (((Below.refl _ _).alloc (Nat.le_refl _) _).trans (HB1.out.mono (by simp))) (Nat.le_refl _) _ _ _ _
  | exact below_put4 ((((Below.refl _ _).alloc (Nat.le_refl _) _).alloc (by simp) _).trans (HB1.out.mono (by simp; omega))) (Nat.le_refl _) _ _ _ _

set_option maxHeartbeats 1000000 in
theorem inv_S (d wt v : Int) (w : World) : Calls Tryd.prog 145 #[vS d wt v] w fun e w' => e = .returned (mvV (vI wt v) 6 0 0) ∧ Below w.heap.size w w' := by
  have tI := ta_SI
  have tS := ta_SS
  have tO := ta_SO
  have tL := ta_SL
  go_enter Tryd.func145, Tryd.ntmps145
  go_wp2
  refine bodyPost_ret (v := mvV (vI wt v) 6 0 0) (by simp [results, Tryd.results145, go_sem]) rfl ⟨rfl, ?_⟩
  first
  | exact (Below.refl _ _).alloc (Nat.le_refl _) _
  | exact ((Below.refl _ _).alloc (Nat.le_refl _) _).alloc (by simp) _
  | exact (((Below.refl _ _).alloc (Nat.le_refl _) _).alloc (by simp) _).alloc (by simp; omega) _

set_option maxHeartbeats 1000000 in
theorem inv_I (wt v : Int) (w : World) : Calls Tryd.prog 145 #[vI wt v] w fun e w' => e = .returned (mvV (vI wt v) 6 0 0) ∧ Below w.heap.size w w' := by
  have tI := ta_II
  have tS := ta_IS
  have tO := ta_IO
  have tL := ta_IL
  go_enter Tryd.func145, Tryd.ntmps145
  go_wp2
  refine bodyPost_ret (v := mvV (vI wt v) 6 0 0) (by simp [results, Tryd.results145, go_sem]) rfl ⟨rfl, ?_⟩
  first
  | exact (Below.refl _ _).alloc (Nat.le_refl _) _
  | exact ((Below.refl _ _).alloc (Nat.le_refl _) _).alloc (by simp) _
  | exact (((Below.refl _ _).alloc (Nat.le_refl _) _).alloc (by simp) _).alloc (by simp; omega) _

set_option maxHeartbeats 1000000 in
theorem inv_L (d : Int) (w : World) : Calls Tryd.prog 145 #[vL d] w fun e w' => e = .returned (mvV (vL d) 6 0 0) ∧ Below w.heap.size w w' := by
  have tI := ta_LI
  have tS := ta_LS
  have tO := ta_LO
  have tL := ta_LL
  go_enter Tryd.func145, Tryd.ntmps145
  go_wp2
  refine bodyPost_ret (v := mvV (vL d) 6 0 0) (by simp [results, Tryd.results145, go_sem]) rfl ⟨rfl, ?_⟩
  first
  | exact (Below.refl _ _).alloc (Nat.le_refl _) _
  | exact ((Below.refl _ _).alloc (Nat.le_refl _) _).alloc (by simp) _
  | exact (((Below.refl _ _).alloc (Nat.le_refl _) _).alloc (by simp) _).alloc (by simp; omega) _

set_option maxHeartbeats 1000000 in
theorem fet_O1 (d : Int) (w : World) : Calls Tryd.prog 146 #[vO d, .int .i64 1] w fun e w' => e = .returned (mvV (vS d 0 0) 7 d 0) ∧ Below w.heap.size w w' := by
  have tI := ta_OI
  have tS := ta_OS
  have tO := ta_OO
  have tL := ta_OL
  go_enter Tryd.func146, Tryd.ntmps146
  go_wp2
  refine bodyPost_ret (v := mvV (vS d 0 0) 7 d 0) (by simp [results, Tryd.results146, go_sem]) rfl ⟨rfl, ?_⟩
  first
  | exact (Below.refl _ _).alloc (Nat.le_refl _) _
  | exact ((Below.refl _ _).alloc (Nat.le_refl _) _).alloc (by simp) _
  | exact (((Below.refl _ _).alloc (Nat.le_refl _) _).alloc (by simp) _).alloc (by simp; omega) _

set_option maxHeartbeats 1000000 in
theorem fet_O2 (d x : Int) (h : (x == 1) = false) (w : World) : Calls Tryd.prog 146 #[vO d, .int .i64 x] w fun e w' => e = .returned (mvV (vI 0 0) 7 d 0) ∧ Below w.heap.size w w' := by
  have tI := ta_OI
  have tS := ta_OS
  have tO := ta_OO
  have tL := ta_OL
  go_enter Tryd.func146, Tryd.ntmps146
  go_wp2
  refine bodyPost_ret (v := mvV (vI 0 0) 7 d 0) (by simp [results, Tryd.results146, go_sem]) rfl ⟨rfl, ?_⟩
  first
  | exact (Below.refl _ _).alloc (Nat.le_refl _) _
  | exact ((Below.refl _ _).alloc (Nat.le_refl _) _).alloc (by simp) _
  | exact (((Below.refl _ _).alloc (Nat.le_refl _) _).alloc (by simp) _).alloc (by simp; omega) _

set_option maxHeartbeats 1000000 in
theorem fet_L (d x : Int) (w : World) : Calls Tryd.prog 146 #[vL d, .int .i64 x] w fun e w' => e = .returned (mvV (vL d) 7 d 0) ∧ Below w.heap.size w w' := by
  have tI := ta_LI
  have tS := ta_LS
  have tO := ta_LO
  have tL := ta_LL
  go_enter Tryd.func146, Tryd.ntmps146
  go_wp2
  refine bodyPost_ret (v := mvV (vL d) 7 d 0) (by simp [results, Tryd.results146, go_sem]) rfl ⟨rfl, ?_⟩
  first
  | exact (Below.refl _ _).alloc (Nat.le_refl _) _
  | exact ((Below.refl _ _).alloc (Nat.le_refl _) _).alloc (by simp) _
  | exact (((Below.refl _ _).alloc (Nat.le_refl _) _).alloc (by simp) _).alloc (by simp; omega) _

set_option maxHeartbeats 1000000 in
theorem fet_S (d wt v x : Int) (w : World) : Calls Tryd.prog 146 #[vS d wt v, .int .i64 x] w fun e w' => e = .returned (mvV (vS d wt v) 0 0 4) ∧ Below w.heap.size w w' := by
  have tI := ta_SI
  have tS := ta_SS
  have tO := ta_SO
  have tL := ta_SL
  go_enter Tryd.func146, Tryd.ntmps146
  go_wp2_with fail
  refine (refused_any _ _ _).mono ?_
  rintro e w1 ⟨rfl, hb1⟩
  have hc1 := fun i => hb1.cell (p := ⟨w.heap.size, i, none⟩) (by simp <;> omega)
  have hf1 := fun i => hb1.frozen (p := ⟨w.heap.size, i, none⟩) (by simp <;> omega)
  have HB1 := hide hb1
  clear hb1
  go_wp2
  refine bodyPost_ret (v := mvV (vS d wt v) 0 0 4) (by simp [results, Tryd.results146, go_sem, hc1]) rfl ⟨rfl, ?_⟩
  first
  | exact below_put4 (((Below.refl _ _).alloc (Nat.le_refl _) _).trans (HB1.out.mono (by simp))) (Nat.le_refl _) _ _ _ _
  | exact below_put4 ((((Below.refl _ _).alloc (Nat.le_refl _) _).alloc (by simp) _).trans (HB1.out.mono (by simp; omega))) (Nat.le_refl _) _ _ _ _

set_option maxHeartbeats 1000000 in
theorem fet_I (wt v x : Int) (w : World) : Calls Tryd.prog 146 #[vI wt v, .int .i64 x] w fun e w' => e = .returned (mvV (vI wt v) 0 0 4) ∧ Below w.heap.size w w' := by
  have tI := ta_II
  have tS := ta_IS
  have tO := ta_IO
  have tL := ta_IL
  go_enter Tryd.func146, Tryd.ntmps146
  go_wp2_with fail
  refine (refused_any _ _ _).mono ?_
  rintro e w1 ⟨rfl, hb1⟩
  have hc1 := fun i => hb1.cell (p := ⟨w.heap.size, i, none⟩) (by simp <;> omega)
  have hf1 := fun i => hb1.frozen (p := ⟨w.heap.size, i, none⟩) (by simp <;> omega)
  have HB1 := hide hb1
  clear hb1
  go_wp2
  refine bodyPost_ret (v := mvV (vI wt v) 0 0 4) (by simp [results, Tryd.results146, go_sem, hc1]) rfl ⟨rfl, ?_⟩
  first
  | exact below_put4 (((Below.refl _ _).alloc (Nat.le_refl _) _).trans (HB1.out.mono (by simp))) (Nat.le_refl _) _ _ _ _
  | exact below_put4 ((((Below.refl _ _).alloc (Nat.le_refl _) _).alloc (by simp) _).trans (HB1.out.mono (by simp; omega))) (Nat.le_refl _) _ _ _ _

set_option maxHeartbeats 1000000 in
theorem put_L (d : Int) (w : World) : Calls Tryd.prog 148 #[vL d] w fun e w' => e = .returned (mvV (vI 0 0) 0 0 0) ∧ Below w.heap.size w w' := by
  have tI := ta_LI
  have tS := ta_LS
  have tO := ta_LO
  have tL := ta_LL
  go_enter Tryd.func148, Tryd.ntmps148
  go_wp2
  refine bodyPost_ret (v := mvV (vI 0 0) 0 0 0) (by simp [results, Tryd.results148, go_sem]) rfl ⟨rfl, ?_⟩
  first
  | exact (Below.refl _ _).alloc (Nat.le_refl _) _
  | exact ((Below.refl _ _).alloc (Nat.le_refl _) _).alloc (by simp) _
  | exact (((Below.refl _ _).alloc (Nat.le_refl _) _).alloc (by simp) _).alloc (by simp; omega) _

set_option maxHeartbeats 1000000 in
theorem put_S (d wt v : Int) (w : World) : Calls Tryd.prog 148 #[vS d wt v] w fun e w' => e = .returned (mvV (vS d wt v) 0 0 4) ∧ Below w.heap.size w w' := by
  have tI := ta_SI
  have tS := ta_SS
  have tO := ta_SO
  have tL := ta_SL
  go_enter Tryd.func148, Tryd.ntmps148
  go_wp2_with fail
  refine (refused_any _ _ _).mono ?_
  rintro e w1 ⟨rfl, hb1⟩
  have hc1 := fun i => hb1.cell (p := ⟨w.heap.size, i, none⟩) (by simp <;> omega)
  have hf1 := fun i => hb1.frozen (p := ⟨w.heap.size, i, none⟩) (by simp <;> omega)
  have HB1 := hide hb1
  clear hb1
  go_wp2
  refine bodyPost_ret (v := mvV (vS d wt v) 0 0 4) (by simp [results, Tryd.results148, go_sem, hc1]) rfl ⟨rfl, ?_⟩
  first
  | exact below_put4 (((Below.refl _ _).alloc (Nat.le_refl _) _).trans (HB1.out.mono (by simp))) (Nat.le_refl _) _ _ _ _
  | exact below_put4 ((((Below.refl _ _).alloc (Nat.le_refl _) _).alloc (by simp) _).trans (HB1.out.mono (by simp; omega))) (Nat.le_refl _) _ _ _ _

set_option maxHeartbeats 1000000 in
theorem put_I (wt v : Int) (w : World) : Calls Tryd.prog 148 #[vI wt v] w fun e w' => e = .returned (mvV (vI wt v) 0 0 4) ∧ Below w.heap.size w w' := by
  have tI := ta_II
  have tS := ta_IS
  have tO := ta_IO
  have tL := ta_IL
  go_enter Tryd.func148, Tryd.ntmps148
  go_wp2_with fail
  refine (refused_any _ _ _).mono ?_
  rintro e w1 ⟨rfl, hb1⟩
  have hc1 := fun i => hb1.cell (p := ⟨w.heap.size, i, none⟩) (by simp <;> omega)
  have hf1 := fun i => hb1.frozen (p := ⟨w.heap.size, i, none⟩) (by simp <;> omega)
  have HB1 := hide hb1
  clear hb1
  go_wp2
  refine bodyPost_ret (v := mvV (vI wt v) 0 0 4) (by simp [results, Tryd.results148, go_sem, hc1]) rfl ⟨rfl, ?_⟩
  first
  | exact below_put4 (((Below.refl _ _).alloc (Nat.le_refl _) _).trans (HB1.out.mono (by simp))) (Nat.le_refl _) _ _ _ _
  | exact below_put4 ((((Below.refl _ _).alloc (Nat.le_refl _) _).alloc (by simp) _).trans (HB1.out.mono (by simp; omega))) (Nat.le_refl _) _ _ _ _

set_option maxHeartbeats 1000000 in
theorem put_O (d : Int) (w : World) : Calls Tryd.prog 148 #[vO d] w fun e w' => e = .returned (mvV (vO d) 0 0 4) ∧ Below w.heap.size w w' := by
  have tI := ta_OI
  have tS := ta_OS
  have tO := ta_OO
  have tL := ta_OL
  go_enter Tryd.func148, Tryd.ntmps148
  go_wp2_with fail
  refine (refused_any _ _ _).mono ?_
  rintro e w1 ⟨rfl, hb1⟩
  have hc1 := fun i => hb1.cell (p := ⟨w.heap.size, i, none⟩) (by simp <;> omega)
  have hf1 := fun i => hb1.frozen (p := ⟨w.heap.size, i, none⟩) (by simp <;> omega)
  have HB1 := hide hb1
  clear hb1
  go_wp2
  refine bodyPost_ret (v := mvV (vO d) 0 0 4) (by simp [results, Tryd.results148, go_sem, hc1]) rfl ⟨rfl, ?_⟩
  first
  | exact below_put4 (((Below.refl _ _).alloc (Nat.le_refl _) _).trans (HB1.out.mono (by simp))) (Nat.le_refl _) _ _ _ _
  | exact below_put4 ((((Below.refl _ _).alloc (Nat.le_refl _) _).alloc (by simp) _).trans (HB1.out.mono (by simp; omega))) (Nat.le_refl _) _ _ _ _

end Go.Proofs.YtjhaloeahidplaaDoor
