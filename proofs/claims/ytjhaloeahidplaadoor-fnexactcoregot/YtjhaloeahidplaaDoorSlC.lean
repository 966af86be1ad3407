/- slots' states behind the interface: stateOf, slot, refused -/
import Derived.Test.YtjhaloeahidplaaDoorSlA
namespace Go.Proofs.YtjhaloeahidplaaDoor
open Go.RowKit

abbrev vI (wt v : Int) : Value := .iface 161 (.agg #[.int .i64 wt, .int .i64 v])
abbrev vS (d wt v : Int) : Value := .iface 164 (.agg #[.int .i64 d, .int .i64 wt, .int .i64 v])
abbrev vO (d : Int) : Value := .iface 166 (.agg #[.int .i64 d])
abbrev vL (d : Int) : Value := .iface 187 (.agg #[.int .i64 d])
abbrev slV (st d wt v : Int) : Value := .agg #[.int .i64 st, .int .i64 d, .int .i64 wt, .int .i64 v]
abbrev mvV (n : Value) (k d c : Int) : Value := .agg #[n, .int .i64 k, .int .i64 d, .int .i64 c]

set_option maxHeartbeats 1000000 in
theorem stateOf_0 (d wt v : Int) (w : World) : Calls Tryd.prog 142 #[.agg #[.int .i64 0, .int .i64 d, .int .i64 wt, .int .i64 v]] w fun e w' => e = .returned (vI wt v) ∧ Below w.heap.size w w' := by
  go_enter Tryd.func142, Tryd.ntmps142
  go_wp2
  go_ret
  exact ⟨rfl, (Below.refl _ _).alloc (Nat.le_refl _) _⟩
set_option maxHeartbeats 1000000 in
theorem stateOf_1 (d wt v : Int) (w : World) : Calls Tryd.prog 142 #[.agg #[.int .i64 1, .int .i64 d, .int .i64 wt, .int .i64 v]] w fun e w' => e = .returned (vS d wt v) ∧ Below w.heap.size w w' := by
  go_enter Tryd.func142, Tryd.ntmps142
  go_wp2
  go_ret
  exact ⟨rfl, (Below.refl _ _).alloc (Nat.le_refl _) _⟩
set_option maxHeartbeats 1000000 in
theorem stateOf_2 (d wt v : Int) (w : World) : Calls Tryd.prog 142 #[.agg #[.int .i64 2, .int .i64 d, .int .i64 wt, .int .i64 v]] w fun e w' => e = .returned (vO d) ∧ Below w.heap.size w w' := by
  go_enter Tryd.func142, Tryd.ntmps142
  go_wp2
  go_ret
  exact ⟨rfl, (Below.refl _ _).alloc (Nat.le_refl _) _⟩
set_option maxHeartbeats 1000000 in
theorem stateOf_3 (d wt v : Int) (w : World) : Calls Tryd.prog 142 #[.agg #[.int .i64 3, .int .i64 d, .int .i64 wt, .int .i64 v]] w fun e w' => e = .returned (vL d) ∧ Below w.heap.size w w' := by
  go_enter Tryd.func142, Tryd.ntmps142
  go_wp2
  go_ret
  exact ⟨rfl, (Below.refl _ _).alloc (Nat.le_refl _) _⟩

set_option maxHeartbeats 1000000 in
theorem slot_I (wt v : Int) (w : World) : Calls Tryd.prog 226 #[.agg #[.int .i64 wt, .int .i64 v]] w fun e w' => e = .returned (slV 0 0 wt v) ∧ Below w.heap.size w w' := by
  go_enter Tryd.func226, Tryd.ntmps226
  go_wp2
  refine bodyPost_ret (v := slV 0 0 wt v) (by simp [results, Tryd.results226, go_sem]) rfl ⟨rfl, ?_⟩
  exact ((Below.refl _ _).alloc (Nat.le_refl _) _).alloc (by simp) _
set_option maxHeartbeats 1000000 in
theorem slot_S (d wt v : Int) (w : World) : Calls Tryd.prog 227 #[.agg #[.int .i64 d, .int .i64 wt, .int .i64 v]] w fun e w' => e = .returned (slV 1 d wt v) ∧ Below w.heap.size w w' := by
  go_enter Tryd.func227, Tryd.ntmps227
  go_wp2
  refine bodyPost_ret (v := slV 1 d wt v) (by simp [results, Tryd.results227, go_sem]) rfl ⟨rfl, ?_⟩
  exact ((Below.refl _ _).alloc (Nat.le_refl _) _).alloc (by simp) _
set_option maxHeartbeats 1000000 in
theorem slot_O (d : Int) (w : World) : Calls Tryd.prog 228 #[.agg #[.int .i64 d]] w fun e w' => e = .returned (slV 2 d 0 0) ∧ Below w.heap.size w w' := by
  go_enter Tryd.func228, Tryd.ntmps228
  go_wp2
  refine bodyPost_ret (v := slV 2 d 0 0) (by simp [results, Tryd.results228, go_sem]) rfl ⟨rfl, ?_⟩
  exact ((Below.refl _ _).alloc (Nat.le_refl _) _).alloc (by simp) _
set_option maxHeartbeats 1000000 in
theorem slot_L (d : Int) (w : World) : Calls Tryd.prog 229 #[.agg #[.int .i64 d]] w fun e w' => e = .returned (slV 3 d 0 0) ∧ Below w.heap.size w w' := by
  go_enter Tryd.func229, Tryd.ntmps229
  go_wp2
  refine bodyPost_ret (v := slV 3 d 0 0) (by simp [results, Tryd.results229, go_sem]) rfl ⟨rfl, ?_⟩
  exact ((Below.refl _ _).alloc (Nat.le_refl _) _).alloc (by simp) _

set_option maxHeartbeats 1000000 in
theorem refused_any (t : TypeId) (x : Value) (w : World) : Calls Tryd.prog 143 #[.iface t x] w fun e w' => e = .returned (mvV (.iface t x) 0 0 4) ∧ Below w.heap.size w w' := by
  go_enter Tryd.func143, Tryd.ntmps143
  go_wp2
  refine bodyPost_ret (v := mvV (.iface t x) 0 0 4) (by simp [results, Tryd.results143, go_sem]) rfl ⟨rfl, ?_⟩
  exact (Below.refl _ _).alloc (Nat.le_refl _) _

end Go.Proofs.YtjhaloeahidplaaDoor
