/- LnkG, LdA -/
import Derived.Test.YtgflipkhhpkidaaYkOrder3
import Derived.WalkKit
import Derived.ProofKit
import Derived.OpenShut
import Derived.ShutString
import Derived.ChangeOld
import Derived.Below
import Derived.OpenVars
import Derived.Deep.SlicePairs
import Derived.BigRegion
/- links opened -/
namespace Go.Proofs.Ytgflipkhhpkidaa
open Go.RowKit
open Go.ChangeShapes Go.WideShapes Go.ChangeAt Go.WideMaps Go.WideElems
set_option linter.unusedVariables false
set_option linter.unusedSimpArgs false

end Go.Proofs.Ytgflipkhhpkidaa

/- impl.linkKindOf: an act by its kind (written by mkLdA.py) -/
namespace Go.Proofs.Ytgflipkhhpkidaa
open Go.RowKit
set_option linter.unusedVariables false
set_option linter.unusedSimpArgs false

abbrev a4 (k at' bit : Int) (body : ByteArray) : Array Value := #[.int .i64 k, .int .i64 at', .int .i64 bit, .string body]
/-- an act's value behind the interface -/
def laV (k at' bit : Int) (body : ByteArray) : Value :=
  if k = 1 then .iface 78 (.agg #[.string body])
  else if k = 2 then .iface 80 (.agg #[])
  else if k = 3 then .iface 85 (.agg #[.bool false, .int .i64 at'])
  else if k = 4 then .iface 85 (.agg #[.bool true, .int .i64 at'])
  else if k = 5 then .iface 87 (.agg #[.bool false, .int .i64 at'])
  else if k = 6 then .iface 87 (.agg #[.bool true, .int .i64 at'])
  else if k = 7 then .iface 91 (.agg #[.bool false, .int .i64 at', .int .i64 bit])
  else if k = 8 then .iface 91 (.agg #[.bool true, .int .i64 at', .int .i64 bit])
  else .nilIface
theorem laV_1 (at' bit : Int) (body : ByteArray) : laV 1 at' bit body = .iface 78 (.agg #[.string body]) := by simp [laV]
theorem laV_2 (at' bit : Int) (body : ByteArray) : laV 2 at' bit body = .iface 80 (.agg #[]) := by simp [laV]
theorem laV_3 (at' bit : Int) (body : ByteArray) : laV 3 at' bit body = .iface 85 (.agg #[.bool false, .int .i64 at']) := by simp [laV]
theorem laV_4 (at' bit : Int) (body : ByteArray) : laV 4 at' bit body = .iface 85 (.agg #[.bool true, .int .i64 at']) := by simp [laV]
theorem laV_5 (at' bit : Int) (body : ByteArray) : laV 5 at' bit body = .iface 87 (.agg #[.bool false, .int .i64 at']) := by simp [laV]
theorem laV_6 (at' bit : Int) (body : ByteArray) : laV 6 at' bit body = .iface 87 (.agg #[.bool true, .int .i64 at']) := by simp [laV]
theorem laV_7 (at' bit : Int) (body : ByteArray) : laV 7 at' bit body = .iface 91 (.agg #[.bool false, .int .i64 at', .int .i64 bit]) := by simp [laV]
theorem laV_8 (at' bit : Int) (body : ByteArray) : laV 8 at' bit body = .iface 91 (.agg #[.bool true, .int .i64 at', .int .i64 bit]) := by simp [laV]
theorem laV_no {k : Int} (at' bit : Int) (body : ByteArray) (h : ¬ (1 ≤ k ∧ k ≤ 8)) : laV k at' bit body = .nilIface := by
  unfold laV
  rw [if_neg (by omega), if_neg (by omega), if_neg (by omega), if_neg (by omega), if_neg (by omega), if_neg (by omega), if_neg (by omega), if_neg (by omega)]

set_option maxHeartbeats 1000000 in
theorem kind_1 (at' bit : Int) (body : ByteArray) (w : World) : Calls Try.prog 51 #[.agg (a4 1 at' bit body)] w fun e w' => e = .returned (.iface 78 (.agg #[.string body])) ∧ Below w.heap.size w w' := by
  go_enter Try.func51, Try.ntmps51
  go_wp2
  go_region
  all_goals go_wp2
  all_goals go_ret
  all_goals exact ⟨rfl, ((((Below.refl _ _).alloc (Nat.le_refl _) _).alloc (by simp) _).alloc (by simp; omega) _).drew⟩

set_option maxHeartbeats 1000000 in
theorem kind_2 (at' bit : Int) (body : ByteArray) (w : World) : Calls Try.prog 51 #[.agg (a4 2 at' bit body)] w fun e w' => e = .returned (.iface 80 (.agg #[])) ∧ Below w.heap.size w w' := by
  go_enter Try.func51, Try.ntmps51
  go_wp2
  go_region
  all_goals go_wp2
  all_goals go_ret
  all_goals exact ⟨rfl, ((((Below.refl _ _).alloc (Nat.le_refl _) _).alloc (by simp) _).alloc (by simp; omega) _).drew⟩

set_option maxHeartbeats 1000000 in
theorem kind_3 (at' bit : Int) (body : ByteArray) (w : World) : Calls Try.prog 51 #[.agg (a4 3 at' bit body)] w fun e w' => e = .returned (.iface 85 (.agg #[.bool false, .int .i64 at'])) ∧ Below w.heap.size w w' := by
  go_enter Try.func51, Try.ntmps51
  go_wp2
  go_region
  all_goals go_wp2
  all_goals go_ret
  all_goals exact ⟨rfl, ((((Below.refl _ _).alloc (Nat.le_refl _) _).alloc (by simp) _).alloc (by simp; omega) _).drew⟩

set_option maxHeartbeats 1000000 in
theorem kind_4 (at' bit : Int) (body : ByteArray) (w : World) : Calls Try.prog 51 #[.agg (a4 4 at' bit body)] w fun e w' => e = .returned (.iface 85 (.agg #[.bool true, .int .i64 at'])) ∧ Below w.heap.size w w' := by
  go_enter Try.func51, Try.ntmps51
  go_wp2
  go_region
  all_goals go_wp2
  all_goals go_ret
  all_goals exact ⟨rfl, ((((Below.refl _ _).alloc (Nat.le_refl _) _).alloc (by simp) _).alloc (by simp; omega) _).drew⟩

set_option maxHeartbeats 1000000 in
theorem kind_5 (at' bit : Int) (body : ByteArray) (w : World) : Calls Try.prog 51 #[.agg (a4 5 at' bit body)] w fun e w' => e = .returned (.iface 87 (.agg #[.bool false, .int .i64 at'])) ∧ Below w.heap.size w w' := by
  go_enter Try.func51, Try.ntmps51
  go_wp2
  go_region
  all_goals go_wp2
  all_goals go_ret
  all_goals exact ⟨rfl, ((((Below.refl _ _).alloc (Nat.le_refl _) _).alloc (by simp) _).alloc (by simp; omega) _).drew⟩

set_option maxHeartbeats 1000000 in
theorem kind_6 (at' bit : Int) (body : ByteArray) (w : World) : Calls Try.prog 51 #[.agg (a4 6 at' bit body)] w fun e w' => e = .returned (.iface 87 (.agg #[.bool true, .int .i64 at'])) ∧ Below w.heap.size w w' := by
  go_enter Try.func51, Try.ntmps51
  go_wp2
  go_region
  all_goals go_wp2
  all_goals go_ret
  all_goals exact ⟨rfl, ((((Below.refl _ _).alloc (Nat.le_refl _) _).alloc (by simp) _).alloc (by simp; omega) _).drew⟩

set_option maxHeartbeats 1000000 in
theorem kind_7 (at' bit : Int) (body : ByteArray) (w : World) : Calls Try.prog 51 #[.agg (a4 7 at' bit body)] w fun e w' => e = .returned (.iface 91 (.agg #[.bool false, .int .i64 at', .int .i64 bit])) ∧ Below w.heap.size w w' := by
  go_enter Try.func51, Try.ntmps51
  go_wp2
  go_region
  all_goals go_wp2
  all_goals go_ret
  all_goals exact ⟨rfl, ((((Below.refl _ _).alloc (Nat.le_refl _) _).alloc (by simp) _).alloc (by simp; omega) _).drew⟩

set_option maxHeartbeats 1000000 in
theorem kind_8 (at' bit : Int) (body : ByteArray) (w : World) : Calls Try.prog 51 #[.agg (a4 8 at' bit body)] w fun e w' => e = .returned (.iface 91 (.agg #[.bool true, .int .i64 at', .int .i64 bit])) ∧ Below w.heap.size w w' := by
  go_enter Try.func51, Try.ntmps51
  go_wp2
  go_region
  all_goals go_wp2
  all_goals go_ret
  all_goals exact ⟨rfl, ((((Below.refl _ _).alloc (Nat.le_refl _) _).alloc (by simp) _).alloc (by simp; omega) _).drew⟩

set_option maxHeartbeats 1000000 in
theorem kind_0 (k at' bit : Int) (body : ByteArray) (w : World) (h : ¬ (1 ≤ k ∧ k ≤ 8)) : Calls Try.prog 51 #[.agg (a4 k at' bit body)] w fun e w' => e = .returned .nilIface ∧ Below w.heap.size w w' := by
  have d1 : (k == 1) = false := by rw [beq_eq_false_iff_ne]; omega
  have d2 : (k == 2) = false := by rw [beq_eq_false_iff_ne]; omega
  have d3 : (k == 3) = false := by rw [beq_eq_false_iff_ne]; omega
  have d4 : (k == 4) = false := by rw [beq_eq_false_iff_ne]; omega
  have d5 : (k == 5) = false := by rw [beq_eq_false_iff_ne]; omega
  have d6 : (k == 6) = false := by rw [beq_eq_false_iff_ne]; omega
  have d7 : (k == 7) = false := by rw [beq_eq_false_iff_ne]; omega
  have d8 : (k == 8) = false := by rw [beq_eq_false_iff_ne]; omega
  clear h
  go_enter Try.func51, Try.ntmps51
  go_wp2
  go_region
  all_goals go_wp2
  all_goals go_ret
  all_goals exact ⟨rfl, ((((Below.refl _ _).alloc (Nat.le_refl _) _).alloc (by simp) _).alloc (by simp; omega) _).drew⟩

end Go.Proofs.Ytgflipkhhpkidaa
