/- Bits -/
import Derived.Test.YtlalldlbgnlbjaaDoorYtBegun10
import Derived.WalkKit
/- bits of small numbers: closed facts -/
namespace Go.Proofs.YtlalldlbgnlbjaaDoor
open Go.RowKit

theorem fin_of (s : Int) (h0 : 0 ≤ s) (h : s < 64) : ∃ m : Fin 64, s = ((m.val : Nat) : Int) := ⟨⟨s.toNat, by omega⟩, by simp; omega⟩

theorem or_fin : ∀ m : Fin 64, ∀ z ∈ [1, 2, 3, 4, 5], ((m.val : Nat) : Int) < 2 ^ z → bits BinOp.or IntKind.u64 ((m.val : Nat) : Int) (2 ^ z) = ((m.val : Nat) : Int) + 2 ^ z := by decide +kernel

theorem or_in : ∀ m : Fin 64, ∀ z ∈ [1, 2, 3, 4, 5], 0 ≤ bits BinOp.or IntKind.u64 ((m.val : Nat) : Int) (2 ^ z) ∧ bits BinOp.or IntKind.u64 ((m.val : Nat) : Int) (2 ^ z) < 64 := by decide +kernel

theorem andNot_in : ∀ m : Fin 64, ∀ z ∈ [1, 2, 3, 4, 5], 0 ≤ bits BinOp.andNot IntKind.u64 ((m.val : Nat) : Int) (2 ^ z) ∧ bits BinOp.andNot IntKind.u64 ((m.val : Nat) : Int) (2 ^ z) < 64 := by decide +kernel

theorem and_fin : ∀ m : Fin 64, bits BinOp.and IntKind.u64 ((m.val : Nat) : Int) 1 = ((m.val : Nat) : Int) % 2 := by decide +kernel

theorem with_five : ∀ a b c d e : Bool, ∀ z ∈ [1, 2, 3, 4, 5], Ids.inSet (bits BinOp.or IntKind.u64 (Ids.bs (Ids.five a b c d e)) (2 ^ z)) = Ids.withId (Ids.five a b c d e) (z : Nat) := by decide +kernel

theorem without_five : ∀ a b c d e : Bool, ∀ z ∈ [1, 2, 3, 4, 5], Ids.inSet (bits BinOp.andNot IntKind.u64 (Ids.bs (Ids.five a b c d e)) (2 ^ z)) = Ids.withoutId (Ids.five a b c d e) (z : Nat) := by decide +kernel

end Go.Proofs.YtlalldlbgnlbjaaDoor
