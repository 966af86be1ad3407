/- SeenBy: impl, spec -/
import Derived.Test.YtcocobmanlmjdaaTsH
namespace Go.Proofs.Ytcocobmanlmjdaa
open Go.RowKit
set_option linter.unusedVariables false
set_option linter.unusedSimpArgs false

theorem ret_ib {a b : Int} {c d : Bool} (h : a = b) (h' : c = d) : Ending.returned (.tuple #[.int .i64 a, .bool c]) = .returned (.tuple #[.int .i64 b, .bool d]) := by rw [h, h']
/-- may it be seen? -/
def seB (zs : List Int) (C : Nat) (L : Nat → Nat) (F : Nat → Nat → Nat → Int) (R : Nat) (Z : Nat → List Int) (c v : Int) : Bool := tokB zs C L F R Z && inB c 0 C && inB v 0 3
def seV (zs : List Int) (C : Nat) (L : Nat → Nat) (F : Nat → Nat → Nat → Int) (R : Nat) (Z : Nat → List Int) (c v : Int) : Int := if seB zs C L F R Z c v = true then sn zs (F c.toNat) v.toNat (L c.toNat) else 0
theorem tok_parts {zs : List Int} {C : Nat} {L : Nat → Nat} {F : Nat → Nat → Nat → Int} {R : Nat} {Z : Nat → List Int} (h : tokB zs C L F R Z = true) : (1 ≤ C ∧ C ≤ 3) ∧ R = C ∧ zs.length = 3 ∧ (∀ j, j < 3 → 0 ≤ zs.getD j 0 ∧ zs.getD j 0 < 10) ∧ (∀ c, c < C → L c ≤ 4 ∧ (∀ j, j < L c → (0 ≤ F c j 0 ∧ F c j 0 < 3) ∧ 0 ≤ F c j 1 ∧ F c j 1 < 10) ∧ (Z c).length = 2 ∧ ∀ j, j < 2 → 0 ≤ (Z c).getD j 0 ∧ (Z c).getD j 0 < 10) := by
  simp only [tokB, inB, digB, stB, Bool.and_eq_true, decide_eq_true_eq] at h
  obtain ⟨⟨⟨⟨a, b⟩, c⟩, d, e⟩, g⟩ := h
  refine ⟨by omega, c, d, fun j hj => e j (by omega), fun k hk => ?_⟩
  obtain ⟨⟨p, q⟩, r, s⟩ := g k hk
  exact ⟨p, fun j hj => q j hj, r, fun j hj => s j (by omega)⟩

end Go.Proofs.Ytcocobmanlmjdaa
