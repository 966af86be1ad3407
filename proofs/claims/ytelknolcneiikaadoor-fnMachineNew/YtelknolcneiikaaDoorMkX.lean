/- the marks of a machine with no lists at its lines and no mail, read again -/
import Derived.Test.YtelknolcneiikaaDoorMkV
namespace Go.Proofs.YtelknolcneiikaaDoor
open Go.RowKit
set_option linter.unusedVariables false
set_option linter.unusedSimpArgs false

def ks (k0 : Int) (N : Nat) : Nat → Int
  | 0 => k0
  | c + 1 => ks k0 N c + 4 * N
theorem ks_bound (k0 : Int) (N : Nat) (hN : N ≤ 4) : ∀ c, k0 ≤ ks k0 N c ∧ ks k0 N c ≤ k0 + 16 * c
  | 0 => ⟨Int.le_refl _, by simp [ks]⟩
  | c + 1 => by
    have h := ks_bound k0 N hN c
    have e : ks k0 N (c + 1) = ks k0 N c + 4 * N := rfl
    rw [e]
    omega
/-- rows of N slots each, in blocks of their own -/
structure RV (w : World) (g C N : Nat) (ib : Nat → Nat) : Prop where
  at_ : ∀ c, c < C → w.cell? ⟨g, c, none⟩ = some (.slice (some ⟨ib c, 0, none⟩) N N)
  wc : ∀ c, c < C → Wc w (ib c) (N * 4)
  ne : ∀ c, c < C → ib c ≠ g
  inj : ∀ c c', c < C → c' < C → ib c = ib c' → c = c'

end Go.Proofs.YtelknolcneiikaaDoor
