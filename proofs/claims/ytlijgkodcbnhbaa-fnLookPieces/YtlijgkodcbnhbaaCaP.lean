/- spec.Holds -/
import Derived.Test.YtlijgkodcbnhbaaCaO
import Derived.Test.YtlijgkodcbnhbaaCaM
namespace Go.Proofs.Ytlijgkodcbnhbaa
open Go.RowKit
set_option linter.unusedVariables false
set_option linter.unusedSimpArgs false

theorem cok_two {n : Nat} {L : Nat → Nat} {D : Nat → Sm} (h : Ca.cokB n L D = true) : n = 2 ∧ L 0 = 4 ∧ L 1 = 4 ∧ Ca.rightB (D 0) 0 = true ∧ Ca.rightB (D 1) 1 = true := by
  simp [Ca.cokB, Ca.okB] at h
  exact ⟨h.1, h.2.1.1.1, h.2.1.2, h.2.1.1.2, h.2.2⟩

end Go.Proofs.Ytlijgkodcbnhbaa
