/- spec.Looked -/
import Derived.Test.YtlijgkodcbnhbaaCaL3
import Derived.Test.YtlijgkodcbnhbaaCaL1
import Derived.Test.YtlijgkodcbnhbaaCaP
namespace Go.Proofs.Ytlijgkodcbnhbaa
open Go.RowKit
set_option linter.unusedVariables false
set_option linter.unusedSimpArgs false

theorem Cv.congr {w : World} {v : Value} {n : Nat} {L L' : Nat → Nat} {D D' : Nat → Sm} (h : Cv w v n L D) (hL : ∀ c, c < n → L c = L' c) (hD : ∀ c, c < n → D c = D' c) : Cv w v n L' D' := by
  obtain ⟨ad, cap, rfl, hv⟩ := h
  refine ⟨ad, cap, rfl, fun hn => ?_⟩
  obtain ⟨b, off, rfl, h2⟩ := hv hn
  refine ⟨b, off, rfl, fun c hc => ?_⟩
  have h3 := h2 c hc
  rw [hL c hc, hD c hc] at h3
  exact h3

end Go.Proofs.Ytlijgkodcbnhbaa
