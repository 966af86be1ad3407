/- links opened -/
import Derived.Test.YtgflipkhhpkidaaLnkF
import Derived.WalkKit
import Derived.ProofKit
import Derived.OpenShut
import Derived.ShutString
import Derived.ChangeOld
import Derived.Below
import Derived.OpenVars
import Derived.Deep.SlicePairs
namespace Go.Proofs.Ytgflipkhhpkidaa
open Go.RowKit
open Go.ChangeShapes Go.WideShapes Go.ChangeAt Go.WideMaps Go.WideElems
set_option linter.unusedVariables false
set_option linter.unusedSimpArgs false

set_option maxRecDepth 100000 in
theorem open_texts {W : World} {H : Type} {enc : TypeId × Value → H} {base : Nat} {spare : Nat → Bool} {held : Bool} {fuel : Nat} {cs : List Value} {x : DataW H × List MemPlace} (h : DataW.trod enc Try.prog W base spare held fuel 24 cs = some x) :
    ∃ (sa : Option Addr) (n sc : Nat) (s : Nat → ByteArray), cs = [.slice sa n sc] ∧ Sg W (.slice sa n sc) 1 n (tF s) ∧ n ≤ maxLen ∧ ∀ c, c < n → (s c).size ≤ maxLen := by
  rcases Go.Deep.open_slice1 Try.underlying24 (by kernel_rfl) h with ⟨rfl, _⟩ | ⟨a, len, cap, m, n, V, D, Pl, rfl, _, hlc, hcm, hmm, _, hx⟩
  · exact ⟨none, 0, 0, fun _ => ⟨#[]⟩, rfl, ⟨none, 0, rfl, fun hp => absurd hp (by simp)⟩, Nat.zero_le _, fun c hc => absurd hc (by simp)⟩
  · have hlm : len ≤ m := by rw [hmm]; split <;> omega
    have each : ∀ c, ∃ q : ByteArray, c < len → q.size ≤ maxLen ∧ W.cell? (a.add c) = some (.string q) := by
      intro c
      by_cases hc : c < len
      · obtain ⟨h1, h2⟩ := hx c (by omega)
        obtain ⟨s, e, _, hs⟩ := DataW.trod_string Try.underlying9 h2
        simp at e
        exact ⟨s, fun _ => ⟨hs, by rw [h1, e]⟩⟩
      · exact ⟨⟨#[]⟩, fun h => absurd h hc⟩
    obtain ⟨q, hq⟩ := Classical.axiomOfChoice each
    obtain ⟨ab, ao, spot⟩ := a
    refine ⟨_, len, cap, q, rfl, ⟨_, cap, rfl, fun hp => ?_⟩, by omega, fun c hc => (hq c hc).1⟩
    have hk0 := (hq 0 hp).2
    have hspot : spot = none := by simpa [Addr.add] using World.cell?_spot hk0
    subst hspot
    refine ⟨ab, ao, rfl, fun j hj i hi => ?_⟩
    obtain rfl : i = 0 := by omega
    rw [Nat.mul_one, Nat.add_zero, ← addrN]
    exact (hq j hj).2

end Go.Proofs.Ytgflipkhhpkidaa
