/- impl.bitsOf, impl.IdsOk -/
import Derived.Test.YtacgfeddbcoigaaD
import Derived.Test.YtacgfeddbcoigaaBits
namespace Go.Proofs.Ytacgfeddbcoigaa
open Go.RowKit

def Inv (zs : List Int) (k : Nat) (s : Int) : Prop :=
  Ids.rest zs k = Ids.ok zs ∧ s = Ids.bs (zs.take k) ∧ 1 ≤ Ids.lo zs k ∧ Ids.lo zs k ≤ 6 ∧ s < 2 ^ (Ids.lo zs k).toNat ∧ (0 < k → 2 ^ (Ids.lo zs k - 1).toNat ≤ s)

theorem Inv.start (zs : List Int) : Inv zs 0 0 := ⟨Ids.rest_zero zs, rfl, Int.le_refl _, by show (1 : Int) ≤ 6; decide, by show (0 : Int) < 2 ^ (1 : Int).toNat; decide, fun h => by omega⟩

theorem Inv.step {zs : List Int} {k : Nat} {s z : Int} (h : Inv zs k s) (hk : k < zs.length) (hz : zs.getD k 0 = z) (hs0 : 0 ≤ s) (hlo : Ids.lo zs k ≤ z) (h5 : z ≤ 5) : Inv zs (k + 1) (s + 2 ^ z.toNat) := by
  obtain ⟨h1, h2, h3, h4, h6, _⟩ := h
  have hb := Ids.bits_bound _ s z h3 h4 hs0 h6 hlo h5
  have hl : Ids.lo zs (k + 1) = z + 1 := by show zs.getD k 0 + 1 = z + 1; rw [hz]
  refine ⟨?_, ?_, ?_, ?_, ?_, ?_⟩
  · rw [← h1]; exact (Ids.rest_step zs k hk (by rw [hz]; exact hlo) (by rw [hz]; exact h5)).symm
  · rw [Ids.bs_take zs k hk, hz, h2]
  · rw [hl]; omega
  · rw [hl]; omega
  · rw [hl]; exact hb.2.2
  · intro _
    rw [hl]
    have e : z + 1 - 1 = z := by omega
    rw [e]; exact hb.2.1

theorem Inv.small {zs : List Int} {k : Nat} {s z : Int} (h : Inv zs k s) (hs0 : 0 ≤ s) (hlo : Ids.lo zs k ≤ z) (h5 : z ≤ 5) : s < 2 ^ z.toNat :=
  (Ids.bits_bound _ s z h.2.2.1 h.2.2.2.1 hs0 h.2.2.2.2.1 hlo h5).1

theorem Inv.great {zs : List Int} {k : Nat} {s z : Int} (h : Inv zs k s) (hlo : ¬ Ids.lo zs k ≤ z) (h1 : 1 ≤ z) : 2 ^ z.toNat ≤ s := by
  have hk : 0 < k := by
    rcases Nat.eq_zero_or_pos k with rfl | h0
    · exact absurd (show Ids.lo zs 0 ≤ z from h1) hlo
    · exact h0
  exact Ids.bits_high _ s z h.2.2.2.1 (h.2.2.2.2.2 hk) (by omega) h1

theorem or_of (s : Int) (h0 : 0 ≤ s) (h : s < 64) (z : Nat) (hz : z ∈ [1, 2, 3, 4, 5]) (hlt : s < 2 ^ z) : bits BinOp.or IntKind.u64 s (2 ^ z) = s + 2 ^ z := by
  obtain ⟨m, rfl⟩ := fin_of s h0 h
  exact or_fin m z hz hlt

def bsOk (zs : List Int) : Int := if Ids.ok zs then Ids.bs zs else 0
theorem bsOk_no {zs : List Int} (h : Ids.ok zs = false) : 0 = bsOk zs := by simp [bsOk, h]
theorem bsOk_yes {zs : List Int} (h : Ids.ok zs = true) : Ids.bs zs = bsOk zs := by simp [bsOk, h]

theorem ret_pair {a b : Int} {c d : Bool} (h : a = b) (k : c = d) : Ending.returned (.tuple #[.int .u64 a, .bool c]) = .returned (.tuple #[.int .u64 b, .bool d]) := by rw [h, k]

end Go.Proofs.Ytacgfeddbcoigaa
