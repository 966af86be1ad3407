/- what the laws of codes say of lists -/
import Derived.Test.YtbinjcmfbkhbjabEcD
namespace Go.Proofs.Ytbinjcmfbkhbjab
open Go.RowKit

theorem Ow.empty_made (w : World) : Ow (w.alloc (.cells #[] 2)) w.heap.size (.slice (some ⟨w.heap.size, 0, none⟩) 0 0) [] :=
  World.ownsRow_made w #[] 0 (Nat.le_refl _) (by unfold maxLen; omega) rfl

namespace Ecc
def dig (v : Nat) : Nat → Nat
  | 0 => v % 256
  | 1 => v / 256 % 256
  | _ => v / 65536
theorem dig_lt (v k : Nat) (hv : v ≤ 1000000) : dig v k < 256 := by
  match k with
  | 0 => show v % 256 < 256; omega
  | 1 => show v / 256 % 256 < 256; omega
  | k + 2 => show v / 65536 < 256; omega
theorem dig_sum (v : Nat) : dig v 0 + dig v 1 * 2 ^ 8 + dig v 2 * 2 ^ 16 = v := by
  show v % 256 + v / 256 % 256 * 256 + v / 65536 * 65536 = v
  omega
theorem cod_get (v k : Nat) (hk : k < 3) : (cod v).getD k 0 = (enc (dig v k) : Int) := by
  have : k = 0 ∨ k = 1 ∨ k = 2 := by omega
  rcases this with rfl | rfl | rfl <;> rfl
theorem cod_len (v : Nat) : (cod v).length = 3 := rfl
theorem rV_nat (n : Nat) (h : n < 8192) : rV (n : Int) = rdV n ∧ rC (n : Int) = rdC n := by
  unfold rV rC
  rw [if_pos (by omega), if_pos (by omega)]
  exact ⟨rfl, rfl⟩
theorem tk3 (zs : List Int) : tk zs 3 = rV (zs.getD 0 0) + rV (zs.getD 1 0) * 2 ^ 8 + rV (zs.getD 2 0) * 2 ^ 16 := by
  show ((0 + rV (zs.getD 0 0) * 2 ^ 0) + rV (zs.getD 1 0) * 2 ^ 8) + rV (zs.getD 2 0) * 2 ^ 16 = _
  omega
theorem mk3 (zs : List Int) : mk zs 3 = max (max (max 0 (rC (zs.getD 0 0))) (rC (zs.getD 1 0))) (rC (zs.getD 2 0)) := rfl
theorem rc_of (zs : List Int) (v c : Nat) (hv : v ≤ 1000000) (hc : c ≤ 1) (hl : zs.length = 3) (h : ∀ k, k < 3 → rV (zs.getD k 0) = dig v k ∧ rC (zs.getD k 0) = c) : rcV zs = v ∧ rcC zs = c := by
  have h0 := h 0 (by omega)
  have h1 := h 1 (by omega)
  have h2 := h 2 (by omega)
  have ht : tk zs 3 = v := by rw [tk3, h0.1, h1.1, h2.1]; exact dig_sum v
  have hm : mk zs 3 = c := by rw [mk3, h0.2, h1.2, h2.2]; omega
  unfold rcV rcC
  rw [if_pos hl, if_pos hl, ht, hm, if_pos hc, if_pos hc, if_pos hv, if_pos hv]
  exact ⟨rfl, rfl⟩
theorem rc_cod (v : Nat) (hv : v ≤ 1000000) : rcV (cod v) = v ∧ rcC (cod v) = 0 := by
  refine rc_of (cod v) v 0 hv (by omega) rfl fun k hk => ?_
  rw [cod_get v k hk]
  have hd := dig_lt v k hv
  obtain ⟨e1, e2⟩ := rV_nat _ (enc_eq _ hd).2
  obtain ⟨e3, e4⟩ := rd_back _ hd
  exact ⟨e1.trans e3, e2.trans e4⟩
def HL (v k : Nat) (l : List Int) : Prop := l.length = k ∧ ∀ j, j < k → ∃ y, y < 13 ∧ l.getD j 0 = (flp (enc (dig v j)) y : Int)
theorem HL.nil (v : Nat) : HL v 0 [] := ⟨rfl, fun j hj => by omega⟩
theorem HL.snoc {v k : Nat} {l : List Int} (h : HL v k l) (y : Nat) (hy : y < 13) : HL v (k + 1) (l ++ [(flp (enc (dig v k)) y : Int)]) := by
  refine ⟨by rw [List.length_append, h.1]; rfl, fun j hj => ?_⟩
  by_cases hj' : j < k
  · obtain ⟨z, hz, e⟩ := h.2 j hj'
    refine ⟨z, hz, ?_⟩
    rw [← e]
    have hl : j < l.length := by rw [h.1]; exact hj'
    rw [List.getD_eq_getElem?_getD, List.getD_eq_getElem?_getD, List.getElem?_append_left hl]
  · have e : j = k := by omega
    subst e
    refine ⟨y, hy, ?_⟩
    have hl := h.1
    rw [List.getD_eq_getElem?_getD, List.getElem?_append_right (by omega), hl]
    simp
theorem HL.read {v : Nat} {l : List Int} (h : HL v 3 l) (hv : v ≤ 1000000) : rcV l = v ∧ rcC l = 1 := by
  refine rc_of l v 1 hv (by omega) h.1 fun k hk => ?_
  obtain ⟨y, hy, e⟩ := h.2 k hk
  rw [e]
  have hd := dig_lt v k hv
  obtain ⟨e1, e2⟩ := rV_nat _ (flp_lt _ y (enc_eq _ hd).2 hy)
  obtain ⟨e3, e4⟩ := rd_one _ y hd hy
  exact ⟨e1.trans e3, e2.trans e4⟩
theorem rc_len (zs : List Int) (h : rcC zs = 0) : zs.length = 3 := by
  unfold rcC at h
  by_cases hl : zs.length = 3
  · exact hl
  · rw [if_neg hl] at h; omega
theorem rC_fine (z : Int) (h : rC z = 0) : (enc (rV z) : Int) = z := by
  unfold rC at h
  unfold rV
  by_cases hz : 0 ≤ z ∧ z ≤ 8191
  · rw [if_pos hz] at h ⊢
    have := rd_fine z.toNat (by omega) h
    rw [this.1]; omega
  · rw [if_neg hz] at h; omega
theorem rc_fine (zs : List Int) (h : rcC zs = 0) : rcV zs ≤ 1000000 ∧ cod (rcV zs) = zs := by
  have hl := rc_len zs h
  unfold rcC at h
  unfold rcV
  rw [if_pos hl] at h ⊢
  by_cases h1 : mk zs 3 ≤ 1
  · rw [if_pos h1] at h ⊢
    by_cases h2 : tk zs 3 ≤ 1000000
    · rw [if_pos h2] at h ⊢
      rw [mk3] at h
      have c0 : rC (zs.getD 0 0) = 0 := by omega
      have c1 : rC (zs.getD 1 0) = 0 := by omega
      have c2 : rC (zs.getD 2 0) = 0 := by omega
      have l0 := rV_lt (zs.getD 0 0)
      have l1 := rV_lt (zs.getD 1 0)
      refine ⟨h2, ?_⟩
      have ht := tk3 zs
      have e0 : tk zs 3 % 256 = rV (zs.getD 0 0) := by rw [ht]; omega
      have e1 : tk zs 3 / 256 % 256 = rV (zs.getD 1 0) := by rw [ht]; omega
      have e2 : tk zs 3 / 65536 = rV (zs.getD 2 0) := by rw [ht]; omega
      unfold cod
      rw [e0, e1, e2, rC_fine _ c0, rC_fine _ c1, rC_fine _ c2]
      match zs, hl with
      | [a, b, c], _ => rfl
    · rw [if_neg h2] at h; omega
  · rw [if_neg h1] at h; omega
theorem rc_broken (zs : List Int) (k : Nat) (hk : k < 3) (hl : zs.length = 3) (h : rC (zs.getD k 0) = 2) : 2 ≤ rcC zs := by
  have hm : 2 ≤ mk zs 3 := by
    rw [mk3]
    have : k = 0 ∨ k = 1 ∨ k = 2 := by omega
    rcases this with rfl | rfl | rfl <;> omega
  unfold rcC
  rw [if_pos hl, if_neg (by omega)]
  exact hm
end Ecc
end Go.Proofs.Ytbinjcmfbkhbjab
