/- what the laws of words say of the plain functions -/
import Derived.Test.YtbinjcmfbkhbjabEcM
namespace Go.Proofs.Ytbinjcmfbkhbjab
open Go.RowKit
namespace Ecc

theorem bt_test (w k : Nat) : bt w k = (w.testBit k).toNat := by
  rw [bt_eq, Nat.testBit_eq_decide_div_mod_eq]
  rcases Nat.mod_two_eq_zero_or_one (w / 2 ^ k) with h | h <;> rw [h] <;> rfl
theorem flp_test (w k j : Nat) : (flp w k).testBit j = Bool.xor (w.testBit j) (decide (k = j)) := by
  show (w ^^^ 2 ^ k).testBit j = _
  rw [Nat.testBit_xor, Nat.testBit_two_pow]
theorem bt_flp_same (w k : Nat) : bt (flp w k) k = 1 - bt w k := by
  rw [bt_test, bt_test, flp_test]
  cases w.testBit k <;> simp
theorem bt_flp_other (w k j : Nat) (h : k ≠ j) : bt (flp w k) j = bt w j := by
  rw [bt_test, bt_test, flp_test]
  simp [h]
theorem flp_flp (w k : Nat) : flp (flp w k) k = w := by
  show (w ^^^ 2 ^ k) ^^^ 2 ^ k = w
  rw [Nat.xor_assoc, Nat.xor_self, Nat.xor_zero]
theorem flp_ne (w k : Nat) : flp w k ≠ w := by
  intro h
  have h1 := bt_flp_same w k
  rw [h] at h1
  have := bt_lt w k
  omega
theorem syn_flp (w k : Nat) : ∀ m, syn (flp w k) m = if k < m then syn w m ^^^ k else syn w m
  | 0 => by simp; rfl
  | m + 1 => by
    rw [syn_succ, syn_flp w k m, syn_succ]
    by_cases h : k < m
    · rw [if_pos h, if_pos (by omega), bt_flp_other w k m (by omega), Nat.xor_assoc, Nat.xor_assoc, Nat.xor_comm k]
    · rw [if_neg h]
      by_cases h2 : k = m
      · subst h2
        rw [if_pos (by omega), bt_flp_same]
        rcases bt_cases w k with e | e
        · rw [e]; simp
        · rw [e]; simp [Nat.xor_assoc]
      · rw [if_neg (by omega), bt_flp_other w k m h2]
theorem odd_flp (w k : Nat) : ∀ m, odd (flp w k) m = if k < m then !(odd w m) else odd w m
  | 0 => by simp; rfl
  | m + 1 => by
    show Bool.xor (odd (flp w k) m) (Nat.beq (bt (flp w k) m) 1) = if k < m + 1 then !(Bool.xor (odd w m) (Nat.beq (bt w m) 1)) else Bool.xor (odd w m) (Nat.beq (bt w m) 1)
    rw [odd_flp w k m]
    by_cases h : k < m
    · rw [if_pos h, if_pos (by omega), bt_flp_other w k m (by omega)]
      cases odd w m <;> simp
    · rw [if_neg h]
      by_cases h2 : k = m
      · subst h2
        rw [if_pos (by omega), bt_flp_same]
        rcases bt_cases w k with e | e
        · rw [e]; cases odd w k <;> rfl
        · rw [e]; cases odd w k <;> rfl
      · rw [if_neg (by omega), bt_flp_other w k m h2]
theorem syn13 (w k : Nat) (h : k < 13) : syn (flp w k) 13 = syn w 13 ^^^ k := by rw [syn_flp, if_pos h]
theorem odd13 (w k : Nat) (h : k < 13) : odd (flp w k) 13 = !(odd w 13) := by rw [odd_flp, if_pos h]

set_option maxRecDepth 20000
theorem back_chk : allD (fun b => Nat.beq (syn (enc b) 13) 0 && (!(odd (enc b) 13) && Nat.beq (dat (enc b) 13) b)) 8 0 = true := by decide +kernel
theorem back (b : Nat) (h : b < 256) : syn (enc b) 13 = 0 ∧ odd (enc b) 13 = false ∧ dat (enc b) 13 = b := by
  have := all8 _ back_chk b h
  simp only [Bool.and_eq_true] at this
  refine ⟨Nat.eq_of_beq_eq_true this.1, by simpa using this.2.1, Nat.eq_of_beq_eq_true this.2.2⟩
theorem fine_chk : allD (fun w => odd w 13 || (!(Nat.beq (syn w 13) 0) || Nat.beq (enc (dat w 13)) w)) 13 0 = true := by decide +kernel
theorem rd_of (w : Nat) (ho : odd w 13 = false) (hs : syn w 13 = 0) : rdV w = dat w 13 ∧ rdC w = 0 := by
  unfold rdV rdC; rw [ho, hs]; exact ⟨rfl, rfl⟩
theorem rd_back (b : Nat) (h : b < 256) : rdV (enc b) = b ∧ rdC (enc b) = 0 := by
  obtain ⟨h1, h2, h3⟩ := back b h
  have := rd_of _ h2 h1
  exact ⟨this.1.trans h3, this.2⟩
theorem rd_fine (w : Nat) (hw : w < 8192) (h : rdC w = 0) : enc (rdV w) = w ∧ rdV w < 256 := by
  have hc := all13 _ fine_chk w hw
  unfold rdC at h
  cases ho : odd w 13
  · rw [ho] at h hc
    cases hs : Nat.beq (syn w 13) 0
    · rw [hs] at h; simp at h
    · rw [hs] at hc
      have hs0 := Nat.eq_of_beq_eq_true hs
      have hv := (rd_of w ho hs0).1
      rw [hv]
      simp only [Bool.false_or, Bool.not_true] at hc
      exact ⟨Nat.eq_of_beq_eq_true hc, dat_small w 13 (by omega)⟩
  · rw [ho] at h
    cases hb : Nat.ble 13 (syn w 13) <;> rw [hb] at h <;> simp at h
theorem rd_one (b k : Nat) (h : b < 256) (hk : k < 13) : rdV (flp (enc b) k) = b ∧ rdC (flp (enc b) k) = 1 := by
  obtain ⟨h1, h2, h3⟩ := back b h
  have hs : syn (flp (enc b) k) 13 = k := by rw [syn13 _ _ hk, h1, Nat.zero_xor]
  have ho : odd (flp (enc b) k) 13 = true := by rw [odd13 _ _ hk, h2]; rfl
  have hb : Nat.ble 13 k = false := by
    cases hc : Nat.ble 13 k
    · rfl
    · have := Nat.ble_eq.mp hc; omega
  unfold rdV rdC
  rw [ho, hs, hb, flp_flp]
  exact ⟨h3, rfl⟩
theorem rd_two (b i k : Nat) (h : b < 256) (hi : i < 13) (hk : k < i) : rdV (flp (flp (enc b) i) k) = 0 ∧ rdC (flp (flp (enc b) i) k) = 2 := by
  obtain ⟨h1, h2, _⟩ := back b h
  have hs : syn (flp (flp (enc b) i) k) 13 = i ^^^ k := by rw [syn13 _ _ (by omega), syn13 _ _ hi, h1, Nat.zero_xor]
  have ho : odd (flp (flp (enc b) i) k) 13 = false := by rw [odd13 _ _ (by omega), odd13 _ _ hi, h2]; rfl
  have hn : Nat.beq (i ^^^ k) 0 = false := by
    cases hc : Nat.beq (i ^^^ k) 0
    · rfl
    · have h0 := Nat.eq_of_beq_eq_true hc
      have : i = k := by
        have e : (i ^^^ k) ^^^ k = k := by rw [h0, Nat.zero_xor]
        rw [Nat.xor_assoc, Nat.xor_self, Nat.xor_zero] at e
        exact e
      omega
  unfold rdV rdC
  rw [ho, hs, hn]
  exact ⟨rfl, rfl⟩
end Ecc
end Go.Proofs.Ytbinjcmfbkhbjab
