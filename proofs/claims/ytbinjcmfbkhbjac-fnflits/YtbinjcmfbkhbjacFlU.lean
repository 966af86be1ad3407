/- a flit comes back from its text -/
import Derived.Test.YtbinjcmfbkhbjacFlR
namespace Go.Proofs.Ytbinjcmfbkhbjac
open Go.RowKit
set_option linter.unusedVariables false
set_option linter.unusedSimpArgs false

namespace Crc
theorem ba_ext (a b : ByteArray) (hs : a.size = b.size) (h : ∀ j, j < a.size → at' a j = at' b j) : a = b := by
  obtain ⟨x⟩ := a
  obtain ⟨y⟩ := b
  have hs' : x.size = y.size := hs
  have e : x = y := by
    refine Array.ext hs' fun j h1 h2 => ?_
    have := h j h1
    unfold at' at this
    simp only [Array.getElem?_eq_getElem h1, Array.getElem?_eq_getElem h2, Option.getD_some] at this
    exact UInt8.toNat_inj.mp this
  rw [e]
theorem at_extract (s : ByteArray) (i n j : Nat) (h : i + j < n) (hn : n ≤ s.size) : at' (s.extract i n) j = at' s (i + j) := by
  have h1 : j < (s.extract i n).size := by rw [ByteArray.size_extract]; omega
  have h2 : i + j < s.size := by omega
  rw [at_eq _ _ h1, at_eq _ _ h2, ByteArray.getElem_extract]
end Crc

namespace Flit
theorem at_head (k s : Nat) (b : ByteArray) (hk : k < 256) : Crc.at' (text k s b) 0 = k ∧ Crc.at' (text k s b) 1 = s / 65536 % 256 ∧ Crc.at' (text k s b) 2 = s / 256 % 256 ∧ Crc.at' (text k s b) 3 = s % 256 := by
  have hb : (head k s b).size = 5 := rfl
  have e : ∀ j, j < 5 → Crc.at' (text k s b) j = Crc.at' (head k s b) j := by
    intro j hj
    unfold text
    rw [Crc.at_left _ _ _ (by rw [body_size]; omega)]
    unfold body
    rw [Crc.at_left _ _ _ (by rw [hb]; exact hj)]
  rw [e 0 (by omega), e 1 (by omega), e 2 (by omega), e 3 (by omega)]
  refine ⟨?_, ?_, ?_, ?_⟩
  · show (u8 k).toNat = k
    have := u8_nat k; omega
  · show (u8 (s / 65536)).toNat = _
    have := u8_nat (s / 65536); omega
  · show (u8 (s / 256)).toNat = _
    have := u8_nat (s / 256); omega
  · show (u8 s).toNat = _
    have := u8_nat s; omega
theorem bd_text (k s : Nat) (b : ByteArray) : bd (text k s b) = b := by
  have hts := text_size k s b
  unfold bd
  have hsz : ((text k s b).extract 5 ((text k s b).size - 2)).size = b.size := by rw [ByteArray.size_extract]; omega
  refine Crc.ba_ext _ _ hsz fun j hj => ?_
  rw [hsz] at hj
  rw [Crc.at_extract _ _ _ _ (by omega) (by omega)]
  unfold text
  rw [Crc.at_left _ _ _ (by rw [body_size]; omega)]
  unfold body
  have := Crc.at_right (head k s b) b j
  exact this
theorem back (k s : Int) (b : ByteArray) (h : ok k s b = true) : rd (txt k s b) = true ∧ rK (txt k s b) = k ∧ rS (txt k s b) = s ∧ rB (txt k s b) = b := by
  obtain ⟨k', s', rfl, rfl, hs, hk, h8⟩ := ok_facts h
  have e : txt k' s' b = text k' s' b := by unfold txt; rw [if_pos h]; rfl
  rw [e]
  obtain ⟨a0, a1, a2, a3⟩ := at_head k' s' b (by omega)
  have hkd : kd (text k' s' b) = k' := a0
  have hsq : sq (text k' s' b) = s' := by
    unfold sq
    rw [a1, a2, a3]; omega
  have hr : rd (text k' s' b) = true := by
    refine decide_eq_true ⟨by rw [text_size]; omega, ?_⟩
    unfold tx
    rw [hkd, hsq, bd_text]
    exact e
  obtain ⟨r1, r2, r3⟩ := rd_yes hr
  rw [r1, r2, r3, hkd, hsq, bd_text]
  exact ⟨hr, rfl, rfl, rfl⟩
theorem none_back (k s : Int) (b : ByteArray) (h : ok k s b = false) : rd (txt k s b) = false := by
  have e : txt k s b = ⟨#[]⟩ := by unfold txt; rw [if_neg (by rw [h]; simp)]
  rw [e]
  exact decide_eq_false (fun h2 => absurd h2.1 (by show ¬ 7 ≤ 0; omega))
/-- what is read, written again, has just its bytes -/
theorem again (s : ByteArray) (h : rd s = true) : txt (rK s) (rS s) (rB s) = s := by
  obtain ⟨r1, r2, r3⟩ := rd_yes h
  rw [r1, r2, r3]
  exact (of_decide_eq_true h).2
end Flit
end Go.Proofs.Ytbinjcmfbkhbjac
