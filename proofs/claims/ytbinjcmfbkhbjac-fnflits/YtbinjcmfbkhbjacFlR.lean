/- body, DrawCrc16; what Crc16 does at its own sum -/
import Derived.Test.YtbinjcmfbkhbjacFlD
import Derived.Test.YtbinjcmfbkhbjacRdE
namespace Go.Proofs.Ytbinjcmfbkhbjac
open Go.RowKit
set_option linter.unusedVariables false
set_option linter.unusedSimpArgs false

theorem Bt.below {w w' : World} {ad : Option Addr} {n : Nat} (h : Bt w ad n) (hb : Below w.heap.size w w') : Bt w' ad n := by
  intro h0
  obtain ⟨b, off, rfl, hc⟩ := h h0
  refine ⟨b, off, rfl, fun j hj => ?_⟩
  obtain ⟨c, h1, h2, h3⟩ := hc j hj
  exact ⟨c, h1, h2, Below.keep hb _ _ h3⟩
theorem open_base {w w1 w2 : World} {g : Nat} (hg : w.heap.size ≤ g) (hb : Below w.heap.size w w1) (h2 : w1.grownBy w2 (some g)) : Below w.heap.size w w2 := below_read hb h2 hg hb.size

theorem strs_there {w1 w2 : World} {g : Nat} {cs : Array Value} {t : TypeId} (hlt : g < w1.heap.size) (hg : (w1.alloc (.cells cs t)).grownBy w2 (some g)) (hcs : ∀ j, j < cs.size → ∃ b : ByteArray, cs[j]? = some (.string b) ∧ b.size ≤ 9) (j : Nat) (hj : j < cs.size) :
    ∃ b : ByteArray, w2.cell? ⟨w1.heap.size, j, none⟩ = some (.string b) ∧ b.size ≤ 9 := by
  have h1 := hg.block w1.heap.size (by simp) (by simp; omega)
  rw [heap_alloc_new] at h1
  have h2 := cell_of_row w2 w1.heap.size j _ _ _ h1
  obtain ⟨b, e, hb⟩ := hcs j hj
  exact ⟨b, by rw [h2]; exact e, hb⟩

set_option maxHeartbeats 2000000 in
theorem body_any (g : Nat) (w : World) (h : Rdr w g) :
    Calls Try.prog 29 #[.pointer (some ⟨g, 0, none⟩)] w fun e w' => ∃ b : ByteArray, e = .returned (.string b) ∧ b.size ≤ 9 ∧ Rdr w' g ∧ w.grownBy w' (some g) := by
  go_enter Try.func29, Try.ntmps29
  go_wp2_with fail
  refine (below_any g 6 _ (h.grown (grown_alloc _ _ none) (fun k hk => by cases hk)) (by decide) (by decide)).mono ?_
  rintro e w2 ⟨c, rfl, hc0, hc4, hr2, hg2⟩
  obtain ⟨j, rfl⟩ := Int.eq_ofNat_of_zero_le hc0
  obtain ⟨z, hz, hz9⟩ := strs_there h.lt hg2 (by
    intro j hj
    have hj6 : j < 6 := hj
    match j, hj6 with
    | 0, _ => exact ⟨_, rfl, by decide⟩
    | 1, _ => exact ⟨_, rfl, by decide⟩
    | 2, _ => exact ⟨_, rfl, by decide⟩
    | 3, _ => exact ⟨_, rfl, by decide⟩
    | 4, _ => exact ⟨_, rfl, by decide⟩
    | 5, _ => exact ⟨_, rfl, by decide⟩) j (by show j < 6; omega)
  have HF := hide (And.intro hr2 (grown_trans (grown_alloc _ _ _) hg2))
  clear h hr2 hg2
  go_wp2
  go_ret
  exact ⟨z, rfl, hz9, HF.out.1, HF.out.2⟩

theorem add_free (a b : ByteArray) (h : a.size + b.size ≤ 1000) : ∀ W : World, (Op.stringOp .add a b).run Try.prog W = .ok (.string (a ++ b)) W := add_any a b (a ++ b) rfl h

set_option maxHeartbeats 2000000 in
theorem drawCrc_any (ad : Option Addr) (n cap : Nat) (w : World) (hb : Bt w ad n) (hn : n ≤ 1048576) :
    Calls Try.prog 21 #[.slice ad n cap] w fun e w' => ∃ b : ByteArray, e = .returned (.string b) ∧ b.size ≤ 27 ∧ Below w.heap.size w w' := by
  go_enter Try.func21, Try.ntmps21
  go_wp2_with fail
  refine (open_any ad n cap _ hb hn).mono ?_
  rintro e w1 ⟨g, rfl, hg1, hr1, hb1⟩
  clear hb
  go_wp2_with fail
  refine (body_any g _ hr1).mono ?_
  rintro e w2 ⟨a, rfl, ha, hr2, hg2⟩
  have HB2 := hide (open_base hg1 hb1 hg2)
  have HS := hide hg1
  clear hr1 hb1 hg2 hg1
  go_wp2_with fail
  refine (body_any g _ hr2).mono ?_
  rintro e w3 ⟨b, rfl, hb, hr3, hg3⟩
  have HB3 := hide (below_read HB2.out hg3 HS.out HB2.out.size)
  have hadd := add_free a b (by omega)
  have hsz : (a ++ b).size ≤ 18 := by rw [ByteArray.size_append]; omega
  generalize a ++ b = ab at hadd hsz
  clear hr2 hg3 HB2
  go_wp2_with fail
  refine (below_any g 2 _ (hr3.grown (grown_alloc _ _ none) (fun k hk => by cases hk)) (by decide) (by decide)).mono ?_
  rintro e w4 ⟨c, rfl, hc0, hc4, hr4, hg4⟩
  obtain ⟨j, rfl⟩ := Int.eq_ofNat_of_zero_le hc0
  obtain ⟨z, hz, hz9⟩ := strs_there hr3.lt hg4 (by
    intro j hj
    have hj6 : j < 2 := hj
    match j, hj6 with
    | 0, _ => exact ⟨_, rfl, by decide⟩
    | 1, _ => exact ⟨_, rfl, by decide⟩) j (by show j < 2; omega)
  have hadd2 := add_free ab z (by omega)
  have HF := hide (below_read HB3.out (grown_trans (grown_alloc _ _ _) hg4) HS.out HB3.out.size)
  have HZ : Hid ((ab ++ z).size ≤ 27) := hide (by rw [ByteArray.size_append]; omega)
  generalize ab ++ z = abz at hadd2 HZ
  clear hr3 hr4 hg4 HB3
  go_wp2
  go_ret
  exact ⟨abz, rfl, HZ.out, HF.out⟩

namespace Crc
theorem at_left (a b : ByteArray) (k : Nat) (h : k < a.size) : at' (a ++ b) k = at' a k := by
  unfold at'
  rw [ByteArray.data_append, Array.getElem?_append_left h]
theorem at_right (a b : ByteArray) (k : Nat) : at' (a ++ b) (a.size + k) = at' b k := by
  unfold at'
  rw [ByteArray.data_append, Array.getElem?_append_right (by show a.data.size ≤ _; exact Nat.le_add_right _ _)]
  congr 2
  show b.data[a.size + k - a.size]? = _
  rw [Nat.add_sub_cancel_left]
theorem crc_left (a b : ByteArray) : ∀ k, k ≤ a.size → crc (a ++ b) k = crc a k
  | 0, _ => rfl
  | k + 1, h => by
    show shn (crc (a ++ b) k ^^^ (at' (a ++ b) k * 256)) 8 = shn (crc a k ^^^ (at' a k * 256)) 8
    rw [crc_left a b k (by omega), at_left a b k (by omega)]
theorem shn_zero : ∀ k, shn 0 k = 0
  | 0 => rfl
  | k + 1 => by show sh (shn 0 k) = 0; rw [shn_zero k]; rfl
theorem shn_small (x : Nat) (hx : x < 256) : ∀ k, k ≤ 8 → shn x k = x * 2 ^ k
  | 0, _ => by show x = x * 1; omega
  | k + 1, h => by
    show sh (shn x k) = _
    rw [shn_small x hx k (by omega)]
    have h2 : 2 ^ k ≤ 2 ^ 7 := Nat.pow_le_pow_right (by decide) (by omega)
    have h3 : x * 2 ^ k ≤ 255 * 128 := Nat.mul_le_mul (by omega) h2
    rw [sh_lo _ (by omega), Nat.pow_succ]
    rw [Nat.mul_comm 2, Nat.mul_assoc]
theorem xor_hi (c : Nat) : c ^^^ (c / 256 * 256) = c % 256 := by
  have h1 := Nat.xor_div_two_pow (a := c) (b := c / 256 * 256) (n := 8)
  have h2 := Nat.xor_mod_two_pow (a := c) (b := c / 256 * 256) (n := 8)
  rw [show (2 : Nat) ^ 8 = 256 from rfl] at h1 h2
  rw [Nat.mul_div_cancel _ (by decide), Nat.xor_self] at h1
  rw [Nat.mul_mod_left, Nat.xor_zero] at h2
  generalize c ^^^ (c / 256 * 256) = y at h1 h2
  omega
theorem at_two (c : Nat) (h : c < 65536) : at' (Flit.two c) 0 = c / 256 ∧ at' (Flit.two c) 1 = c % 256 := by
  constructor
  · show (Flit.u8 (c / 256)).toNat = _
    have := Flit.u8_nat (c / 256)
    omega
  · show (Flit.u8 c).toNat = _
    have := Flit.u8_nat c
    omega
theorem self (a : ByteArray) : crc (a ++ Flit.two (crc a a.size)) (a ++ Flit.two (crc a a.size)).size = 0 := by
  have hl := crc_lt a a.size
  have hs : (a ++ Flit.two (crc a a.size)).size = a.size + 1 + 1 := by rw [ByteArray.size_append]; rfl
  rw [hs]
  obtain ⟨t0, t1⟩ := at_two (crc a a.size) hl
  show shn (shn (crc (a ++ Flit.two (crc a a.size)) a.size ^^^ (at' (a ++ Flit.two (crc a a.size)) a.size * 256)) 8 ^^^ (at' (a ++ Flit.two (crc a a.size)) (a.size + 1) * 256)) 8 = 0
  have e0 := at_right a (Flit.two (crc a a.size)) 0
  have e1 := at_right a (Flit.two (crc a a.size)) 1
  rw [Nat.add_zero] at e0
  rw [e0, e1, t0, t1, crc_left a _ a.size (Nat.le_refl _), xor_hi, shn_small _ (Nat.mod_lt _ (by decide)) 8 (Nat.le_refl _)]
  rw [show (2 : Nat) ^ 8 = 256 from rfl, Nat.xor_self]
  exact shn_zero 8
theorem known : crc ⟨#[49, 50, 51, 52, 53, 54, 55, 56, 57]⟩ 9 = 10673 := by decide +kernel
end Crc
end Go.Proofs.Ytbinjcmfbkhbjac
