/- EcM, EcZ, CrA -/
import Derived.WalkKit
import Derived.Test.YtnkocikbapbbmaaYnkPlay0
import Derived.Test.YtnkocikbapbbmaaChecked
/- words of 13 bits: plain facts -/
namespace Go.Proofs.Ytnkocikbapbbmaa
open Go.RowKit
namespace Ecc

def bt (w k : Nat) : Nat := Nat.mod (Nat.div w (Nat.pow 2 k)) 2
def syn (w : Nat) : Nat → Nat
  | 0 => 0
  | k + 1 => Nat.xor (syn w k) (Nat.mul k (bt w k))
def odd (w : Nat) : Nat → Bool
  | 0 => false
  | k + 1 => Bool.xor (odd w k) (Nat.beq (bt w k) 1)
def held (k : Nat) : Bool := !(Nat.beq (Nat.land k (Nat.sub k 1)) 0)
def ac : Nat → Nat
  | 0 => 0
  | k + 1 => cond (held k) (Nat.succ (ac k)) (ac k)
def sw (b : Nat) : Nat → Nat
  | 0 => 0
  | k + 1 => cond (held k) (Nat.add (sw b k) (Nat.mul (bt b (ac k)) (Nat.pow 2 k))) (sw b k)
def isC (k : Nat) : Bool := !(held k) && !(Nat.beq k 0)
def chs (w x : Nat) : Nat → Nat
  | 0 => w
  | k + 1 => cond (isC k && !(Nat.beq (Nat.land x k) 0)) (Nat.add (chs w x k) (Nat.pow 2 k)) (chs w x k)
def enc (b : Nat) : Nat := cond (odd (chs (sw b 13) (syn (sw b 13) 13) 13) 13) (Nat.add (chs (sw b 13) (syn (sw b 13) 13) 13) 1) (chs (sw b 13) (syn (sw b 13) 13) 13)
theorem or_add (a x k : Nat) (h : a < 2 ^ k) : a ||| (x * 2 ^ k) = a + x * 2 ^ k := by
  rw [Nat.or_comm, Nat.add_comm, Nat.mul_comm]
  exact (Nat.two_pow_add_eq_or_of_lt h x).symm
set_option maxRecDepth 20000
theorem i64_wrap (n : Nat) (h : n < 9223372036854775808) : IntKind.i64.wrap (n : Int) = n := by
  simp [IntKind.wrap, IntKind.bits, IntKind.signed]; omega
theorem i64_or (a b : Nat) (ha : a < 9223372036854775808) (hb : b < 9223372036854775808) : bits .or .i64 (a : Int) (b : Int) = ((a ||| b : Nat) : Int) := by
  have hx : a ||| b < 2 ^ 63 := Nat.or_lt_two_pow (by omega) (by omega)
  show IntKind.i64.wrap ((BitVec.ofInt 64 (a : Int) ||| BitVec.ofInt 64 (b : Int)).toNat : Int) = _
  rw [BitVec.toNat_or, ofInt_u64 a (by omega), ofInt_u64 b (by omega), i64_wrap _ (by omega)]
theorem i64_xor (a b : Nat) (ha : a < 9223372036854775808) (hb : b < 9223372036854775808) : bits .xor .i64 (a : Int) (b : Int) = ((a ^^^ b : Nat) : Int) := by
  have hx : a ^^^ b < 2 ^ 63 := Nat.xor_lt_two_pow (by omega) (by omega)
  show IntKind.i64.wrap ((BitVec.ofInt 64 (a : Int) ^^^ BitVec.ofInt 64 (b : Int)).toNat : Int) = _
  rw [BitVec.toNat_xor, ofInt_u64 a (by omega), ofInt_u64 b (by omega), i64_wrap _ (by omega)]
end Ecc
end Go.Proofs.Ytnkocikbapbbmaa

/- what is returned; l1In -/
namespace Go.Proofs.Ytnkocikbapbbmaa
open Go.RowKit

theorem ret_i {a b : Int} (h : a = b) : Ending.returned (.int .i64 a) = .returned (.int .i64 b) := by rw [h]
theorem ret_b {a b : Bool} (h : a = b) : Ending.returned (.bool a) = .returned (.bool b) := by rw [h]
def inR (n hi : Int) : Bool := decide (0 ≤ n ∧ n ≤ hi)
theorem inR_yes {n hi : Int} (h0 : 0 ≤ n) (h : n ≤ hi) : inR n hi = true := by simp [inR, h0, h]
theorem inR_no {n hi : Int} (h : ¬ (0 ≤ n ∧ n ≤ hi)) : inR n hi = false := by simp only [inR]; exact decide_eq_false h

set_option maxHeartbeats 400000 in
theorem l1In_any (n hi : Int) (w : World) : Calls Try.prog 31 #[.int .i64 n, .int .i64 0, .int .i64 hi] w fun e w' => e = .returned (.bool (inR n hi)) ∧ w' = w := by
  by_cases h0 : 0 ≤ n
  · by_cases h1 : n ≤ hi
    · have HH := hide (inR_yes h0 h1)
      go_enter Try.func31, Try.ntmps31
      go_wp2
      go_ret
      exact ⟨ret_b HH.out.symm, rfl⟩
    · have HH := hide (inR_no (n := n) (hi := hi) (by omega))
      go_enter Try.func31, Try.ntmps31
      go_wp2
      go_ret
      exact ⟨ret_b HH.out.symm, rfl⟩
  · have HH := hide (inR_no (n := n) (hi := hi) (by omega))
    go_enter Try.func31, Try.ntmps31
    go_wp2
    go_ret
    exact ⟨ret_b HH.out.symm, rfl⟩

end Go.Proofs.Ytnkocikbapbbmaa

/- sums of texts -/
namespace Go.Proofs.Ytnkocikbapbbmaa
open Go.RowKit
set_option linter.unusedVariables false

namespace Crc
def sh (c : Nat) : Nat := if 32768 ≤ c then (2 * c - 65536) ^^^ 4129 else 2 * c
def shn (c : Nat) : Nat → Nat
  | 0 => c
  | k + 1 => sh (shn c k)
def at' (s : ByteArray) (k : Nat) : Nat := (s.data[k]?.getD 0).toNat
def crc (s : ByteArray) : Nat → Nat
  | 0 => 65535
  | k + 1 => shn (crc s k ^^^ (at' s k * 256)) 8
theorem sh_lt (c : Nat) (h : c < 65536) : sh c < 65536 := by
  unfold sh
  split
  · exact Nat.xor_lt_two_pow (n := 16) (by omega) (by omega)
  · omega
theorem shn_lt (c : Nat) (h : c < 65536) : ∀ k, shn c k < 65536
  | 0 => h
  | k + 1 => sh_lt _ (shn_lt c h k)
theorem at_lt (s : ByteArray) (k : Nat) : at' s k < 256 := (s.data[k]?.getD 0).toNat_lt
theorem xor_lt (c b : Nat) (h : c < 65536) (hb : b < 256) : c ^^^ (b * 256) < 65536 := Nat.xor_lt_two_pow (n := 16) h (by omega)
theorem crc_lt (s : ByteArray) : ∀ k, crc s k < 65536
  | 0 => by show 65535 < 65536; omega
  | k + 1 => shn_lt _ (xor_lt _ _ (crc_lt s k) (at_lt s k)) 8
theorem sh_hi (c : Nat) (h : 32768 ≤ c) : sh c = (2 * c - 65536) ^^^ 4129 := by unfold sh; rw [if_pos h]
theorem sh_lo (c : Nat) (h : ¬ 32768 ≤ c) : sh c = 2 * c := by unfold sh; rw [if_neg h]
theorem top (c : Nat) (h : c < 65536) : c &&& 32768 = if 32768 ≤ c then 32768 else 0 := by
  have h1 := Nat.and_div_two_pow (a := c) (b := 32768) (n := 15)
  have h2 := Nat.and_mod_two_pow (a := c) (b := 32768) (n := 15)
  rw [show 32768 / 2 ^ 15 = 1 from rfl, Nat.and_one_is_mod] at h1
  rw [show 32768 % 2 ^ 15 = 0 from rfl, Nat.and_zero] at h2
  generalize c &&& 32768 = y at h1 h2
  rw [show 2 ^ 15 = 32768 from rfl] at h1 h2
  by_cases h3 : 32768 ≤ c
  · rw [if_pos h3]; omega
  · rw [if_neg h3]; omega
theorem at_eq (s : ByteArray) (k : Nat) (h : k < s.size) : at' s k = s[k].toNat := by
  unfold at'
  have h2 : k < s.data.size := h
  rw [Array.getElem?_eq_getElem h2]
  rfl
end Crc

set_option maxHeartbeats 1000000 in
theorem crcShifted_any (c : Nat) (w : World) (h : c < 65536) : Calls Try.prog 92 #[.int .u16 c] w fun e w' => e = .returned (.int .u16 (Crc.sh c)) ∧ w' = w := by
  have HT := hide (u16_and_nat c 32768 (by omega) (by omega))
  by_cases h2 : 32768 ≤ c
  · have hq : (bits BinOp.and IntKind.u16 (c : Int) 32768 != 0) = true := by
      have := HT.out
      rw [Crc.top c h, if_pos h2] at this
      rw [show (32768 : Int) = ((32768 : Nat) : Int) from rfl, this]; rfl
    go_enter Try.func92, Try.ntmps92
    go_wp2
    go_ret
    refine ⟨?_, rfl⟩
    have e1 : IntKind.u16.wrap ((c : Int) * 2) = ((2 * c - 65536 : Nat) : Int) := by rw [IntKind.wrap_u16]; omega
    have e2 := u16_xor_nat (2 * c - 65536) 4129 (by omega) (by omega)
    rw [Crc.sh_hi c h2, ← e2, ← e1]
    rfl
  · have hq : (bits BinOp.and IntKind.u16 (c : Int) 32768 != 0) = false := by
      have := HT.out
      rw [Crc.top c h, if_neg h2] at this
      rw [show (32768 : Int) = ((32768 : Nat) : Int) from rfl, this]; rfl
    go_enter Try.func92, Try.ntmps92
    go_wp2
    go_ret
    refine ⟨?_, rfl⟩
    have e1 : (c : Int) * 2 = ((2 * c : Nat) : Int) := by omega
    rw [Crc.sh_lo c h2, ← e1]
    rfl

set_option maxHeartbeats 1000000 in
theorem implCrc_any (s : ByteArray) (w : World) (hs : s.size ≤ 2097152) : Calls Try.prog 91 #[.string s] w fun e w' => e = .returned (.int .i64 (Crc.crc s s.size)) ∧ w' = w := by
  go_enter Try.func91, Try.ntmps91
  go_wp2
  go_loop [3, 7] (fun t i => ∃ (k p : Nat), k ≤ s.size ∧ i = .int .i64 k ∧ t = .int .u16 p ∧ p < 65536 ∧ Hid (p = Crc.crc s k)) (fun _ i => s.size - (intOf i).toNat)
  case atStart => exact ⟨0, 65535, by omega, rfl, rfl, by omega, hide rfl⟩
  case round =>
    obtain ⟨k, p, hk, rfl, rfl, hp, HP⟩ := hrel
    by_cases hlt : k < s.size
    · have hat := Crc.at_eq s k hlt
      have hal := Crc.at_lt s k
      have hcl := Crc.xor_lt p (Crc.at' s k) hp hal
      have HX : Hid (bits BinOp.xor IntKind.u16 (p : Int) (IntKind.u16.wrap (IntKind.u16.wrap (s[k].toNat : Int) * 256)) = ((p ^^^ (Crc.at' s k * 256) : Nat) : Int)) := by
        refine hide ?_
        rw [← hat]
        have e1 : IntKind.u16.wrap (IntKind.u16.wrap (Crc.at' s k : Int) * 256) = ((Crc.at' s k * 256 : Nat) : Int) := by rw [IntKind.wrap_u16, IntKind.wrap_u16]; omega
        rw [e1]
        exact u16_xor_nat p (Crc.at' s k * 256) (by omega) (by omega)
      have HC : Hid (Crc.shn (p ^^^ (Crc.at' s k * 256)) 8 = Crc.crc s (k + 1)) := hide (by rw [HP.out]; rfl)
      generalize p ^^^ (Crc.at' s k * 256) = C at HX HC hcl
      clear hat hal
      go_wp2
      go_loop [3, 17] (fun t i => ∃ (j q : Nat), j ≤ 8 ∧ i = .int .i64 j ∧ t = .int .u16 q ∧ q < 65536 ∧ Hid (q = Crc.shn C j)) (fun _ i => 8 - (intOf i).toNat)
      case atStart => exact ⟨0, C, by omega, rfl, congrArg (Value.int .u16) HX.out, hcl, hide rfl⟩
      case round =>
        obtain ⟨j, q, hj, rfl, rfl, hq, HQ⟩ := hrel
        by_cases hlj : j < 8
        · have hc := fun w => crcShifted_any q w hq
          have hsl := Crc.sh_lt q hq
          have HS : Hid (Crc.sh q = Crc.shn C (j + 1)) := hide (by rw [HQ.out]; rfl)
          generalize Crc.sh q = r at hc hsl HS
          go_wp2_with (go_at_call 92; refine (hc _).mono ?_; rintro e w' ⟨rfl, rfl⟩)
          go_round
          case rel => exact ⟨j + 1, r, by omega, by go_num, rfl, hsl, HS⟩
          case measure => simp [intOf]; omega
        · have e : j = 8 := by omega
          subst e
          have HE : Hid (q = Crc.crc s (k + 1)) := hide (HQ.out.trans HC.out)
          go_wp2
          go_round
          case rel => exact ⟨k + 1, q, by omega, by go_num, rfl, hq, HE⟩
          case measure => simp [intOf]; omega
    · have e : k = s.size := by omega
      have HE : Hid (p = Crc.crc s s.size) := hide (by rw [← e]; exact HP.out)
      clear e
      go_wp2
      go_ret
      exact ⟨ret_i (congrArg Nat.cast HE.out), rfl⟩

set_option maxHeartbeats 2000000 in
theorem specCrc_any (s : ByteArray) (w : World) (hs : s.size ≤ 2097152) : Calls Try.prog 74 #[.string s] w fun e w' => e = .returned (.int .i64 (Crc.crc s s.size)) ∧ w' = w := by
  go_enter Try.func74, Try.ntmps74
  go_wp2
  go_loop [3, 4] (fun t i => ∃ (k p : Nat), k ≤ s.size ∧ i = .int .i64 k ∧ t = .int .i64 p ∧ p < 65536 ∧ Hid (p = Crc.crc s k)) (fun _ i => s.size - (intOf i).toNat)
  case atStart => exact ⟨0, 65535, by omega, rfl, rfl, by omega, hide rfl⟩
  case round =>
    obtain ⟨k, p, hk, rfl, rfl, hp, HP⟩ := hrel
    by_cases hlt : k < s.size
    · have hat := Crc.at_eq s k hlt
      have hal := Crc.at_lt s k
      have hcl := Crc.xor_lt p (Crc.at' s k) hp hal
      have HX : Hid (bits BinOp.xor IntKind.i64 (p : Int) ((s[k].toNat : Int) * 256) = ((p ^^^ (Crc.at' s k * 256) : Nat) : Int)) := by
        refine hide ?_
        rw [← hat]
        exact Ecc.i64_xor p (Crc.at' s k * 256) (by omega) (by omega)
      have HC : Hid (Crc.shn (p ^^^ (Crc.at' s k * 256)) 8 = Crc.crc s (k + 1)) := hide (by rw [HP.out]; rfl)
      have hb : s[k].toNat < 256 := by rw [← hat]; exact hal
      generalize p ^^^ (Crc.at' s k * 256) = C at HX HC hcl
      clear hat hal
      go_wp2
      go_loop [3, 5] (fun t i => ∃ (j q : Nat), j ≤ 8 ∧ i = .int .i64 j ∧ t = .int .i64 q ∧ q < 65536 ∧ Hid (q = Crc.shn C j)) (fun _ i => 8 - (intOf i).toNat)
      case atStart => exact ⟨0, C, by omega, rfl, congrArg (Value.int .i64) HX.out, hcl, hide rfl⟩
      case round =>
        obtain ⟨j, q, hj, rfl, rfl, hq, HQ⟩ := hrel
        by_cases hlj : j < 8
        · have HS : Hid (Crc.sh q = Crc.shn C (j + 1)) := hide (by rw [HQ.out]; rfl)
          by_cases hhi : 32768 ≤ q
          · have HR : Hid (bits BinOp.xor IntKind.i64 (2 * (q : Int) - 65536) 4129 = (Crc.sh q : Int)) := by
              refine hide ?_
              rw [Crc.sh_hi q hhi, show 2 * (q : Int) - 65536 = ((2 * q - 65536 : Nat) : Int) by omega]
              exact Ecc.i64_xor (2 * q - 65536) 4129 (by omega) (by omega)
            have HSL := hide (Crc.sh_lt q hq)
            obtain ⟨Q, hQ⟩ : ∃ Q : Int, (q : Int) = Q := ⟨_, rfl⟩
            have hge : 65536 ≤ 2 * Q := by omega
            have hqi : Q < 65536 := by omega
            rw [hQ] at HR ⊢
            clear hhi hq hp hcl hQ
            go_wp2
            go_round
            case rel => exact ⟨j + 1, Crc.sh q, by omega, by go_num, congrArg (Value.int .i64) HR.out, HSL.out, HS⟩
            case measure => simp [intOf]; omega
          · have HR : Hid (2 * q = Crc.sh q) := hide (Crc.sh_lo q hhi).symm
            have HL : Hid (2 * q < 65536) := hide (by omega)
            obtain ⟨Q, hQ⟩ : ∃ Q : Int, (q : Int) = Q := ⟨_, rfl⟩
            have hge : 2 * Q < 65536 := by omega
            have hq0 : 0 ≤ Q := by omega
            have HQe := hide hQ
            rw [hQ]
            clear hhi hq hp hcl hQ
            go_wp2
            go_round
            case rel =>
              refine ⟨j + 1, 2 * q, by omega, by go_num, ?_, HL.out, hide (HR.out.trans HS.out)⟩
              rw [← HQe.out]
              go_num
            case measure => simp [intOf]; omega
        · have e : j = 8 := by omega
          subst e
          have HE : Hid (q = Crc.crc s (k + 1)) := hide (HQ.out.trans HC.out)
          go_wp2
          go_round
          case rel => exact ⟨k + 1, q, by omega, by go_num, rfl, hq, HE⟩
          case measure => simp [intOf]; omega
    · have e : k = s.size := by omega
      have HE : Hid (p = Crc.crc s s.size) := hide (by rw [← e]; exact HP.out)
      clear e
      go_wp2
      go_ret
      exact ⟨ret_i (congrArg Nat.cast HE.out), rfl⟩

end Go.Proofs.Ytnkocikbapbbmaa
