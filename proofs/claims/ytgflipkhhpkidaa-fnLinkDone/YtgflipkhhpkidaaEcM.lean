/- words of 13 bits: plain facts -/
import Derived.WalkKit
namespace Go.Proofs.Ytgflipkhhpkidaa
open Go.RowKit
namespace Ecc

def bt (w k : Nat) : Nat := Nat.mod (Nat.div w (Nat.pow 2 k)) 2
def syn (w : Nat) : Nat → Nat
  | 0 => 0
  | k + 1 => Nat.xor (syn w k) (Nat.mul k (bt w k))
def odd (w : Nat) : Nat → Bool
  | 0 => false
  | k + 1 => Bool.xor (odd w k) (Nat.beq (bt w k) 1)
def held (k : Nat) : Bool := !(Nat.beq (Nat.land k (Nat.sub k 1)) 0)
def ac : Nat → Nat
  | 0 => 0
  | k + 1 => cond (held k) (Nat.succ (ac k)) (ac k)
def sw (b : Nat) : Nat → Nat
  | 0 => 0
  | k + 1 => cond (held k) (Nat.add (sw b k) (Nat.mul (bt b (ac k)) (Nat.pow 2 k))) (sw b k)
def dat (w : Nat) : Nat → Nat
  | 0 => 0
  | k + 1 => cond (held k) (Nat.add (dat w k) (Nat.mul (bt w k) (Nat.pow 2 (ac k)))) (dat w k)
def isC (k : Nat) : Bool := !(held k) && !(Nat.beq k 0)
def chs (w x : Nat) : Nat → Nat
  | 0 => w
  | k + 1 => cond (isC k && !(Nat.beq (Nat.land x k) 0)) (Nat.add (chs w x k) (Nat.pow 2 k)) (chs w x k)
def chk (w x : Nat) : Nat → Nat
  | 0 => w
  | j + 1 => cond (Nat.beq (Nat.land x (Nat.pow 2 j)) 0) (chk w x j) (Nat.xor (chk w x j) (Nat.pow 2 (Nat.pow 2 j)))
def flp (w k : Nat) : Nat := Nat.xor w (Nat.pow 2 k)
def enc (b : Nat) : Nat := cond (odd (chs (sw b 13) (syn (sw b 13) 13) 13) 13) (Nat.add (chs (sw b 13) (syn (sw b 13) 13) 13) 1) (chs (sw b 13) (syn (sw b 13) 13) 13)
def encI (b : Nat) : Nat := cond (odd (chk (sw b 13) (syn (sw b 13) 13) 4) 13) (flp (chk (sw b 13) (syn (sw b 13) 13) 4) 0) (chk (sw b 13) (syn (sw b 13) 13) 4)
def rdV (w : Nat) : Nat := cond (odd w 13) (cond (Nat.ble 13 (syn w 13)) 0 (dat (flp w (syn w 13)) 13)) (cond (Nat.beq (syn w 13) 0) (dat w 13) 0)
def rdC (w : Nat) : Nat := cond (odd w 13) (cond (Nat.ble 13 (syn w 13)) 2 1) (cond (Nat.beq (syn w 13) 0) 0 2)

def allD (f : Nat → Bool) : Nat → Nat → Bool
  | 0, b => f b
  | d + 1, b => and (allD f d (Nat.mul 2 b)) (allD f d (Nat.add (Nat.mul 2 b) 1))
theorem allD_at (f : Nat → Bool) : ∀ (d b : Nat), allD f d b = true → ∀ x, b * 2 ^ d ≤ x → x < (b + 1) * 2 ^ d → f x = true
  | 0, b, h, x, h1, h2 => by
    have e : x = b := by simp at h1 h2; omega
    subst e; exact h
  | d + 1, b, h, x, h1, h2 => by
    have h' : allD f d (2 * b) = true ∧ allD f d (2 * b + 1) = true := by
      have : and (allD f d (Nat.mul 2 b)) (allD f d (Nat.add (Nat.mul 2 b) 1)) = true := h
      rw [Bool.and_eq_true] at this
      exact this
    rw [Nat.pow_succ] at h1 h2
    have e1 : b * (2 ^ d * 2) = 2 * b * 2 ^ d := by rw [Nat.mul_comm (2 ^ d) 2, ← Nat.mul_assoc, Nat.mul_comm b 2]
    have e2 : (b + 1) * (2 ^ d * 2) = (2 * b + 1 + 1) * 2 ^ d := by rw [Nat.mul_comm (2 ^ d) 2, ← Nat.mul_assoc, Nat.mul_comm (b + 1) 2]; rfl
    rw [e1] at h1
    rw [e2] at h2
    by_cases hc : x < (2 * b + 1) * 2 ^ d
    · exact allD_at f d (2 * b) h'.1 x h1 hc
    · exact allD_at f d (2 * b + 1) h'.2 x (by omega) h2
theorem all13 (f : Nat → Bool) (h : allD f 13 0 = true) (x : Nat) (hx : x < 8192) : f x = true := allD_at f 13 0 h x (by omega) (by simpa using hx)
theorem all8 (f : Nat → Bool) (h : allD f 8 0 = true) (x : Nat) (hx : x < 256) : f x = true := allD_at f 8 0 h x (by omega) (by simpa using hx)

theorem bt_eq (w k : Nat) : bt w k = w / 2 ^ k % 2 := rfl
theorem bt_lt (w k : Nat) : bt w k < 2 := Nat.mod_lt _ (by decide)
theorem bt_cases (w k : Nat) : bt w k = 0 ∨ bt w k = 1 := by have := bt_lt w k; omega
theorem syn_succ (w k : Nat) : syn w (k + 1) = syn w k ^^^ (k * bt w k) := rfl
theorem syn_one (w : Nat) : syn w 1 = 0 := by show Nat.xor 0 (Nat.mul 0 (bt w 0)) = 0; rw [show Nat.mul 0 (bt w 0) = 0 from Nat.zero_mul _]; rfl
theorem syn_yes (w k : Nat) (h : bt w k = 1) : syn w (k + 1) = syn w k ^^^ k := by rw [syn_succ, h, Nat.mul_one]
theorem syn_no (w k : Nat) (h : ¬ bt w k = 1) : syn w (k + 1) = syn w k := by
  have h0 : bt w k = 0 := by have := bt_lt w k; omega
  rw [syn_succ, h0, Nat.mul_zero, Nat.xor_zero]
theorem syn_lt (w : Nat) : ∀ k, k ≤ 13 → syn w k < 16
  | 0, _ => by show 0 < 16; decide
  | k + 1, h => by
    rw [syn_succ]
    have h1 := syn_lt w k (by omega)
    have h2 : k * bt w k < 16 := by
      rcases bt_cases w k with e | e <;> rw [e] <;> omega
    exact Nat.xor_lt_two_pow (n := 4) (by omega) (by omega)
theorem ac_le : ∀ k, ac k ≤ k
  | 0 => Nat.le_refl _
  | k + 1 => by
    show cond (held k) (Nat.succ (ac k)) (ac k) ≤ k + 1
    have := ac_le k
    cases held k <;> simp <;> omega
theorem ac_lt (k : Nat) (h : k < 13) : ac k < 9 := by
  have : ∀ k : Fin 13, ac k.val < 9 := by decide +kernel
  exact this ⟨k, h⟩
theorem ac_yes (k : Nat) (h : held k = true) : ac (k + 1) = ac k + 1 := by show cond (held k) (Nat.succ (ac k)) (ac k) = ac k + 1; rw [h]; rfl
theorem ac_no (k : Nat) (h : held k = false) : ac (k + 1) = ac k := by show cond (held k) (Nat.succ (ac k)) (ac k) = ac k; rw [h]; rfl
theorem sw_yes (b k : Nat) (h : held k = true) : sw b (k + 1) = sw b k + bt b (ac k) * 2 ^ k := by show cond (held k) _ _ = _; rw [h]; rfl
theorem sw_no (b k : Nat) (h : held k = false) : sw b (k + 1) = sw b k := by show cond (held k) _ _ = _; rw [h]; rfl
theorem sw_lt (b : Nat) : ∀ k, sw b k < 2 ^ k
  | 0 => by show 0 < 1; decide
  | k + 1 => by
    have h := sw_lt b k
    rw [Nat.pow_succ]
    cases hh : held k
    · rw [sw_no b k hh]; omega
    · rw [sw_yes b k hh]
      rcases bt_cases b (ac k) with e | e <;> rw [e] <;> omega
theorem dat_yes (w k : Nat) (h : held k = true) : dat w (k + 1) = dat w k + bt w k * 2 ^ ac k := by show cond (held k) _ _ = _; rw [h]; rfl
theorem dat_no (w k : Nat) (h : held k = false) : dat w (k + 1) = dat w k := by show cond (held k) _ _ = _; rw [h]; rfl
theorem dat_lt (w : Nat) : ∀ k, dat w k < 2 ^ ac k
  | 0 => by show 0 < 1; decide
  | k + 1 => by
    have h := dat_lt w k
    cases hh : held k
    · rw [dat_no w k hh, ac_no k hh]; exact h
    · rw [dat_yes w k hh, ac_yes k hh, Nat.pow_succ]
      rcases bt_cases w k with e | e <;> rw [e] <;> omega
theorem dat_small (w : Nat) (k : Nat) (h : k ≤ 13) : dat w k < 256 := by
  have h1 := dat_lt w k
  have h2 : ∀ k : Fin 14, ac k.val ≤ 8 := by decide +kernel
  have h3 : 2 ^ ac k ≤ 2 ^ 8 := Nat.pow_le_pow_right (by decide) (h2 ⟨k, by omega⟩)
  omega
theorem or_add (a x k : Nat) (h : a < 2 ^ k) : a ||| (x * 2 ^ k) = a + x * 2 ^ k := by
  rw [Nat.or_comm, Nat.add_comm, Nat.mul_comm]
  exact (Nat.two_pow_add_eq_or_of_lt h x).symm
theorem half (b n : Nat) : b / 2 ^ n / 2 = b / 2 ^ (n + 1) := by rw [Nat.pow_succ, Nat.div_div_eq_div_mul]
theorem chs_yes (w x k : Nat) (h : isC k = true) (h2 : ¬ x &&& k = 0) : chs w x (k + 1) = chs w x k + 2 ^ k := by
  show cond (isC k && !(Nat.beq (Nat.land x k) 0)) _ _ = _
  have : Nat.beq (Nat.land x k) 0 = false := by
    cases hb : Nat.beq (Nat.land x k) 0
    · rfl
    · exact absurd (Nat.eq_of_beq_eq_true hb) h2
  rw [h, this]; rfl
theorem chs_no (w x k : Nat) (h : isC k = false) : chs w x (k + 1) = chs w x k := by
  show cond (isC k && !(Nat.beq (Nat.land x k) 0)) _ _ = _
  rw [h]; rfl
theorem chs_none (w x k : Nat) (h2 : x &&& k = 0) : chs w x (k + 1) = chs w x k := by
  show cond (isC k && !(Nat.beq (Nat.land x k) 0)) _ _ = _
  have : Nat.beq (Nat.land x k) 0 = true := by
    have e : Nat.land x k = 0 := h2
    rw [e]; rfl
  rw [this]; cases isC k <;> rfl
theorem chk_yes (w x j : Nat) (h2 : ¬ x &&& 2 ^ j = 0) : chk w x (j + 1) = chk w x j ^^^ 2 ^ (2 ^ j) := by
  show cond (Nat.beq (Nat.land x (Nat.pow 2 j)) 0) _ _ = _
  have : Nat.beq (Nat.land x (Nat.pow 2 j)) 0 = false := by
    cases hb : Nat.beq (Nat.land x (Nat.pow 2 j)) 0
    · rfl
    · exact absurd (Nat.eq_of_beq_eq_true hb) h2
  rw [this]; rfl
theorem chk_no (w x j : Nat) (h2 : x &&& 2 ^ j = 0) : chk w x (j + 1) = chk w x j := by
  show cond (Nat.beq (Nat.land x (Nat.pow 2 j)) 0) _ _ = _
  have : Nat.beq (Nat.land x (Nat.pow 2 j)) 0 = true := by
    have e : Nat.land x (Nat.pow 2 j) = 0 := h2
    rw [e]; rfl
  rw [this]; rfl
theorem chk_lt (w x : Nat) (hw : w < 8192) : ∀ j, j ≤ 4 → chk w x j < 8192
  | 0, _ => hw
  | j + 1, h => by
    have h1 := chk_lt w x hw j (by omega)
    by_cases h2 : x &&& 2 ^ j = 0
    · rw [chk_no w x j h2]; exact h1
    · rw [chk_yes w x j h2]
      have h4 : 2 ^ (2 ^ j) < 2 ^ 13 := by
        have : j = 0 ∨ j = 1 ∨ j = 2 ∨ j = 3 := by omega
        rcases this with rfl | rfl | rfl | rfl <;> decide
      exact Nat.xor_lt_two_pow (n := 13) h1 h4
theorem chs_lt (w x : Nat) : ∀ k, chs w x k < w + 2 ^ k
  | 0 => by show w < w + 1; omega
  | k + 1 => by
    have h1 := chs_lt w x k
    rw [Nat.pow_succ]
    cases hc : isC k
    · rw [chs_no w x k hc]; omega
    · by_cases h2 : x &&& k = 0
      · rw [chs_none w x k h2]; omega
      · rw [chs_yes w x k hc h2]; omega
theorem flp_lt (w k : Nat) (hw : w < 8192) (hk : k < 13) : flp w k < 8192 := Nat.xor_lt_two_pow (n := 13) hw (Nat.pow_lt_pow_of_lt (by decide) hk)
theorem xor_one (x : Nat) : x ^^^ 1 = if x % 2 = 1 then x - 1 else x + 1 := by
  have h1 : (x ^^^ 1) / 2 = (x / 2) ^^^ (1 / 2) := Nat.xor_div_two_pow (a := x) (b := 1) (n := 1)
  have h2 : (x ^^^ 1) % 2 = (x % 2) ^^^ (1 % 2) := Nat.xor_mod_two_pow (a := x) (b := 1) (n := 1)
  rw [show 1 / 2 = 0 from rfl, Nat.xor_zero] at h1
  generalize x ^^^ 1 = y at h1 h2
  rcases Nat.mod_two_eq_zero_or_one x with h | h
  · rw [h] at h2
    have h3 : y % 2 = 1 := h2.trans (by decide)
    rw [if_neg (by omega)]; omega
  · rw [h] at h2
    have h3 : y % 2 = 0 := h2.trans (by decide)
    rw [if_pos h]; omega
theorem flp_eq (w k : Nat) : flp w k = if bt w k = 1 then w - 2 ^ k else w + 2 ^ k := by
  show w ^^^ 2 ^ k = _
  have h1 := Nat.xor_div_two_pow (a := w) (b := 2 ^ k) (n := k)
  have h2 := Nat.xor_mod_two_pow (a := w) (b := 2 ^ k) (n := k)
  rw [Nat.div_self (Nat.two_pow_pos k), xor_one] at h1
  rw [Nat.mod_self, Nat.xor_zero] at h2
  have e := Nat.div_add_mod (w ^^^ 2 ^ k) (2 ^ k)
  have e' := Nat.div_add_mod w (2 ^ k)
  rw [h1, h2] at e
  rw [bt_eq]
  clear h1 h2
  generalize w / 2 ^ k = q at e e' ⊢
  by_cases hb : q % 2 = 1
  · rw [if_pos hb] at e ⊢
    have hp : 1 ≤ q := by omega
    rw [Nat.mul_sub, Nat.mul_one] at e
    have : 2 ^ k ≤ 2 ^ k * q := Nat.le_mul_of_pos_right _ hp
    omega
  · rw [if_neg hb] at e ⊢
    rw [Nat.mul_add, Nat.mul_one] at e
    omega
theorem flp_yes (w k : Nat) (h : bt w k = 1) : flp w k = w - 2 ^ k ∧ 2 ^ k ≤ w := by
  refine ⟨by rw [flp_eq, if_pos h], ?_⟩
  rw [bt_eq] at h
  by_cases hc : 2 ^ k ≤ w
  · exact hc
  · rw [Nat.div_eq_of_lt (by omega)] at h
    simp at h
theorem flp_no (w k : Nat) (h : ¬ bt w k = 1) : flp w k = w + 2 ^ k := by rw [flp_eq, if_neg h]

set_option maxRecDepth 20000
theorem enc_chk : allD (fun b => Nat.beq (encI b) (enc b) && Nat.blt (enc b) 8192) 8 0 = true := by decide +kernel
theorem enc_eq (b : Nat) (h : b < 256) : encI b = enc b ∧ enc b < 8192 := by
  have := all8 _ enc_chk b h
  simp only [Bool.and_eq_true, Nat.blt_eq] at this
  exact ⟨Nat.eq_of_beq_eq_true this.1, this.2⟩

def pA (w : Nat) : Nat := Nat.add (Nat.land (Nat.div w 2) 6148914691236517205) (Nat.land w 6148914691236517205)
def pB (a : Nat) : Nat := Nat.add (Nat.land (Nat.div a 4) 3689348814741910323) (Nat.land a 3689348814741910323)
def pC (b : Nat) : Nat := Nat.land (Nat.add (Nat.div b 16) b) 1085102592571150095
def pD (c : Nat) : Nat := Nat.add c (Nat.div c 256)
def pE (c : Nat) : Nat := Nat.add c (Nat.div c 65536)
def pF (c : Nat) : Nat := Nat.add c (Nat.div c 4294967296)
def popN (w : Nat) : Nat := Nat.land (pF (pE (pD (pC (pB (pA w)))))) 127
theorem pop_chk : allD (fun w => Bool.not (Bool.xor (Nat.beq (Nat.mod (popN w) 2) 1) (odd w 13))) 13 0 = true := by decide +kernel
theorem pop_odd (w : Nat) (h : w < 8192) : (decide (popN w % 2 = 1)) = odd w 13 := by
  have := all13 _ pop_chk w h
  have e : Nat.beq (Nat.mod (popN w) 2) 1 = decide (popN w % 2 = 1) := by
    show Nat.beq (popN w % 2) 1 = _
    cases hb : Nat.beq (popN w % 2) 1
    · exact (decide_eq_false (Nat.ne_of_beq_eq_false hb)).symm
    · exact (decide_eq_true (Nat.eq_of_beq_eq_true hb)).symm
  rw [e] at this
  cases h1 : decide (popN w % 2 = 1) <;> cases h2 : odd w 13 <;> simp [h1, h2] at this ⊢

theorem i64_wrap (n : Nat) (h : n < 9223372036854775808) : IntKind.i64.wrap (n : Int) = n := by
  simp [IntKind.wrap, IntKind.bits, IntKind.signed]; omega
theorem i64_and (a b : Nat) (ha : a < 9223372036854775808) (hb : b < 9223372036854775808) : bits .and .i64 (a : Int) (b : Int) = ((a &&& b : Nat) : Int) := by
  have hx : a &&& b < 2 ^ 63 := Nat.and_lt_two_pow _ (by omega)
  show IntKind.i64.wrap ((BitVec.ofInt 64 (a : Int) &&& BitVec.ofInt 64 (b : Int)).toNat : Int) = _
  rw [BitVec.toNat_and, ofInt_u64 a (by omega), ofInt_u64 b (by omega), i64_wrap _ (by omega)]
theorem i64_or (a b : Nat) (ha : a < 9223372036854775808) (hb : b < 9223372036854775808) : bits .or .i64 (a : Int) (b : Int) = ((a ||| b : Nat) : Int) := by
  have hx : a ||| b < 2 ^ 63 := Nat.or_lt_two_pow (by omega) (by omega)
  show IntKind.i64.wrap ((BitVec.ofInt 64 (a : Int) ||| BitVec.ofInt 64 (b : Int)).toNat : Int) = _
  rw [BitVec.toNat_or, ofInt_u64 a (by omega), ofInt_u64 b (by omega), i64_wrap _ (by omega)]
theorem i64_xor (a b : Nat) (ha : a < 9223372036854775808) (hb : b < 9223372036854775808) : bits .xor .i64 (a : Int) (b : Int) = ((a ^^^ b : Nat) : Int) := by
  have hx : a ^^^ b < 2 ^ 63 := Nat.xor_lt_two_pow (by omega) (by omega)
  show IntKind.i64.wrap ((BitVec.ofInt 64 (a : Int) ^^^ BitVec.ofInt 64 (b : Int)).toNat : Int) = _
  rw [BitVec.toNat_xor, ofInt_u64 a (by omega), ofInt_u64 b (by omega), i64_wrap _ (by omega)]
theorem i64_and1 (a : Nat) (ha : a < 9223372036854775808) : bits .and .i64 (a : Int) 1 = ((a % 2 : Nat) : Int) := by
  rw [show (1 : Int) = ((1 : Nat) : Int) from rfl, i64_and a 1 ha (by omega), Nat.and_one_is_mod]
theorem u64_half (n m c : Nat) (hn : n < 1000000) (hc : c < 9223372036854775808) : bits .and .u64 ((n : Int) / (m : Int)) (c : Int) = ((Nat.land (Nat.div n m) c : Nat) : Int) ∧ Nat.land (Nat.div n m) c ≤ n := by
  have h1 : n / m ≤ n := Nat.div_le_self n m
  have h2 := u64_and_nat (n / m) c (by omega) (by omega)
  refine ⟨?_, ?_⟩
  · rw [← Int.natCast_ediv]; exact h2
  · exact Nat.le_trans (Nat.and_le_left (n := n / m) (m := c)) h1
theorem u64_full (n c : Nat) (hn : n < 1000000) (hc : c < 9223372036854775808) : bits .and .u64 (n : Int) (c : Int) = ((Nat.land n c : Nat) : Int) ∧ Nat.land n c ≤ n :=
  ⟨u64_and_nat n c (by omega) (by omega), Nat.and_le_left⟩
theorem pA_int (n : Nat) (h : n < 10000) : IntKind.u64.wrap (bits BinOp.and IntKind.u64 ((n : Int) / 2) 6148914691236517205 + bits BinOp.and IntKind.u64 (n : Int) 6148914691236517205) = (pA n : Int) ∧ pA n < 20000 := by
  obtain ⟨e1, b1⟩ := u64_half n 2 6148914691236517205 (by omega) (by omega)
  obtain ⟨e2, b2⟩ := u64_full n 6148914691236517205 (by omega) (by omega)
  have e3 : pA n = Nat.land (Nat.div n 2) 6148914691236517205 + Nat.land n 6148914691236517205 := rfl
  refine ⟨?_, by rw [e3]; omega⟩
  rw [show ((2 : Int)) = ((2 : Nat) : Int) from rfl, show (6148914691236517205 : Int) = ((6148914691236517205 : Nat) : Int) from rfl, e1, e2, IntKind.wrap_u64, e3]
  omega
theorem pB_int (n : Nat) (h : n < 20000) : IntKind.u64.wrap (bits BinOp.and IntKind.u64 ((n : Int) / 4) 3689348814741910323 + bits BinOp.and IntKind.u64 (n : Int) 3689348814741910323) = (pB n : Int) ∧ pB n < 40000 := by
  obtain ⟨e1, b1⟩ := u64_half n 4 3689348814741910323 (by omega) (by omega)
  obtain ⟨e2, b2⟩ := u64_full n 3689348814741910323 (by omega) (by omega)
  have e3 : pB n = Nat.land (Nat.div n 4) 3689348814741910323 + Nat.land n 3689348814741910323 := rfl
  refine ⟨?_, by rw [e3]; omega⟩
  rw [show ((4 : Int)) = ((4 : Nat) : Int) from rfl, show (3689348814741910323 : Int) = ((3689348814741910323 : Nat) : Int) from rfl, e1, e2, IntKind.wrap_u64, e3]
  omega
theorem pC_int (n : Nat) (h : n < 40000) : bits BinOp.and IntKind.u64 (IntKind.u64.wrap ((n : Int) / 16 + (n : Int))) 1085102592571150095 = (pC n : Int) ∧ pC n < 80000 := by
  have e0 : IntKind.u64.wrap ((n : Int) / 16 + (n : Int)) = ((n / 16 + n : Nat) : Int) := by rw [IntKind.wrap_u64]; omega
  obtain ⟨e2, b2⟩ := u64_full (n / 16 + n) 1085102592571150095 (by omega) (by omega)
  have e3 : pC n = Nat.land (n / 16 + n) 1085102592571150095 := rfl
  refine ⟨?_, by rw [e3]; omega⟩
  rw [e0, show (1085102592571150095 : Int) = ((1085102592571150095 : Nat) : Int) from rfl, e2, e3]
theorem pD_int (n : Nat) (h : n < 80000) : IntKind.u64.wrap ((n : Int) + (n : Int) / 256) = (pD n : Int) ∧ pD n < 160000 := by
  have e3 : pD n = n + n / 256 := rfl
  rw [e3, IntKind.wrap_u64]; omega
theorem pE_int (n : Nat) (h : n < 160000) : IntKind.u64.wrap ((n : Int) + (n : Int) / 65536) = (pE n : Int) ∧ pE n < 320000 := by
  have e3 : pE n = n + n / 65536 := rfl
  rw [e3, IntKind.wrap_u64]; omega
theorem pF_int (n : Nat) (h : n < 320000) : IntKind.u64.wrap ((n : Int) + (n : Int) / 4294967296) = (pF n : Int) ∧ pF n < 640000 := by
  have e3 : pF n = n + n / 4294967296 := rfl
  rw [e3, IntKind.wrap_u64]; omega
theorem pop_le (n : Nat) : popN n ≤ 127 := Nat.and_le_right
theorem held_int : ∀ k : Fin 13, (bits BinOp.and IntKind.i64 (k.val : Int) ((k.val : Int) - 1) != 0) = held k.val := by decide +kernel
theorem wrap_pow (k : Nat) (h : k < 63) : wrap64 (2 ^ k) = ((2 ^ k : Nat) : Int) := by
  have h1 : 2 ^ k < 2 ^ 63 := Nat.pow_lt_pow_of_lt (by decide) h
  have e : ((2 : Int) ^ k) = ((2 ^ k : Nat) : Int) := by simp
  rw [e]
  generalize 2 ^ k = q at h1
  unfold wrap64
  omega
end Ecc
end Go.Proofs.Ytgflipkhhpkidaa
