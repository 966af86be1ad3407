/- LcM, FlW, FlU, LcN, FlX -/
import Derived.Test.YtgflipkhhpkidaaYkOrder45
import Derived.Test.YtgflipkhhpkidaaYkOrder12
import Derived.Test.YtgflipkhhpkidaaYkOrder20
/- a link calmed, plainly: all that comes, a round, rounds -/
namespace Go.Proofs.Ytgflipkhhpkidaa
open Go.RowKit
set_option linter.unusedVariables false
set_option linter.unusedSimpArgs false

theorem ldL_ok {p : Lk} {k z bit : Int} {body : ByteArray} (h : ldC p k z bit body = 0) : ldL p k z bit body = actL p k z bit body := by unfold ldL; rw [if_pos h]
theorem ldL_no {p : Lk} {k z bit : Int} {body : ByteArray} (h : ldC p k z bit body ≠ 0) : ldL p k z bit body = p := by unfold ldL; rw [if_neg h]
theorem ld_lf {p : Lk} (hf : Lf p) (k z bit : Int) (body : ByteArray) : Lf (ldL p k z bit body) := by
  by_cases h : ldC p k z bit body = 0
  · rw [ldL_ok h]
    unfold ldC at h
    split at h
    · split at h
      · split at h
        · rename_i hl
          exact lk_iff.1 hl
        · exact absurd h (by decide)
      · rename_i h0
        exact absurd h h0
    · exact absurd h (by decide)
  · rw [ldL_no h]; exact hf
end Go.Proofs.Ytgflipkhhpkidaa

/- sums of texts, plainly (FlR's plain part) -/
namespace Go.Proofs.Ytgflipkhhpkidaa
open Go.RowKit
set_option linter.unusedVariables false
set_option linter.unusedSimpArgs false

namespace Crc
theorem at_left (a b : ByteArray) (k : Nat) (h : k < a.size) : at' (a ++ b) k = at' a k := by
  unfold at'
  rw [ByteArray.data_append, Array.getElem?_append_left h]
theorem at_right (a b : ByteArray) (k : Nat) : at' (a ++ b) (a.size + k) = at' b k := by
  unfold at'
  rw [ByteArray.data_append, Array.getElem?_append_right (by show a.data.size ≤ _; exact Nat.le_add_right _ _)]
  congr 2
  show b.data[a.size + k - a.size]? = _
  rw [Nat.add_sub_cancel_left]
theorem crc_left (a b : ByteArray) : ∀ k, k ≤ a.size → crc (a ++ b) k = crc a k
  | 0, _ => rfl
  | k + 1, h => by
    show shn (crc (a ++ b) k ^^^ (at' (a ++ b) k * 256)) 8 = shn (crc a k ^^^ (at' a k * 256)) 8
    rw [crc_left a b k (by omega), at_left a b k (by omega)]
theorem shn_zero : ∀ k, shn 0 k = 0
  | 0 => rfl
  | k + 1 => by show sh (shn 0 k) = 0; rw [shn_zero k]; rfl
theorem shn_small (x : Nat) (hx : x < 256) : ∀ k, k ≤ 8 → shn x k = x * 2 ^ k
  | 0, _ => by show x = x * 1; omega
  | k + 1, h => by
    show sh (shn x k) = _
    rw [shn_small x hx k (by omega)]
    have h2 : 2 ^ k ≤ 2 ^ 7 := Nat.pow_le_pow_right (by decide) (by omega)
    have h3 : x * 2 ^ k ≤ 255 * 128 := Nat.mul_le_mul (by omega) h2
    rw [sh_lo _ (by omega), Nat.pow_succ]
    rw [Nat.mul_comm 2, Nat.mul_assoc]
theorem xor_hi (c : Nat) : c ^^^ (c / 256 * 256) = c % 256 := by
  have h1 := Nat.xor_div_two_pow (a := c) (b := c / 256 * 256) (n := 8)
  have h2 := Nat.xor_mod_two_pow (a := c) (b := c / 256 * 256) (n := 8)
  rw [show (2 : Nat) ^ 8 = 256 from rfl] at h1 h2
  rw [Nat.mul_div_cancel _ (by decide), Nat.xor_self] at h1
  rw [Nat.mul_mod_left, Nat.xor_zero] at h2
  generalize c ^^^ (c / 256 * 256) = y at h1 h2
  omega
theorem at_two (c : Nat) (h : c < 65536) : at' (Flit.two c) 0 = c / 256 ∧ at' (Flit.two c) 1 = c % 256 := by
  constructor
  · show (Flit.u8 (c / 256)).toNat = _
    have := Flit.u8_nat (c / 256)
    omega
  · show (Flit.u8 c).toNat = _
    have := Flit.u8_nat c
    omega
theorem self (a : ByteArray) : crc (a ++ Flit.two (crc a a.size)) (a ++ Flit.two (crc a a.size)).size = 0 := by
  have hl := crc_lt a a.size
  have hs : (a ++ Flit.two (crc a a.size)).size = a.size + 1 + 1 := by rw [ByteArray.size_append]; rfl
  rw [hs]
  obtain ⟨t0, t1⟩ := at_two (crc a a.size) hl
  show shn (shn (crc (a ++ Flit.two (crc a a.size)) a.size ^^^ (at' (a ++ Flit.two (crc a a.size)) a.size * 256)) 8 ^^^ (at' (a ++ Flit.two (crc a a.size)) (a.size + 1) * 256)) 8 = 0
  have e0 := at_right a (Flit.two (crc a a.size)) 0
  have e1 := at_right a (Flit.two (crc a a.size)) 1
  rw [Nat.add_zero] at e0
  rw [e0, e1, t0, t1, crc_left a _ a.size (Nat.le_refl _), xor_hi, shn_small _ (Nat.mod_lt _ (by decide)) 8 (Nat.le_refl _)]
  rw [show (2 : Nat) ^ 8 = 256 from rfl, Nat.xor_self]
  exact shn_zero 8
end Crc
end Go.Proofs.Ytgflipkhhpkidaa

/- a flit comes back from its text -/
namespace Go.Proofs.Ytgflipkhhpkidaa
open Go.RowKit
set_option linter.unusedVariables false
set_option linter.unusedSimpArgs false

namespace Crc
theorem ba_ext (a b : ByteArray) (hs : a.size = b.size) (h : ∀ j, j < a.size → at' a j = at' b j) : a = b := by
  obtain ⟨x⟩ := a
  obtain ⟨y⟩ := b
  have hs' : x.size = y.size := hs
  have e : x = y := by
    refine Array.ext hs' fun j h1 h2 => ?_
    have := h j h1
    unfold at' at this
    simp only [Array.getElem?_eq_getElem h1, Array.getElem?_eq_getElem h2, Option.getD_some] at this
    exact UInt8.toNat_inj.mp this
  rw [e]
theorem at_extract (s : ByteArray) (i n j : Nat) (h : i + j < n) (hn : n ≤ s.size) : at' (s.extract i n) j = at' s (i + j) := by
  have h1 : j < (s.extract i n).size := by rw [ByteArray.size_extract]; omega
  have h2 : i + j < s.size := by omega
  rw [at_eq _ _ h1, at_eq _ _ h2, ByteArray.getElem_extract]
end Crc

namespace Flit
theorem at_head (k s : Nat) (b : ByteArray) (hk : k < 256) : Crc.at' (text k s b) 0 = k ∧ Crc.at' (text k s b) 1 = s / 65536 % 256 ∧ Crc.at' (text k s b) 2 = s / 256 % 256 ∧ Crc.at' (text k s b) 3 = s % 256 := by
  have hb : (head k s b).size = 5 := rfl
  have e : ∀ j, j < 5 → Crc.at' (text k s b) j = Crc.at' (head k s b) j := by
    intro j hj
    unfold text
    rw [Crc.at_left _ _ _ (by rw [body_size]; omega)]
    unfold body
    rw [Crc.at_left _ _ _ (by rw [hb]; exact hj)]
  rw [e 0 (by omega), e 1 (by omega), e 2 (by omega), e 3 (by omega)]
  refine ⟨?_, ?_, ?_, ?_⟩
  · show (u8 k).toNat = k
    have := u8_nat k; omega
  · show (u8 (s / 65536)).toNat = _
    have := u8_nat (s / 65536); omega
  · show (u8 (s / 256)).toNat = _
    have := u8_nat (s / 256); omega
  · show (u8 s).toNat = _
    have := u8_nat s; omega
theorem bd_text (k s : Nat) (b : ByteArray) : bd (text k s b) = b := by
  have hts := text_size k s b
  unfold bd
  have hsz : ((text k s b).extract 5 ((text k s b).size - 2)).size = b.size := by rw [ByteArray.size_extract]; omega
  refine Crc.ba_ext _ _ hsz fun j hj => ?_
  rw [hsz] at hj
  rw [Crc.at_extract _ _ _ _ (by omega) (by omega)]
  unfold text
  rw [Crc.at_left _ _ _ (by rw [body_size]; omega)]
  unfold body
  have := Crc.at_right (head k s b) b j
  exact this
theorem back (k s : Int) (b : ByteArray) (h : ok k s b = true) : rd (txt k s b) = true ∧ rK (txt k s b) = k ∧ rS (txt k s b) = s ∧ rB (txt k s b) = b := by
  obtain ⟨k', s', rfl, rfl, hs, hk, h8⟩ := ok_facts h
  have e : txt k' s' b = text k' s' b := by unfold txt; rw [if_pos h]; rfl
  rw [e]
  obtain ⟨a0, a1, a2, a3⟩ := at_head k' s' b (by omega)
  have hkd : kd (text k' s' b) = k' := a0
  have hsq : sq (text k' s' b) = s' := by
    unfold sq
    rw [a1, a2, a3]; omega
  have hr : rd (text k' s' b) = true := by
    refine decide_eq_true ⟨by rw [text_size]; omega, ?_⟩
    unfold tx
    rw [hkd, hsq, bd_text]
    exact e
  obtain ⟨r1, r2, r3⟩ := rd_yes hr
  rw [r1, r2, r3, hkd, hsq, bd_text]
  exact ⟨hr, rfl, rfl, rfl⟩
end Flit
end Go.Proofs.Ytgflipkhhpkidaa

/- all that was offered is got once nothing is lost any more, plainly -/
namespace Go.Proofs.Ytgflipkhhpkidaa
open Go.RowKit
set_option linter.unusedVariables false
set_option linter.unusedSimpArgs false

theorem ok_data {s : Int} {b : ByteArray} (h0 : 0 ≤ s) (h1 : s ≤ 1000000) (h8 : b.size ≤ 8) : Flit.ok 1 s b = true := decide_eq_true ⟨⟨h0, h1⟩, .inl ⟨rfl, h8⟩⟩
/-- a text whose flit is known, come down -/
theorem down_data {p : Lk} {z : Nat} {s : Int} {b : ByteArray} (h : p.dt z = Flit.txt 1 s b) (ok : Flit.ok 1 s b = true) : comeD p z = dgL (outD p z) s b := by
  obtain ⟨r1, r2, r3, r4⟩ := Flit.back 1 s b ok
  unfold comeD
  rw [h, r1, r2, r3, r4]
  rfl
/-- what is under way on the way down, behind i of k texts -/
structure Dw (p : Lk) (k i : Nat) (q : Lk) : Prop where
  lf : Lf q
  base : q.base = p.base
  nw : q.nw = p.nw
  ws : q.ws = p.ws
  nd : q.nd + i = k
  dt : ∀ j, j < q.nd → q.dt j = fdT p (i + j)
  nu : q.nu = i
  ut : ∀ j, j < i → ∃ s : Int, q.ut j = Flit.txt 2 s e0 ∧ p.base ≤ s ∧ s ≤ q.want
  wn : p.base + i ≤ q.want
  wp : p.want ≤ q.want
  gs : ∀ j, j < p.ng → q.gs j = p.gs j
  la : 0 < i → q.ut (i - 1) = Flit.txt 2 q.want e0
/-- and on the way up -/
structure Uw (p : Lk) (k i : Nat) (q : Lk) : Prop where
  lf : Lf q
  want : q.want = p.want
  ng : q.ng = p.ng
  gs : q.gs = p.gs
  nd : q.nd = 0
  nu : q.nu + i = k
  ut : ∀ j, j < q.nu → q.ut j = p.ut (i + j)
  b1 : p.base ≤ q.base
  tot : q.base + q.nw = p.base + p.nw
  ws : ∀ x, x < q.nw → q.ws x = p.ws (x + (q.base - p.base).toNat)
  la : i = k → 0 < k → q.base = q.want
end Go.Proofs.Ytgflipkhhpkidaa

/- a bit turned: no flit any more, plainly (FlT's plain part) -/
namespace Go.Proofs.Ytgflipkhhpkidaa
open Go.RowKit
set_option linter.unusedVariables false
set_option linter.unusedSimpArgs false

namespace Crc
theorem sh_par (c : Nat) (h : c < 65536) : sh c % 2 = if 32768 ≤ c then 1 else 0 := by
  by_cases hc : 32768 ≤ c
  · rw [sh_hi c hc, if_pos hc]
    have h2 : ((2 * c - 65536) ^^^ 4129) % 2 = ((2 * c - 65536) % 2) ^^^ (4129 % 2) := Nat.xor_mod_two_pow (n := 1)
    rw [h2, show (2 * c - 65536) % 2 = 0 by omega]
    decide
  · rw [sh_lo c hc, if_neg hc]; omega
theorem xor_inj (a b c : Nat) (h : a ^^^ c = b ^^^ c) : a = b := by
  have : (a ^^^ c) ^^^ c = (b ^^^ c) ^^^ c := by rw [h]
  rw [Nat.xor_assoc, Nat.xor_assoc, Nat.xor_self, Nat.xor_zero, Nat.xor_zero] at this
  exact this
theorem sh_inj (a b : Nat) (ha : a < 65536) (hb : b < 65536) (h : sh a = sh b) : a = b := by
  have pa := sh_par a ha
  have pb := sh_par b hb
  rw [h] at pa
  rw [pa] at pb
  by_cases h1 : 32768 ≤ a
  · by_cases h2 : 32768 ≤ b
    · rw [sh_hi a h1, sh_hi b h2] at h
      have := xor_inj _ _ _ h
      omega
    · rw [if_pos h1, if_neg h2] at pb; omega
  · by_cases h2 : 32768 ≤ b
    · rw [if_neg h1, if_pos h2] at pb; omega
    · rw [sh_lo a h1, sh_lo b h2] at h; omega
theorem shn_inj (a b : Nat) (ha : a < 65536) (hb : b < 65536) : ∀ k, shn a k = shn b k → a = b
  | 0, h => h
  | k + 1, h => shn_inj a b ha hb k (sh_inj _ _ (shn_lt a ha k) (shn_lt b hb k) h)
theorem one_diff (a b : ByteArray) (i : Nat) (hne : at' a i ≠ at' b i) (hs : ∀ j, j ≠ i → at' a j = at' b j) : ∀ n, (n ≤ i → crc a n = crc b n) ∧ (i < n → crc a n ≠ crc b n)
  | 0 => ⟨fun _ => rfl, fun h => by omega⟩
  | n + 1 => by
    obtain ⟨h1, h2⟩ := one_diff a b i hne hs n
    have la := xor_lt _ _ (crc_lt a n) (at_lt a n)
    have lb := xor_lt _ _ (crc_lt b n) (at_lt b n)
    refine ⟨fun h => ?_, fun h he => ?_⟩
    · show shn (crc a n ^^^ (at' a n * 256)) 8 = shn (crc b n ^^^ (at' b n * 256)) 8
      rw [h1 (by omega), hs n (by omega)]
    · have he2 : shn (crc a n ^^^ (at' a n * 256)) 8 = shn (crc b n ^^^ (at' b n * 256)) 8 := he
      have he3 := shn_inj _ _ la lb 8 he2
      by_cases e : n = i
      · subst e
        rw [h1 (Nat.le_refl _), Nat.xor_comm, Nat.xor_comm (crc b n)] at he3
        have := xor_inj _ _ _ he3
        omega
      · rw [hs n e] at he3
        exact h2 (by omega) (xor_inj _ _ _ he3)
end Crc

namespace Flit
theorem text_sum (k s : Nat) (b : ByteArray) : Crc.crc (text k s b) (text k s b).size = 0 := Crc.self (body k s b)
theorem txt_sum (k s : Int) (b : ByteArray) (h : ¬ (txt k s b).size = 0) : Crc.crc (txt k s b) (txt k s b).size = 0 := by
  unfold txt at h ⊢
  by_cases ho : ok k s b = true
  · rw [if_pos ho]; exact text_sum _ _ _
  · rw [if_neg ho] at h; exact absurd rfl h
theorem rd_sum (s : ByteArray) (h : rd s = true) : Crc.crc s s.size = 0 := by
  have h2 := of_decide_eq_true h
  have e : tx s = s := h2.2
  have h3 := txt_sum (kd s) (sq s) (bd s) (by show ¬ (tx s).size = 0; rw [e]; omega)
  change Crc.crc (tx s) (tx s).size = 0 at h3
  rw [e] at h3
  exact h3
/-- a byte changed: none any more -/
theorem one_byte (s : ByteArray) (hs : Crc.crc s s.size = 0) (i x : Nat) (hi : i < s.size) (hx : x < 256) (hne : Crc.at' s i ≠ x) : rd (setB s i x) = false := by
  cases h : rd (setB s i x)
  · rfl
  · have h1 := rd_sum _ h
    rw [setB_size] at h1
    have h2 := (Crc.one_diff (setB s i x) s i (by rw [setB_same s i x hi hx]; exact fun e => hne e.symm) (fun j hj => setB_other s i x j (fun e => hj e.symm)) s.size).2 hi
    exact absurd (h1.trans hs.symm) h2
theorem bit_ne (a k : Nat) : a ≠ a ^^^ 2 ^ k := by
  intro h
  have h2 : a ^^^ a = (a ^^^ 2 ^ k) ^^^ a := by rw [← h]
  rw [Nat.xor_self, Nat.xor_comm a, Nat.xor_assoc, Nat.xor_self, Nat.xor_zero] at h2
  have := Nat.two_pow_pos k
  omega
end Flit
end Go.Proofs.Ytgflipkhhpkidaa
