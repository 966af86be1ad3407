/- a text's bytes in a row of their own; a byte changed changes the sum -/
import Derived.Test.YtbinjcmfbkhbjacFlR
namespace Go.Proofs.Ytbinjcmfbkhbjac
open Go.RowKit
set_option linter.unusedVariables false
set_option linter.unusedSimpArgs false

def Row (W : World) (g : Nat) (s : ByteArray) : Prop :=
  ∃ (cs : Array Value) (lo hi : Nat), W.heap[g]? = some (.cells cs 5 (lo, hi)) ∧ s.size ≤ cs.size ∧ cs.size ≤ lo ∧ ∀ j, j < s.size → cs[j]? = some (.int .u8 (Crc.at' s j))

theorem Row.facts {W : World} {g : Nat} {s : ByteArray} (h : Row W g s) (j : Nat) (hj : j < s.size) : W.frozen? ⟨g, j, none⟩ = false ∧ W.cell? ⟨g, j, none⟩ = some (.int .u8 (Crc.at' s j)) := by
  obtain ⟨cs, lo, hi, hh, h1, h2, h3⟩ := h
  refine ⟨?_, by rw [cell_of_row W g j cs _ _ hh]; exact h3 j hj⟩
  simp only [World.frozen?, hh]
  have : ¬ lo ≤ j := by omega
  simp [this]

def setB (s : ByteArray) (i x : Nat) : ByteArray := ⟨s.data.setIfInBounds i (UInt8.ofNat x)⟩
theorem setB_size (s : ByteArray) (i x : Nat) : (setB s i x).size = s.size := by show (s.data.setIfInBounds i _).size = s.data.size; simp
theorem setB_same (s : ByteArray) (i x : Nat) (hi : i < s.size) (hx : x < 256) : Crc.at' (setB s i x) i = x := by
  unfold Crc.at' setB
  have hi' : i < s.data.size := hi
  simp only
  rw [Array.getElem?_setIfInBounds_self_of_lt hi']
  simp [UInt8.toNat_ofNat']
  omega
theorem setB_other (s : ByteArray) (i x j : Nat) (h : i ≠ j) : Crc.at' (setB s i x) j = Crc.at' s j := by
  unfold Crc.at' setB
  simp only
  rw [Array.getElem?_setIfInBounds_ne h]

theorem Row.set {W : World} {g : Nat} {s : ByteArray} (h : Row W g s) (i x : Nat) (hi : i < s.size) (hx : x < 256) : Row (W.setCell ⟨g, i, none⟩ (.int .u8 (x : Int))) g (setB s i x) := by
  obtain ⟨cs, lo, hi', hh, h1, h2, h3⟩ := h
  have hh2 : (W.setCell ⟨g, i, none⟩ (.int .u8 (x : Int))).heap[g]? = some (.cells (cs.setIfInBounds i (.int .u8 (x : Int))) 5 (lo, hi')) := by
    rw [setCell_eq_setRow W g i cs _ (lo, hi') _ hh]
    exact setRow_heap W g cs _ _ _ hh
  refine ⟨_, lo, hi', hh2, by rw [setB_size]; simpa using h1, by simpa using h2, fun j hj => ?_⟩
  rw [setB_size] at hj
  by_cases e : i = j
  · subst e
    rw [Array.getElem?_setIfInBounds_self_of_lt (by omega), setB_same s i x hi hx]
  · rw [Array.getElem?_setIfInBounds_ne e, setB_other s i x j e]
    exact h3 j hj

theorem Row.back {W : World} {g : Nat} {s : ByteArray} (h : Row W g s) (cap : Nat) : (convert 35 9 (.slice (some ⟨g, 0, none⟩) s.size cap)).run Try.prog W = .ok (.string s) W := by
  have hl : s.data.toList.length = s.size := by simp
  have := run_convert_bytes_back (P := Try.prog) W 35 9 5 ⟨g, 0, none⟩ cap s.data.toList Try.underlying35 Try.underlying5 Try.underlying9 (fun j hj => by
    have hj2 : j < s.size := by rw [← hl]; exact hj
    have h1 := (h.facts j hj2).2
    have h2 : (⟨g, 0, none⟩ : Addr).add j = ⟨g, j, none⟩ := by rw [addr_add, Nat.zero_add]
    rw [h2, h1]
    have h3 : j < s.data.size := hj2
    unfold Crc.at'
    rw [Array.getElem?_eq_getElem h3]
    simp)
  rw [hl] at this
  exact this

theorem bytes_new (w : World) (s : ByteArray) : ∃ (cap : Nat) (W : World), (convert 9 35 (.string s)).run Try.prog w = .ok (.slice (some ⟨w.heap.size, 0, none⟩) s.size cap) W ∧ Below w.heap.size w W ∧ Row W w.heap.size s := by
  refine ⟨_, _, run_bytes_of_string w 9 35 5 s Try.underlying9 Try.underlying35 Try.underlying5, ((Below.refl _ w).drew).alloc (by simp) _, ?_⟩
  refine ⟨_, _, _, heap_alloc_new w.drew _, ?_, Nat.le_refl _, fun j hj => ?_⟩
  · unfold bytesRow
    rw [Array.size_append, Array.size_map]
    show s.data.size ≤ _
    omega
  · have hj2 : j < s.data.size := hj
    rw [bytesRow_at s _ j hj2]
    unfold Crc.at'
    rw [Array.getElem?_eq_getElem hj2]
    rfl

namespace Crc
theorem sh_par (c : Nat) (h : c < 65536) : sh c % 2 = if 32768 ≤ c then 1 else 0 := by
  by_cases hc : 32768 ≤ c
  · rw [sh_hi c hc, if_pos hc]
    have h2 : ((2 * c - 65536) ^^^ 4129) % 2 = ((2 * c - 65536) % 2) ^^^ (4129 % 2) := Nat.xor_mod_two_pow (n := 1)
    rw [h2, show (2 * c - 65536) % 2 = 0 by omega]
    decide
  · rw [sh_lo c hc, if_neg hc]; omega
theorem xor_inj (a b c : Nat) (h : a ^^^ c = b ^^^ c) : a = b := by
  have : (a ^^^ c) ^^^ c = (b ^^^ c) ^^^ c := by rw [h]
  rw [Nat.xor_assoc, Nat.xor_assoc, Nat.xor_self, Nat.xor_zero, Nat.xor_zero] at this
  exact this
theorem sh_inj (a b : Nat) (ha : a < 65536) (hb : b < 65536) (h : sh a = sh b) : a = b := by
  have pa := sh_par a ha
  have pb := sh_par b hb
  rw [h] at pa
  rw [pa] at pb
  by_cases h1 : 32768 ≤ a
  · by_cases h2 : 32768 ≤ b
    · rw [sh_hi a h1, sh_hi b h2] at h
      have := xor_inj _ _ _ h
      omega
    · rw [if_pos h1, if_neg h2] at pb; omega
  · by_cases h2 : 32768 ≤ b
    · rw [if_neg h1, if_pos h2] at pb; omega
    · rw [sh_lo a h1, sh_lo b h2] at h; omega
theorem shn_inj (a b : Nat) (ha : a < 65536) (hb : b < 65536) : ∀ k, shn a k = shn b k → a = b
  | 0, h => h
  | k + 1, h => shn_inj a b ha hb k (sh_inj _ _ (shn_lt a ha k) (shn_lt b hb k) h)
theorem one_diff (a b : ByteArray) (i : Nat) (hne : at' a i ≠ at' b i) (hs : ∀ j, j ≠ i → at' a j = at' b j) : ∀ n, (n ≤ i → crc a n = crc b n) ∧ (i < n → crc a n ≠ crc b n)
  | 0 => ⟨fun _ => rfl, fun h => by omega⟩
  | n + 1 => by
    obtain ⟨h1, h2⟩ := one_diff a b i hne hs n
    have la := xor_lt _ _ (crc_lt a n) (at_lt a n)
    have lb := xor_lt _ _ (crc_lt b n) (at_lt b n)
    refine ⟨fun h => ?_, fun h he => ?_⟩
    · show shn (crc a n ^^^ (at' a n * 256)) 8 = shn (crc b n ^^^ (at' b n * 256)) 8
      rw [h1 (by omega), hs n (by omega)]
    · have he2 : shn (crc a n ^^^ (at' a n * 256)) 8 = shn (crc b n ^^^ (at' b n * 256)) 8 := he
      have he3 := shn_inj _ _ la lb 8 he2
      by_cases e : n = i
      · subst e
        rw [h1 (Nat.le_refl _), Nat.xor_comm, Nat.xor_comm (crc b n)] at he3
        have := xor_inj _ _ _ he3
        omega
      · rw [hs n e] at he3
        exact h2 (by omega) (xor_inj _ _ _ he3)
end Crc

namespace Flit
theorem text_sum (k s : Nat) (b : ByteArray) : Crc.crc (text k s b) (text k s b).size = 0 := Crc.self (body k s b)
theorem txt_sum (k s : Int) (b : ByteArray) (h : ¬ (txt k s b).size = 0) : Crc.crc (txt k s b) (txt k s b).size = 0 := by
  unfold txt at h ⊢
  by_cases ho : ok k s b = true
  · rw [if_pos ho]; exact text_sum _ _ _
  · rw [if_neg ho] at h; exact absurd rfl h
theorem rd_sum (s : ByteArray) (h : rd s = true) : Crc.crc s s.size = 0 := by
  have h2 := of_decide_eq_true h
  have e : tx s = s := h2.2
  have h3 := txt_sum (kd s) (sq s) (bd s) (by show ¬ (tx s).size = 0; rw [e]; omega)
  change Crc.crc (tx s) (tx s).size = 0 at h3
  rw [e] at h3
  exact h3
/-- a byte changed: none any more -/
theorem one_byte (s : ByteArray) (hs : Crc.crc s s.size = 0) (i x : Nat) (hi : i < s.size) (hx : x < 256) (hne : Crc.at' s i ≠ x) : rd (setB s i x) = false := by
  cases h : rd (setB s i x)
  · rfl
  · have h1 := rd_sum _ h
    rw [setB_size] at h1
    have h2 := (Crc.one_diff (setB s i x) s i (by rw [setB_same s i x hi hx]; exact fun e => hne e.symm) (fun j hj => setB_other s i x j (fun e => hj e.symm)) s.size).2 hi
    exact absurd (h1.trans hs.symm) h2
theorem bit_ne (a k : Nat) : a ≠ a ^^^ 2 ^ k := by
  intro h
  have h2 : a ^^^ a = (a ^^^ 2 ^ k) ^^^ a := by rw [← h]
  rw [Nat.xor_self, Nat.xor_comm a, Nat.xor_assoc, Nat.xor_self, Nat.xor_zero] at h2
  have := Nat.two_pow_pos k
  omega
end Flit
end Go.Proofs.Ytbinjcmfbkhbjac
