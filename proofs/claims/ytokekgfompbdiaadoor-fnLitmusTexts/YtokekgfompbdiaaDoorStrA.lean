/- strings of bytes; '+'; spec.l1Dec (written by mkStr.py) -/
import Derived.Test.YtokekgfompbdiaaDoorTsS
import Derived.Test.YtokekgfompbdiaaDoorChA
import Derived.Lib.ItoaNum
import Derived.Deep.RegionHeld3
namespace Go.Proofs.YtokekgfompbdiaaDoor
open Go.RowKit
set_option linter.unusedVariables false
set_option linter.unusedSimpArgs false

/-- digits already written, behind what is left -/
def decRest (u : Nat) (l : List UInt8) : List UInt8 := Lib.decDigits u ++ l
theorem decRest_step (u : Nat) (h : ¬ u < 10) (l : List UInt8) : decRest u l = decRest (u / 10) ([UInt8.ofNat (48 + u % 10)] ++ l) := by
  unfold decRest
  rw [Lib.decDigits, dif_neg h, List.append_assoc]
theorem decRest_end (u : Nat) (h : u < 10) (l : List UInt8) : decRest u l = [UInt8.ofNat (48 + u)] ++ l := by
  unfold decRest
  rw [Lib.decDigits, dif_pos h]

theorem pow_step {v j : Nat} (hj : j ≤ 6) (h : v < 10 ^ (7 - j)) (h10 : 10 ≤ v) : j + 1 ≤ 6 ∧ v / 10 < 10 ^ (7 - (j + 1)) := by
  have e : j = 0 ∨ j = 1 ∨ j = 2 ∨ j = 3 ∨ j = 4 ∨ j = 5 ∨ j = 6 := by omega
  rcases e with rfl | rfl | rfl | rfl | rfl | rfl | rfl <;> simp at h ⊢ <;> omega

theorem pow_le {v j : Nat} (h : v < 10 ^ (7 - j)) : (v : Int) ≤ 9999999 := by
  have h1 : 10 ^ (7 - j) ≤ 10 ^ 7 := Nat.pow_le_pow_right (by decide) (by omega)
  have h2 : (10 : Nat) ^ 7 = 10000000 := by decide
  omega

theorem ret_str {a b : ByteArray} (h : a = b) : Ending.returned (.string a) = .returned (.string b) := by rw [h]

/-- 'string([]byte{c})' -/
theorem conv_one (w : World) (c : UInt8) (n : Int) (h : n = (c.toNat : Int)) :
    (convert 22 9 (.slice (some ⟨w.heap.size, 0, none⟩) 1 1)).run Tryd.prog (w.alloc (.cells #[.int .u8 n] 5)) = .ok (.string ⟨#[c]⟩) (w.alloc (.cells #[.int .u8 n] 5)) := by
  subst h
  exact run_convert_bytes_back (P := Tryd.prog) (w.alloc (.cells #[.int .u8 (c.toNat : Int)] 5)) 22 9 5 ⟨w.heap.size, 0, none⟩ 1 [c] Tryd.underlying22 Tryd.underlying5 Tryd.underlying9 (fun j hj => by
    match j, hj with
    | 0, _ => simp [Addr.add])

theorem digit_byte (v : Nat) : ((UInt8.ofNat (48 + v % 10)).toNat : Int) = 48 + ((v : Int) % 10) := by
  have : (UInt8.ofNat (48 + v % 10)).toNat = 48 + v % 10 := by
    simp [UInt8.toNat_ofNat']
    omega
  rw [this]; omega

theorem app_list (c : UInt8) (b : ByteArray) : ((⟨#[c]⟩ : ByteArray) ++ b).data.toList = [c] ++ b.data.toList := by
  rw [ByteArray.data_append]; simp
theorem app_size (c : UInt8) (b : ByteArray) : ((⟨#[c]⟩ : ByteArray) ++ b).size = 1 + b.size := by
  rw [ByteArray.size_append]; rfl

set_option maxRecDepth 20000 in
set_option maxHeartbeats 1000000 in
theorem l1Dec_core (u : Nat) (z0 : Int) (hz0 : z0 = (u : Int)) (w : World) (hu : u < 10 ^ 7) :
    Calls Tryd.prog 36 #[.int .i64 z0] w fun e w' => e = .returned (.string ⟨(Lib.decDigits u).toArray⟩) ∧ Below w.heap.size w w' := by
  have HU := hide (And.intro hz0 hu)
  clear hz0 hu
  go_enter Tryd.func36, Tryd.ntmps36
  go_wp2
  go_loopw [0, 3] (fun n s wr => ∃ (z : Int) (v j : Nat) (b : ByteArray), n = .int .i64 z ∧ s = .string b ∧ 0 ≤ z ∧ z ≤ 9999999 ∧ j ≤ 6 ∧ b.size ≤ 6 ∧ Hid (z = (v : Int) ∧ b.size = j ∧ decRest v b.data.toList = Lib.decDigits u ∧ v < 10 ^ (7 - j)) ∧ Below w.heap.size w wr) (fun n _ _ => (intOf n).toNat)
  case atStart => exact ⟨z0, u, 0, ⟨#[]⟩, rfl, rfl, by rw [HU.out.1]; omega, by rw [HU.out.1]; exact pow_le (j := 0) HU.out.2, by decide, by decide, hide ⟨HU.out.1, rfl, by simp [decRest], HU.out.2⟩, Below.refl _ _⟩
  case round =>
    obtain ⟨z, v, j, b, rfl, rfl, hz, hz9, hj, hbs, HR, hb⟩ := hrel
    have HB := hide (hb.alloc hb.size (.cells #[.int .u8 (48 + z % 10)] 5))
    have HB' := hide (hb.alloc hb.size (.cells #[.int .u8 (48 + z)] 5))
    clear hb
    by_cases hlt : 10 ≤ z
    · have hcv := conv_one wr (UInt8.ofNat (48 + v % 10)) (48 + z % 10) (by rw [digit_byte, HR.out.1])
      have hadd : ∀ W : World, (Op.stringOp .add ⟨#[UInt8.ofNat (48 + v % 10)]⟩ b).run Tryd.prog W = .ok (.string (⟨#[UInt8.ofNat (48 + v % 10)]⟩ ++ b)) W := fun W => run_string_add_sum (w := W) _ b (by have : (⟨#[UInt8.ofNat (48 + v % 10)]⟩ : ByteArray).size = 1 := rfl; omega)
      have HS := hide (pow_step hj HR.out.2.2.2 (by have := HR.out.1; omega))
      generalize hc : (⟨#[UInt8.ofNat (48 + v % 10)]⟩ : ByteArray) = cc at hcv hadd
      have HC := hide hc
      clear hc
      go_wp2
      go_roundw
      case rel =>
        refine ⟨z / 10, v / 10, j + 1, cc ++ b, rfl, rfl, by omega, by omega, HS.out.1, ?_, hide ⟨?_, ?_, ?_, HS.out.2⟩, HB.out⟩
        · rw [← HC.out, app_size]; have := HR.out.2.1; have := HS.out.1; omega
        · rw [HR.out.1]; omega
        · rw [← HC.out, app_size, HR.out.2.1]; omega
        · rw [← HC.out, app_list, ← HR.out.2.2.1]
          exact (decRest_step v (by have := HR.out.1; omega) _).symm
      case measure => simp [intOf]; omega
    · have hv10 : v < 10 := by have := HR.out.1; omega
      have hvm : v % 10 = v := by omega
      have hcv := conv_one wr (UInt8.ofNat (48 + v % 10)) (48 + z) (by rw [digit_byte, HR.out.1]; omega)
      have hadd : ∀ W : World, (Op.stringOp .add ⟨#[UInt8.ofNat (48 + v % 10)]⟩ b).run Tryd.prog W = .ok (.string (⟨#[UInt8.ofNat (48 + v % 10)]⟩ ++ b)) W := fun W => run_string_add_sum (w := W) _ b (by have : (⟨#[UInt8.ofNat (48 + v % 10)]⟩ : ByteArray).size = 1 := rfl; omega)
      generalize hc : (⟨#[UInt8.ofNat (48 + v % 10)]⟩ : ByteArray) = cc at hcv hadd
      have HC := hide hc
      have HV := hide (And.intro hv10 hvm)
      clear hc hv10 hvm
      go_wp2
      go_ret
      refine ⟨ret_str ?_, HB'.out⟩
      have e : (cc ++ b) = ⟨(Lib.decDigits u).toArray⟩ := by
        have h1 : (cc ++ b).data.toList = Lib.decDigits u := by
          rw [← HC.out, app_list, ← HR.out.2.2.1, decRest_end v HV.out.1, HV.out.2]
        cases hx : (cc ++ b) with
        | mk d => rw [hx] at h1; simp only at h1; rw [← h1]
      exact e

theorem l1Dec_any (z : Int) (w : World) (h0 : 0 ≤ z) (h1 : z ≤ 1000000) :
    Calls Tryd.prog 36 #[.int .i64 z] w fun e w' => e = .returned (.string ⟨(Lib.decDigits z.toNat).toArray⟩) ∧ Below w.heap.size w w' :=
  l1Dec_core z.toNat z (by omega) w (by have h2 : (10 : Nat) ^ 7 = 10000000 := by decide
                                        omega)

/-- a string of these bytes -/
def bstr (l : List UInt8) : ByteArray := ⟨l.toArray⟩
theorem bstr_size (l : List UInt8) : (bstr l).size = l.length := by simp [bstr, ByteArray.size]
theorem bstr_app (a b : List UInt8) : bstr a ++ bstr b = bstr (a ++ b) := by
  apply ByteArray.ext
  rw [ByteArray.data_append]
  simp [bstr]
theorem bstr_list (l : List UInt8) : (bstr l).data.toList = l := by simp [bstr]

/-- '+' on short strings -/
theorem add_ok {a b : List UInt8} (h : a.length + b.length ≤ 1000) (W : World) : (Op.stringOp .add (bstr a) (bstr b)).run Tryd.prog W = .ok (.string (bstr (a ++ b))) W := by
  rw [← bstr_app]
  exact run_string_add_sum (w := W) _ _ (by rw [bstr_size, bstr_size]; omega)

theorem dec_short (z : Int) (h1 : z ≤ 1000000) : (Lib.decDigits z.toNat).length ≤ 7 := by
  rw [Lib.decDigits_length]
  have step : ∀ (k u : Nat), u < 10 ^ (k + 1) → Lib.nDigits u ≤ k + 1 := by
    intro k
    induction k with
    | zero => intro u hu; rw [Lib.nDigits_small (by simpa using hu)]; omega
    | succ k ih =>
      intro u hu
      by_cases h : u < 10
      · rw [Lib.nDigits_small h]; omega
      · rw [Lib.nDigits_big h]
        have h2 : u / 10 < 10 ^ (k + 1) := by
          rw [Nat.div_lt_iff_lt_mul (by decide)]
          rw [Nat.pow_succ] at hu
          exact hu
        have := ih _ h2
        omega
  exact step 6 z.toNat (by have h2 : (10 : Nat) ^ (6 + 1) = 10000000 := by decide
                           omega)

/-- the digits of a number from 0 to a million -/
def dec (z : Int) : List UInt8 := Lib.decDigits z.toNat
theorem dec_len {z : Int} (h1 : z ≤ 1000000) : (dec z).length ≤ 7 := dec_short z h1
theorem dec_any (z : Int) (w : World) (h0 : 0 ≤ z) (h1 : z ≤ 1000000) :
    Calls Tryd.prog 36 #[.int .i64 z] w fun e w' => e = .returned (.string (bstr (dec z))) ∧ Below w.heap.size w w' := l1Dec_any z w h0 h1

end Go.Proofs.YtokekgfompbdiaaDoor
