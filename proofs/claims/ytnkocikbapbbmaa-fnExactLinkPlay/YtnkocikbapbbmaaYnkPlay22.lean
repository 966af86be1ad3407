/- LdT -/
import Derived.Test.YtnkocikbapbbmaaYnkPlay21
/- bytes of a text in a row of their own; a text with one bit turned: impl.textTurned, spec.l8Turn (the first part is FlT's and EcP's) -/
namespace Go.Proofs.Ytnkocikbapbbmaa
open Go.RowKit
set_option linter.unusedVariables false
set_option linter.unusedSimpArgs false

def Row (W : World) (g : Nat) (s : ByteArray) : Prop :=
  ∃ (cs : Array Value) (lo hi : Nat), W.heap[g]? = some (.cells cs 5 (lo, hi)) ∧ s.size ≤ cs.size ∧ cs.size ≤ lo ∧ ∀ j, j < s.size → cs[j]? = some (.int .u8 (Crc.at' s j))

theorem Row.facts {W : World} {g : Nat} {s : ByteArray} (h : Row W g s) (j : Nat) (hj : j < s.size) : W.frozen? ⟨g, j, none⟩ = false ∧ W.cell? ⟨g, j, none⟩ = some (.int .u8 (Crc.at' s j)) := by
  obtain ⟨cs, lo, hi, hh, h1, h2, h3⟩ := h
  refine ⟨?_, by rw [cell_of_row W g j cs _ _ hh]; exact h3 j hj⟩
  simp only [World.frozen?, hh]
  have : ¬ lo ≤ j := by omega
  simp [this]

def setB (s : ByteArray) (i x : Nat) : ByteArray := ⟨s.data.setIfInBounds i (UInt8.ofNat x)⟩
theorem setB_size (s : ByteArray) (i x : Nat) : (setB s i x).size = s.size := by show (s.data.setIfInBounds i _).size = s.data.size; simp
theorem setB_same (s : ByteArray) (i x : Nat) (hi : i < s.size) (hx : x < 256) : Crc.at' (setB s i x) i = x := by
  unfold Crc.at' setB
  have hi' : i < s.data.size := hi
  simp only
  rw [Array.getElem?_setIfInBounds_self_of_lt hi']
  simp [UInt8.toNat_ofNat']
  omega
theorem setB_other (s : ByteArray) (i x j : Nat) (h : i ≠ j) : Crc.at' (setB s i x) j = Crc.at' s j := by
  unfold Crc.at' setB
  simp only
  rw [Array.getElem?_setIfInBounds_ne h]

theorem Row.set {W : World} {g : Nat} {s : ByteArray} (h : Row W g s) (i x : Nat) (hi : i < s.size) (hx : x < 256) : Row (W.setCell ⟨g, i, none⟩ (.int .u8 (x : Int))) g (setB s i x) := by
  obtain ⟨cs, lo, hi', hh, h1, h2, h3⟩ := h
  have hh2 : (W.setCell ⟨g, i, none⟩ (.int .u8 (x : Int))).heap[g]? = some (.cells (cs.setIfInBounds i (.int .u8 (x : Int))) 5 (lo, hi')) := by
    rw [setCell_eq_setRow W g i cs _ (lo, hi') _ hh]
    exact setRow_heap W g cs _ _ _ hh
  refine ⟨_, lo, hi', hh2, by rw [setB_size]; simpa using h1, by simpa using h2, fun j hj => ?_⟩
  rw [setB_size] at hj
  by_cases e : i = j
  · subst e
    rw [Array.getElem?_setIfInBounds_self_of_lt (by omega), setB_same s i x hi hx]
  · rw [Array.getElem?_setIfInBounds_ne e, setB_other s i x j e]
    exact h3 j hj

theorem Row.back {W : World} {g : Nat} {s : ByteArray} (h : Row W g s) (cap : Nat) : (convert 84 9 (.slice (some ⟨g, 0, none⟩) s.size cap)).run Try.prog W = .ok (.string s) W := by
  have hl : s.data.toList.length = s.size := by simp
  have := run_convert_bytes_back (P := Try.prog) W 84 9 5 ⟨g, 0, none⟩ cap s.data.toList Try.underlying84 Try.underlying5 Try.underlying9 (fun j hj => by
    have hj2 : j < s.size := by rw [← hl]; exact hj
    have h1 := (h.facts j hj2).2
    have h2 : (⟨g, 0, none⟩ : Addr).add j = ⟨g, j, none⟩ := by rw [addr_add, Nat.zero_add]
    rw [h2, h1]
    have h3 : j < s.data.size := hj2
    unfold Crc.at'
    rw [Array.getElem?_eq_getElem h3]
    simp)
  rw [hl] at this
  exact this

theorem bytes_new (w : World) (s : ByteArray) : ∃ (cap : Nat) (W : World), (convert 9 84 (.string s)).run Try.prog w = .ok (.slice (some ⟨w.heap.size, 0, none⟩) s.size cap) W ∧ Below w.heap.size w W ∧ Row W w.heap.size s := by
  refine ⟨_, _, run_bytes_of_string w 9 84 5 s Try.underlying9 Try.underlying84 Try.underlying5, ((Below.refl _ w).drew).alloc (by simp) _, ?_⟩
  refine ⟨_, _, _, heap_alloc_new w.drew _, ?_, Nat.le_refl _, fun j hj => ?_⟩
  · unfold bytesRow
    rw [Array.size_append, Array.size_map]
    show s.data.size ≤ _
    omega
  · have hj2 : j < s.data.size := hj
    rw [bytesRow_at s _ j hj2]
    unfold Crc.at'
    rw [Array.getElem?_eq_getElem hj2]
    rfl

theorem pow_lt20 (k : Nat) (h : k < 20) : 2 ^ k < 1048576 := Nat.pow_lt_pow_of_lt (m := 20) (by decide) h

set_option maxHeartbeats 1000000 in
theorem l7Pow_any (b : Nat) (w : World) (hb : b < 20) : Calls Try.prog 75 #[.int .i64 b] w fun e w' => e = .returned (.int .i64 ((2 ^ b : Nat) : Int)) ∧ w' = w := by
  have HW := hide (fun k => pow_lt20 k)
  go_enter Try.func75, Try.ntmps75
  go_wp2
  go_loop [3, 4] (fun s i => ∃ (k p : Nat), k ≤ b ∧ i = .int .i64 k ∧ s = .int .i64 p ∧ p < 1048576 ∧ Hid (p = 2 ^ k)) (fun _ i => b - (intOf i).toNat)
  case atStart => exact ⟨0, 1, by omega, rfl, rfl, by omega, hide rfl⟩
  case round =>
    obtain ⟨k, p, hk, rfl, rfl, hp, HP⟩ := hrel
    by_cases hlt : k < b
    · go_wp2
      go_round
      case rel =>
        have e2 : 2 * p = 2 ^ (k + 1) := by rw [HP.out, Nat.pow_succ]; omega
        refine ⟨k + 1, 2 * p, by omega, by go_num, by go_num, ?_, hide e2⟩
        rw [e2]; exact HW.out (k + 1) (by omega)
      case measure => simp [intOf]; omega
    · have e : k = b := by omega
      subst e
      go_wp2
      go_ret
      exact ⟨ret_i (congrArg Nat.cast HP.out), rfl⟩


/-- a text with bit n turned -/
def trn (s : ByteArray) (n : Nat) : ByteArray := setB s (n / 8) (Crc.at' s (n / 8) ^^^ 2 ^ (n % 8))
theorem trn_size (s : ByteArray) (n : Nat) : (trn s n).size = s.size := setB_size _ _ _

set_option maxHeartbeats 4000000 in
theorem turn_any (s : ByteArray) (n : Nat) (w : World) (hs : s.size ≤ 100) (hn : n < 8 * s.size) : Calls Try.prog 65 #[.string s, .int .i64 n] w fun e w' => e = .returned (.string (trn s n)) ∧ Below w.heap.size w w' := by
  obtain ⟨cap, W, hcv, hbW, hrow⟩ := bytes_new w s
  obtain ⟨t, ht⟩ : ∃ t, trn s n = t := ⟨_, rfl⟩
  rw [ht]
  unfold trn at ht
  obtain ⟨j, hj⟩ : ∃ j, n / 8 = j := ⟨_, rfl⟩
  have hjs : j < s.size := by omega
  obtain ⟨m, hm⟩ : ∃ m, n % 8 = m := ⟨_, rfl⟩
  have hm8 : m < 8 := by omega
  rw [hj, hm] at ht
  have ej : (n : Int) / 8 = (j : Int) := by omega
  have em : (n : Int) % 8 = (m : Int) := by omega
  have hp := fun w => l7Pow_any m w (by omega)
  obtain ⟨fz, hc⟩ := hrow.facts j hjs
  have fz2 : W.drew.frozen? ⟨w.heap.size, j, none⟩ = false := fz
  have hc2 : W.drew.cell? ⟨w.heap.size, j, none⟩ = some (.int .u8 (Crc.at' s j)) := hc
  have hpm : 2 ^ m < 256 := Nat.pow_lt_pow_of_lt (m := 8) (by decide) hm8
  generalize 2 ^ m = pw at hp hpm ht
  have hN0 : 0 ≤ (n : Int) := by omega
  have hNs : (n : Int) < 1000 := by omega
  clear hj hm hn
  generalize (n : Int) = N at ej em hN0 hNs
  have hji : 0 ≤ (j : Int) ∧ (j : Int) < (s.size : Int) := by omega
  have q1 : N.tdiv 8 = (j : Int) := by rw [Int.tdiv_eq_ediv_of_nonneg hN0]; exact ej
  have q2 : N.tmod 8 = (m : Int) := by rw [Int.tmod_eq_emod_of_nonneg hN0]; exact em
  have q3 : IntKind.i64.wrap (j : Int) = (j : Int) := Ecc.i64_wrap j (by omega)
  have q4 : IntKind.i64.wrap (m : Int) = (m : Int) := Ecc.i64_wrap m (by omega)
  have hal := Crc.at_lt s j
  have hxl : Crc.at' s j ^^^ pw < 256 := Nat.xor_lt_two_pow (n := 8) hal hpm
  have HX : bits BinOp.xor IntKind.u8 (Crc.at' s j : Int) (IntKind.u8.wrap (pw : Int)) = ((Crc.at' s j ^^^ pw : Nat) : Int) := by
    have e : IntKind.u8.wrap (pw : Int) = (pw : Int) := by rw [IntKind.wrap_u8']; omega
    rw [e]
    exact u8_xor_nat _ _ hal hpm
  have hr2 := hrow.set j _ hjs hxl
  rw [← HX] at hr2
  have hr3 : Row (W.setCell ⟨w.heap.size, j, none⟩ (.int .u8 (bits BinOp.xor IntKind.u8 (Crc.at' s j : Int) (IntKind.u8.wrap (pw : Int))))).drew w.heap.size (setB s j (Crc.at' s j ^^^ pw)) := hr2
  have hback := hr3.back cap
  rw [setB_size] at hback
  have HB : Hid (∀ v, Below w.heap.size w (W.setCell ⟨w.heap.size, j, none⟩ v).drew) := hide (fun v => (hbW.setCell (Nat.le_refl _) v).drew)
  rw [ht] at hback
  clear hr2 hr3 HX hxl hal hrow hbW ht
  clear hpm
  go_enter Try.func65, Try.ntmps65
  go_wp2
  go_region_with (go_at_call 75; refine (hp _).mono ?_; rintro e w' ⟨rfl, rfl⟩)
  all_goals go_wp2
  all_goals go_ret
  all_goals exact ⟨rfl, HB.out _⟩

set_option maxHeartbeats 4000000 in
set_option maxRecDepth 20000 in
theorem textTurned_any (s : ByteArray) (n : Nat) (w : World) (hs : s.size ≤ 100) (hn : n < 8 * s.size) : Calls Try.prog 85 #[.string s, .int .i64 n] w fun e w' => e = .returned (.string (trn s n)) ∧ Below w.heap.size w w' := by
  obtain ⟨cap, W, hcv, hbW, hrow⟩ := bytes_new w s
  obtain ⟨t, ht⟩ : ∃ t, trn s n = t := ⟨_, rfl⟩
  rw [ht]
  unfold trn at ht
  obtain ⟨j, hj⟩ : ∃ j, n / 8 = j := ⟨_, rfl⟩
  have hjs : j < s.size := by omega
  obtain ⟨m, hm⟩ : ∃ m, n % 8 = m := ⟨_, rfl⟩
  have hm8 : m < 8 := by omega
  rw [hj, hm] at ht
  have ej : (n : Int) / 8 = (j : Int) := by omega
  have em : (n : Int) % 8 = (m : Int) := by omega
  have hp : (binOp BinOp.shl 5 (.int .u8 1) (.int .i64 (m : Int))).run Try.prog W.drew = .ok (.int .u8 ((2 ^ m : Nat) : Int)) W.drew := by
    clear hrow hcv hbW ht hjs ej
    have hm9 : m = 0 ∨ m = 1 ∨ m = 2 ∨ m = 3 ∨ m = 4 ∨ m = 5 ∨ m = 6 ∨ m = 7 := by omega
    rcases hm9 with rfl | rfl | rfl | rfl | rfl | rfl | rfl | rfl <;> rfl
  obtain ⟨fz, hc⟩ := hrow.facts j hjs
  have fz2 : W.drew.frozen? ⟨w.heap.size, j, none⟩ = false := fz
  have hc2 : W.drew.cell? ⟨w.heap.size, j, none⟩ = some (.int .u8 (Crc.at' s j)) := hc
  have hpm : 2 ^ m < 256 := Nat.pow_lt_pow_of_lt (m := 8) (by decide) hm8
  have hq : (2 : Int) ^ m % 256 = ((2 ^ m : Nat) : Int) := by
    have hm9 : m = 0 ∨ m = 1 ∨ m = 2 ∨ m = 3 ∨ m = 4 ∨ m = 5 ∨ m = 6 ∨ m = 7 := by omega
    clear hp ht hj hm hc hc2 fz fz2 hrow hcv hbW ej em
    rcases hm9 with rfl | rfl | rfl | rfl | rfl | rfl | rfl | rfl <;> rfl
  generalize 2 ^ m = pw at hp hpm ht hq
  have hN0 : 0 ≤ (n : Int) := by omega
  have hNs : (n : Int) < 1000 := by omega
  clear hj hm hn
  generalize (n : Int) = N at ej em hN0 hNs
  have hji : 0 ≤ (j : Int) ∧ (j : Int) < (s.size : Int) := by omega
  have q1 : N.tdiv 8 = (j : Int) := by rw [Int.tdiv_eq_ediv_of_nonneg hN0]; exact ej
  have q2 : N.tmod 8 = (m : Int) := by rw [Int.tmod_eq_emod_of_nonneg hN0]; exact em
  have q3 : IntKind.i64.wrap (j : Int) = (j : Int) := Ecc.i64_wrap j (by omega)
  have q4 : IntKind.i64.wrap (m : Int) = (m : Int) := Ecc.i64_wrap m (by omega)
  have hal := Crc.at_lt s j
  have hxl : Crc.at' s j ^^^ pw < 256 := Nat.xor_lt_two_pow (n := 8) hal hpm
  have HX : bits BinOp.xor IntKind.u8 (Crc.at' s j : Int) (pw : Int) = ((Crc.at' s j ^^^ pw : Nat) : Int) := by
    exact u8_xor_nat _ _ hal hpm
  have hr2 := hrow.set j _ hjs hxl
  rw [← HX] at hr2
  have hr3 : Row (W.setCell ⟨w.heap.size, j, none⟩ (.int .u8 (bits BinOp.xor IntKind.u8 (Crc.at' s j : Int) (pw : Int)))).drew w.heap.size (setB s j (Crc.at' s j ^^^ pw)) := hr2
  have hback := hr3.back cap
  rw [setB_size] at hback
  have HB : Hid (∀ v, Below w.heap.size w (W.setCell ⟨w.heap.size, j, none⟩ v).drew) := hide (fun v => (hbW.setCell (Nat.le_refl _) v).drew)
  rw [ht] at hback
  clear hr2 hr3 HX hxl hal hrow hbW ht
  have qm : ¬ ((m : Int) < 0) := by omega
  go_enter Try.func85, Try.ntmps85
  go_wp2
  go_region
  all_goals (try simp only [hq])
  all_goals go_wp2
  all_goals go_ret
  all_goals exact ⟨rfl, HB.out _⟩

end Go.Proofs.Ytnkocikbapbbmaa
