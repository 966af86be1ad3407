/- LmA -/
import Derived.Test.YtnkocikbapbbmaaYnkPlay35
import Derived.Lib.ItoaNum
/- laws.markText; rows of texts and of wires marked, marks found -/
namespace Go.Proofs.Ytnkocikbapbbmaa
open Go.RowKit
set_option linter.unusedVariables false
set_option linter.unusedSimpArgs false

/-- digits already written, behind what is left -/
def digK (u : Nat) (l : List UInt8) : List UInt8 := if u = 0 then l else Lib.decDigits u ++ l
theorem digK_step (u : Nat) (h : 0 < u) (l : List UInt8) : digK u l = digK (u / 10) ([UInt8.ofNat (48 + u % 10)] ++ l) := by
  unfold digK
  by_cases h10 : u < 10
  · rw [if_neg (by omega), if_pos (by omega), Lib.decDigits, dif_pos h10, show u % 10 = u by omega]
  · rw [if_neg (by omega), if_neg (by omega), Lib.decDigits, dif_neg h10, List.append_assoc]
/-- the text of a mark -/
def mT (z : Int) : ByteArray := ⟨#[109]⟩ ++ ⟨(Lib.decDigits z.toNat).toArray⟩
theorem pow_stepM {v j : Nat} (hj : j ≤ 7) (h : v < 10 ^ (7 - j)) (h0 : 0 < v) : j + 1 ≤ 7 ∧ v / 10 < 10 ^ (7 - (j + 1)) := by
  have e : j = 0 ∨ j = 1 ∨ j = 2 ∨ j = 3 ∨ j = 4 ∨ j = 5 ∨ j = 6 ∨ j = 7 := by omega
  rcases e with rfl | rfl | rfl | rfl | rfl | rfl | rfl | rfl <;> simp at h ⊢ <;> omega
theorem pow_leM {v j : Nat} (h : v < 10 ^ (7 - j)) : (v : Int) ≤ 9999999 := by
  have h1 : 10 ^ (7 - j) ≤ 10 ^ 7 := Nat.pow_le_pow_right (by decide) (by omega)
  have h2 : (10 : Nat) ^ 7 = 10000000 := by decide
  omega
theorem ret_strM {a b : ByteArray} (h : a = b) : Ending.returned (.string a) = .returned (.string b) := by rw [h]
theorem conv_oneM (w : World) (c : UInt8) (n : Int) (h : n = (c.toNat : Int)) :
    (convert 84 9 (.slice (some ⟨w.heap.size, 0, none⟩) 1 1)).run Try.prog (w.alloc (.cells #[.int .u8 n] 5)) = .ok (.string ⟨#[c]⟩) (w.alloc (.cells #[.int .u8 n] 5)) := by
  subst h
  exact run_convert_bytes_back (P := Try.prog) (w.alloc (.cells #[.int .u8 (c.toNat : Int)] 5)) 84 9 5 ⟨w.heap.size, 0, none⟩ 1 [c] Try.underlying84 Try.underlying5 Try.underlying9 (fun j hj => by
    match j, hj with
    | 0, _ => simp [Addr.add])
theorem digit_byteM (v : Nat) : ((UInt8.ofNat (48 + v % 10)).toNat : Int) = 48 + ((v : Int) % 10) := by
  have : (UInt8.ofNat (48 + v % 10)).toNat = 48 + v % 10 := by
    simp [UInt8.toNat_ofNat']
    omega
  rw [this]; omega
theorem app_listM (c : UInt8) (b : ByteArray) : ((⟨#[c]⟩ : ByteArray) ++ b).data.toList = [c] ++ b.data.toList := by
  rw [ByteArray.data_append]; simp
theorem app_sizeM (c : UInt8) (b : ByteArray) : ((⟨#[c]⟩ : ByteArray) ++ b).size = 1 + b.size := by
  rw [ByteArray.size_append]; rfl

set_option maxRecDepth 20000 in
set_option maxHeartbeats 1000000 in
theorem markText_core (u : Nat) (z0 : Int) (hz0 : z0 = (u : Int)) (w : World) (hu : u < 10 ^ 7) (hp : 0 < z0) :
    Calls Try.prog 49 #[.int .i64 z0] w fun e w' => e = .returned (.string (mT z0)) ∧ Below w.heap.size w w' := by
  have HU := hide (And.intro hz0 (And.intro hu hp))
  have hd : decide (z0 ≤ 0) = false := decide_eq_false (by omega)
  clear hz0 hu hp
  go_enter Try.func49, Try.ntmps49
  go_wp2
  clear hd
  go_loopw [0, 3] (fun n s wr => ∃ (z : Int) (v j : Nat) (b : ByteArray), n = .int .i64 z ∧ s = .string b ∧ 0 ≤ z ∧ z ≤ 9999999 ∧ j ≤ 7 ∧ b.size ≤ 7 ∧ Hid (z = (v : Int) ∧ b.size = j ∧ digK v b.data.toList = Lib.decDigits u ∧ v < 10 ^ (7 - j)) ∧ Below w.heap.size w wr) (fun n _ _ => (intOf n).toNat)
  case atStart => exact ⟨z0, u, 0, ⟨#[]⟩, rfl, rfl, by have := HU.out.2.2; omega, by rw [HU.out.1]; exact pow_leM (j := 0) HU.out.2.1, by decide, by decide, hide ⟨HU.out.1, rfl, by have := HU.out.2.2; have := HU.out.1; unfold digK; rw [if_neg (by omega)]; simp, HU.out.2.1⟩, Below.refl _ _⟩
  case round =>
    obtain ⟨z, v, j, b, rfl, rfl, hz, hz9, hj, hbs, HR, hb⟩ := hrel
    have HB := hide (hb.alloc hb.size (.cells #[.int .u8 (48 + z % 10)] 5))
    have HB' := hide hb
    clear hb
    by_cases hlt : 0 < z
    · have hcv := conv_oneM wr (UInt8.ofNat (48 + v % 10)) (48 + z % 10) (by rw [digit_byteM, HR.out.1])
      have HS := hide (pow_stepM hj HR.out.2.2.2 (by have := HR.out.1; omega))
      have hadd : ∀ W : World, (Op.stringOp .add ⟨#[UInt8.ofNat (48 + v % 10)]⟩ b).run Try.prog W = .ok (.string (⟨#[UInt8.ofNat (48 + v % 10)]⟩ ++ b)) W := fun W => run_string_add_sum (w := W) _ b (by have : (⟨#[UInt8.ofNat (48 + v % 10)]⟩ : ByteArray).size = 1 := rfl; omega)
      generalize hc : (⟨#[UInt8.ofNat (48 + v % 10)]⟩ : ByteArray) = cc at hcv hadd
      have HC := hide hc
      clear hc
      go_wp2
      go_roundw
      case rel =>
        refine ⟨z / 10, v / 10, j + 1, cc ++ b, rfl, rfl, by omega, by omega, HS.out.1, ?_, hide ⟨?_, ?_, ?_, HS.out.2⟩, HB.out⟩
        · rw [← HC.out, app_sizeM]; have := HR.out.2.1; have := HS.out.1; omega
        · rw [HR.out.1]; omega
        · rw [← HC.out, app_sizeM, HR.out.2.1]; omega
        · rw [← HC.out, app_listM, ← HR.out.2.2.1]
          exact (digK_step v (by have := HR.out.1; omega) _).symm
      case measure => simp [intOf]; omega
    · have hadd : ∀ W : World, (Op.stringOp .add ⟨#[109]⟩ b).run Try.prog W = .ok (.string (⟨#[109]⟩ ++ b)) W := fun W => run_string_add_sum (w := W) _ b (by have : (⟨#[109]⟩ : ByteArray).size = 1 := rfl; omega)
      generalize hc : (⟨#[109]⟩ : ByteArray) = cc at hadd ⊢
      have HC := hide hc
      clear hc
      go_wp2
      go_ret
      refine ⟨ret_strM ?_, HB'.out⟩
      have h1 : b.data.toList = Lib.decDigits u := by
        have := HR.out.2.2.1
        unfold digK at this
        rwa [if_pos (by have := HR.out.1; omega)] at this
      unfold mT
      rw [HC.out, show z0.toNat = u by have := HU.out.1; omega, ← h1]
theorem markText_any (z : Int) (w : World) (h0 : 0 < z) (h1 : z ≤ 9999999) :
    Calls Try.prog 49 #[.int .i64 z] w fun e w' => e = .returned (.string (mT z)) ∧ Below w.heap.size w w' :=
  markText_core z.toNat z (by omega) w (by have h2 : (10 : Nat) ^ 7 = 10000000 := by decide
                                           omega) h0

set_option maxHeartbeats 4000000 in
theorem markS_gen (a : Option Addr) (g off n c : Nat) (k0 : Int) (I : Nat → World → Prop) (w : World) (hn : n ≤ 1048576) (h0 : 0 < k0) (h1 : k0 ≤ 8000000) (ha : 0 < n → a = some ⟨g, off, none⟩) (hI : I 0 w)
    (hst : ∀ j W, j < n → I j W → W.frozen? ⟨g, off + j, none⟩ = false ∧ (∃ o, W.cell? ⟨g, off + j, none⟩ = some o) ∧ g < W.heap.size ∧ ∀ W2, Below W.heap.size W W2 → I (j + 1) (W2.setCell ⟨g, off + j, none⟩ (.string (mT (k0 + j))))) :
    Calls Try.prog 43 #[.slice a n c, .int .i64 k0] w fun e w' => e = .returned (.int .i64 (k0 + n)) ∧ I n w' := by
  go_enter Try.func43, Try.ntmps43
  go_wp2
  go_loopw [1, 5] (fun t i wr => ∃ j : Nat, j ≤ n ∧ i = .int .i64 j ∧ t = .int .i64 (k0 + j) ∧ I j wr) (fun _ i _ => n - (intOf i).toNat)
  case atStart => exact ⟨0, Nat.zero_le _, rfl, by simp, hI⟩
  case round =>
    obtain ⟨j, hj, rfl, rfl, hIj⟩ := hrel
    by_cases hlt : j < n
    · obtain ⟨hf, ⟨o, hc⟩, hgl, hnx⟩ := hst j wr hlt hIj
      obtain rfl := ha (by omega)
      have HN := hide hnx
      have HT := hide (fun W => markText_any (k0 + j) W (by omega) (by omega))
      clear hnx hIj hI hst ha
      generalize mT (k0 + j) = tx at HN HT
      go_wp2_with fail
      refine (HT.out _).mono ?_
      rintro e W2 ⟨rfl, hb⟩
      have c2 := keepc hb hc
      have f2 : W2.frozen? ⟨g, off + j, none⟩ = false := by
        rw [World.frozen?_of_block (a := ⟨g, off + j, none⟩) (hb.block g hgl)]; exact hf
      have HI := hide (HN.out W2 hb)
      clear HN HT hf hc hb
      go_wp2
      go_roundw
      case rel => exact ⟨j + 1, by omega, by go_num, by go_num, HI.out⟩
      case measure => simp [intOf]; omega
    · have e : j = n := by omega
      subst e
      have HI := hide hIj
      clear hst hI hIj
      go_wp2
      go_ret
      exact ⟨rfl, HI.out⟩

theorem keep1M {w W W' : World} {p0 : Addr} {x0 : Value} (h : Below w.heap.size w W ∧ W.cell? p0 = some x0) (hb : Below W.heap.size W W') : Below w.heap.size w W' ∧ W'.cell? p0 = some x0 := ⟨h.1.trans (hb.mono h.1.size), keepc hb h.2⟩
set_option maxHeartbeats 4000000 in
theorem heldS_any (v : Value) (n : Nat) (k0 : Int) (w : World) (hn : n ≤ 1048576) (h0 : 0 < k0) (h1 : k0 ≤ 8000000) (hs : Sg w v 1 n (tF (fun j => mT (k0 + j)))) :
    Calls Try.prog 45 #[v, .int .i64 k0] w fun e w' => e = .returned (.int .i64 (k0 + n)) ∧ Below w.heap.size w w' := by
  obtain ⟨a, c, rfl, hs⟩ := hs
  go_enter Try.func45, Try.ntmps45
  go_wp2
  go_loopw [1, 5] (fun t i wr => ∃ j : Nat, j ≤ n ∧ i = .int .i64 j ∧ t = .int .i64 (k0 + j) ∧ Below w.heap.size w wr) (fun _ i _ => n - (intOf i).toNat)
  case atStart => exact ⟨0, Nat.zero_le _, rfl, by simp, Below.refl _ _⟩
  case round =>
    obtain ⟨j, hj, rfl, rfl, hb⟩ := hrel
    by_cases hlt : j < n
    · obtain ⟨g, off, rfl, hc⟩ := hs (by omega)
      have q0 : wr.cell? ⟨g, off + j, none⟩ = some (.string (mT (k0 + j))) := by
        have := hc j hlt 0 (by omega)
        rw [Nat.mul_one, Nat.add_zero] at this
        exact keepc hb this
      have HT := hide (fun W => markText_any (k0 + j) W (by omega) (by omega))
      have HB := hide hb
      have hss : ((mT (k0 + j)).toList == (mT (k0 + j)).toList) = true := str_self _
      clear hs hc hb
      generalize mT (k0 + j) = tx at HT q0 hss
      have hk0 : (0 : Int) ≤ (j : Int) := by omega
      have hk1 : (j : Int) < (n : Int) := by omega
      have hbk := HB.out
      go_wp2
      go_region_held3 (fun w' => Below w.heap.size w w' ∧ w'.cell? ⟨g, off + j, none⟩ = some (.string tx)) (first | exact ⟨hbk.drew, q0⟩ | exact keep1M (by assumption) hbc) (first | (go_at_call 49; refine (HT.out _).mono ?_; rintro e w2 ⟨rfl, hbc⟩))
      all_goals go_wp2
      all_goals rename_i hS
      go_roundw
      case rel => exact ⟨j + 1, by omega, by go_num, by go_num, hS.1⟩
      case measure => simp [intOf]; omega
    · have e : j = n := by omega
      subst e
      have HB := hide hb
      clear hs hb
      go_wp2
      go_ret
      exact ⟨rfl, HB.out⟩

end Go.Proofs.Ytnkocikbapbbmaa
