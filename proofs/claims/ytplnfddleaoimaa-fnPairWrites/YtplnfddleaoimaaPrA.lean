/- pairs of mirrors, the small things: numbers within bounds, a side, two lists held against one another -/
import Derived.Test.YtplnfddleaoimaaC
import Derived.Test.YtplnfddleaoimaaChA
import Derived.Test.YtplnfddleaoimaaChecked
import Derived.WalkSmall
import Derived.Deep.RegionHeld3
namespace Go.Proofs.Ytplnfddleaoimaa
open Go.RowKit
set_option linter.unusedVariables false
set_option linter.unusedSimpArgs false

theorem ret_b {a b : Bool} (h : a = b) : Ending.returned (.bool a) = .returned (.bool b) := by rw [h]
/-- from lo on, below hi -/
def inB (n lo hi : Int) : Bool := decide (lo ≤ n ∧ n < hi)

set_option maxHeartbeats 1000000 in
theorem isBelow_any (n c : Int) (w : World) : Calls Try.prog 47 #[.int .i64 n, .int .i64 c] w fun e w' => e = .returned (.bool (inB n 0 c)) ∧ w' = w := by
  by_cases h0 : 0 ≤ n
  · by_cases h1 : n < c
    · have HO : Hid (true = inB n 0 c) := hide (by simp [inB, h0, h1])
      go_enter Try.func47, Try.ntmps47
      go_wp2
      go_ret
      exact ⟨ret_b HO.out, rfl⟩
    · have HO : Hid (false = inB n 0 c) := hide (by simp [inB, h1])
      go_enter Try.func47, Try.ntmps47
      go_wp2
      go_ret
      exact ⟨ret_b HO.out, rfl⟩
  · have HO : Hid (false = inB n 0 c) := hide (by simp [inB, h0])
    go_enter Try.func47, Try.ntmps47
    go_wp2
    go_ret
    exact ⟨ret_b HO.out, rfl⟩

set_option maxHeartbeats 1000000 in
theorem isValue_any (n : Int) (w : World) : Calls Try.prog 32 #[.int .i64 n] w fun e w' => e = .returned (.bool (inB n 0 1000001)) ∧ w' = w := by
  by_cases h0 : 0 ≤ n
  · by_cases h1 : n ≤ 1000000
    · have HO : Hid (true = inB n 0 1000001) := hide (by simp [inB, h0]; omega)
      go_enter Try.func32, Try.ntmps32
      go_wp2
      go_ret
      exact ⟨ret_b HO.out, rfl⟩
    · have HO : Hid (false = inB n 0 1000001) := hide (by simp [inB]; omega)
      go_enter Try.func32, Try.ntmps32
      go_wp2
      go_ret
      exact ⟨ret_b HO.out, rfl⟩
  · have HO : Hid (false = inB n 0 1000001) := hide (by simp [inB, h0])
    go_enter Try.func32, Try.ntmps32
    go_wp2
    go_ret
    exact ⟨ret_b HO.out, rfl⟩

set_option maxHeartbeats 1000000 in
theorem sideLen_any (n : Int) (w : World) : Calls Try.prog 43 #[.int .i64 n] w fun e w' => e = .returned (.bool (inB n 1 5)) ∧ w' = w := by
  by_cases h0 : 1 ≤ n
  · by_cases h1 : n ≤ 4
    · have HO : Hid (true = inB n 1 5) := hide (by simp [inB, h0]; omega)
      go_enter Try.func43, Try.ntmps43
      go_wp2
      go_ret
      exact ⟨ret_b HO.out, rfl⟩
    · have HO : Hid (false = inB n 1 5) := hide (by simp [inB]; omega)
      go_enter Try.func43, Try.ntmps43
      go_wp2
      go_ret
      exact ⟨ret_b HO.out, rfl⟩
  · have HO : Hid (false = inB n 1 5) := hide (by simp [inB]; omega)
    go_enter Try.func43, Try.ntmps43
    go_wp2
    go_ret
    exact ⟨ret_b HO.out, rfl⟩

set_option maxHeartbeats 1000000 in
theorem l1In_any (n lo hi : Int) (w : World) (hh : hi < 9223372036854775807) : Calls Try.prog 35 #[.int .i64 n, .int .i64 lo, .int .i64 hi] w fun e w' => e = .returned (.bool (inB n lo (hi + 1))) ∧ w' = w := by
  by_cases h0 : lo ≤ n
  · by_cases h1 : n ≤ hi
    · have HO : Hid (true = inB n lo (hi + 1)) := hide (by simp [inB, h0]; omega)
      go_enter Try.func35, Try.ntmps35
      go_wp2
      go_ret
      exact ⟨ret_b HO.out, rfl⟩
    · have HO : Hid (false = inB n lo (hi + 1)) := hide (by simp [inB]; omega)
      go_enter Try.func35, Try.ntmps35
      go_wp2
      go_ret
      exact ⟨ret_b HO.out, rfl⟩
  · have HO : Hid (false = inB n lo (hi + 1)) := hide (by simp [inB, h0])
    go_enter Try.func35, Try.ntmps35
    go_wp2
    go_ret
    exact ⟨ret_b HO.out, rfl⟩

theorem all_no {n k : Nat} {p : Nat → Bool} (hk : k < n) (h : p k = false) : decide (∀ j, j < n → p j = true) = false := by
  apply decide_eq_false
  intro h2
  rw [h2 k hk] at h
  cases h

/-- all are values -/
def allV (zs : List Int) : Bool := decide (∀ j, j < zs.length → inB (zs.getD j 0) 0 1000001 = true)
/-- a side is right -/
def sideB (zs : List Int) (up : Bool) : Bool := if up then inB zs.length 1 5 && allV zs else decide (zs.length = 0)
def pairB (zl zr : List Int) (lu ru : Bool) : Bool := sideB zl lu && sideB zr ru && (!lu || !ru || decide (zl = zr))

set_option maxHeartbeats 1000000 in
theorem sideOk_any (v : Value) (zs : List Int) (up : Bool) (w : World) (hs : Sl w v zs) (hl : zs.length ≤ 1048576) :
    Calls Try.prog 38 #[v, .bool up] w fun e w' => e = .returned (.bool (sideB zs up)) ∧ w' = w := by
  obtain ⟨ad, cap, rfl, hs⟩ := hs
  cases up with
  | false =>
    by_cases h : zs.length = 0
    · have HO : Hid (true = sideB zs false) := hide (by simp [sideB, h])
      rw [h]
      clear hs
      go_enter Try.func38, Try.ntmps38
      go_wp2
      go_ret
      exact ⟨ret_b HO.out, rfl⟩
    · have HO : Hid (false = sideB zs false) := hide (by simp [sideB, h])
      have hne : ((zs.length : Int) == 0) = false := by simp; intro e; exact h (by simp [e])
      generalize zs.length = n at *
      clear hs
      go_enter Try.func38, Try.ntmps38
      go_wp2
      go_ret
      first | exact ⟨ret_b HO.out, rfl⟩ | exact ⟨ret_b (hne.trans HO.out), rfl⟩
  | true =>
    have hA := fun w => sideLen_any zs.length w
    have HO : Hid (inB zs.length 1 5 = false → false = sideB zs true) := hide (fun h => by simp [sideB, h])
    have HO2 : Hid (inB zs.length 1 5 = true → ∀ k, k < zs.length → inB (zs.getD k 0) 0 1000001 = false → false = sideB zs true) := hide (fun h k hk hf => by
      simp only [sideB, h, allV, all_no (p := fun j => inB (zs.getD j 0) 0 1000001) hk hf]; rfl)
    have HO3 : Hid (inB zs.length 1 5 = true → (∀ k, k < zs.length → inB (zs.getD k 0) 0 1000001 = true) → true = sideB zs true) := hide (fun h hf => by
      simp only [sideB, h, allV, decide_eq_true hf]; rfl)
    generalize inB zs.length 1 5 = r at hA HO HO2 HO3
    generalize sideB zs true = res at HO HO2 HO3 ⊢
    generalize hn : zs.length = n at hA HO HO2 HO3 hl hs ⊢
    clear hn
    cases r with
    | false =>
      clear HO2 HO3 hs
      go_enter Try.func38, Try.ntmps38
      go_wp2_with fail
      refine (hA _).mono ?_
      rintro e w1 ⟨rfl, rfl⟩
      go_wp2
      go_ret
      exact ⟨ret_b (HO.out (by first | rfl | trivial)), rfl⟩
    | true =>
      clear HO
      go_enter Try.func38, Try.ntmps38
      go_wp2_with fail
      refine (hA _).mono ?_
      rintro e w1 ⟨rfl, rfl⟩
      clear hA
      go_wp2
      go_loop [18] (fun i => ∃ k : Nat, k ≤ n ∧ i = .int .i64 k ∧ Hid (∀ j, j < k → inB (zs.getD j 0) 0 1000001 = true)) (fun i => n - (intOf i).toNat)
      case atStart => exact ⟨0, Nat.zero_le _, rfl, hide (fun j hj => by omega)⟩
      case round =>
        obtain ⟨k, hk, rfl, HA⟩ := hrel
        by_cases hlt : k < n
        · obtain ⟨p, off, rfl, hc⟩ := hs (by omega)
          have hck := hc k hlt
          have hV := fun w => isValue_any (zs.getD k 0) w
          have HN : Hid (inB (zs.getD k 0) 0 1000001 = false → false = res) := hide (fun h => HO2.out (by first | rfl | trivial) k hlt h)
          have HY : Hid (inB (zs.getD k 0) 0 1000001 = true → ∀ j, j < k + 1 → inB (zs.getD j 0) 0 1000001 = true) := hide (fun h j hj => by
            by_cases e : j = k
            · rw [e]; exact h
            · exact HA.out j (by omega))
          generalize inB (zs.getD k 0) 0 1000001 = b at hV HN HY
          generalize zs.getD k 0 = z at hck hV
          clear hc hs HA HO2 HO3
          go_wp2_with fail
          refine (hV _).mono ?_
          rintro e w2 ⟨rfl, rfl⟩
          clear hV
          cases b
          · go_wp2
            go_ret
            exact ⟨ret_b (HN.out (by first | rfl | trivial)), rfl⟩
          · go_wp2
            go_round
            case rel => exact ⟨k + 1, by omega, by go_num, hide (HY.out (by first | rfl | trivial))⟩
            case measure => simp [intOf]; omega
        · have e : k = n := by omega
          subst e
          clear hs
          go_wp2
          go_ret
          exact ⟨ret_b (HO3.out (by first | rfl | trivial) HA.out), rfl⟩

theorem list_ne {xs ys : List Int} {k : Nat} (h : xs.getD k 0 ≠ ys.getD k 0) : ¬ xs = ys := fun e => h (by rw [e])
theorem list_eq {xs ys : List Int} (hl : xs.length = ys.length) (h : ∀ k, k < xs.length → xs.getD k 0 = ys.getD k 0) : xs = ys := by
  apply List.ext_getElem hl
  intro i h1 h2
  have := h i h1
  simpa [h1, h2] using this

set_option maxHeartbeats 1000000 in
theorem equal_any (a b : Value) (xs ys : List Int) (w : World) (ha : Sl w a xs) (hb : Sl w b ys) (hl : xs.length ≤ 1048576) :
    Calls Try.prog 39 #[a, b] w fun e w' => e = .returned (.bool (decide (xs = ys))) ∧ Below w.heap.size w w' := by
  obtain ⟨ad, cap, rfl, ha⟩ := ha
  obtain ⟨bd, cbp, rfl, hb⟩ := hb
  by_cases hn : xs.length = ys.length
  · have HN : Hid (∀ k, k < xs.length → xs.getD k 0 ≠ ys.getD k 0 → false = decide (xs = ys)) := hide (fun k _ h => (decide_eq_false (list_ne h)).symm)
    have HY : Hid ((∀ k, k < xs.length → xs.getD k 0 = ys.getD k 0) → true = decide (xs = ys)) := hide (fun h => (decide_eq_true (list_eq hn h)).symm)
    rw [← hn] at hb ⊢
    generalize decide (xs = ys) = res at HN HY ⊢
    generalize xs.length = n at *
    clear hn
    go_enter Try.func39, Try.ntmps39
    go_wp2
    go_loopw [13] (fun i wr => ∃ k : Nat, k ≤ n ∧ i = .int .i64 k ∧ Below w.heap.size w wr ∧ Hid (∀ j, j < k → xs.getD j 0 = ys.getD j 0)) (fun i _ => n - (intOf i).toNat)
    case atStart => exact ⟨0, Nat.zero_le _, rfl, Below.refl _ _, hide (fun j hj => by omega)⟩
    case round =>
      obtain ⟨k, hk, rfl, hbk, HA⟩ := hrel
      by_cases hlt : k < n
      · obtain ⟨p, off, rfl, hc⟩ := ha (by omega)
        obtain ⟨q, off', rfl, hd⟩ := hb (by omega)
        have hck := Below.keep hbk _ _ (hc k hlt)
        have hdk := Below.keep hbk _ _ (hd k hlt)
        have HN1 : Hid (xs.getD k 0 ≠ ys.getD k 0 → false = res) := hide (HN.out k hlt)
        have HY1 : Hid (xs.getD k 0 = ys.getD k 0 → ∀ j, j < k + 1 → xs.getD j 0 = ys.getD j 0) := hide (fun h j hj => by
          by_cases e : j = k
          · rw [e]; exact h
          · exact HA.out j (by omega))
        generalize xs.getD k 0 = x at hck HN1 HY1
        generalize ys.getD k 0 = y at hdk HN1 HY1
        clear hc hd ha hb HN HY HA
        by_cases hxy : x = y
        · subst hxy
          have HY2 := hide (HY1.out rfl)
          clear HY1 HN1
          go_wp2
          go_quiet (fail)
          all_goals go_wp2
          all_goals go_roundw
          case rel => exact ⟨k + 1, by omega, by go_num, below_drewN hbk _, HY2⟩
          case measure => simp [intOf]; omega
        · have HO := hide (HN1.out hxy)
          clear HN1 HY1
          go_wp2
          go_quiet (fail)
          all_goals go_wp2
          all_goals go_ret
          all_goals exact ⟨ret_b HO.out, below_drewN hbk _⟩
      · have e : k = n := by omega
        subst e
        clear ha hb
        go_wp2
        go_ret
        exact ⟨ret_b (HY.out HA.out), hbk⟩
  · have HO : Hid (false = decide (xs = ys)) := hide (by symm; apply decide_eq_false; intro e; exact hn (by rw [e]))
    have hne : ¬ ((xs.length : Int) = (ys.length : Int)) := by omega
    generalize xs.length = n at *
    generalize ys.length = m at *
    clear ha hb
    go_enter Try.func39, Try.ntmps39
    go_wp2
    go_ret
    exact ⟨ret_b HO.out, Below.refl _ _⟩

end Go.Proofs.Ytplnfddleaoimaa
