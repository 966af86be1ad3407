/- FlA, FlB -/
import Derived.Test.YtnkocikbapbbmaaYnkPlay11
import Derived.Deep.RegionWith
import Derived.Deep.QuietTactic
import Derived.BigQuiet
/- FlitOk -/
namespace Go.Proofs.Ytnkocikbapbbmaa
open Go.RowKit
set_option linter.unusedVariables false

namespace Flit
def ok (k s : Int) (b : ByteArray) : Bool := decide ((0 ≤ s ∧ s ≤ 1000000) ∧ ((k = 1 ∧ b.size ≤ 8) ∨ (k = 2 ∧ b.size = 0)))
end Flit

def emptyB (b : ByteArray) : Bool := decide (b.size = 0)
theorem loop_len (b : ByteArray) : ∀ (n i : Nat) (r : List UInt8), b.size - i = n → (ByteArray.toList.loop b i r).length = r.length + (b.size - i)
  | 0, i, r, h => by
    unfold ByteArray.toList.loop
    rw [if_neg (by omega)]
    rw [List.length_reverse]; omega
  | n + 1, i, r, h => by
    unfold ByteArray.toList.loop
    rw [if_pos (by omega), loop_len b n (i + 1) _ (by omega), List.length_cons]
    omega
theorem toList_len (b : ByteArray) : b.toList.length = b.size := by
  unfold ByteArray.toList
  rw [loop_len b b.size 0 [] rfl]; simp
theorem empty_eq (b : ByteArray) : b.toList.isEmpty = emptyB b := by
  unfold emptyB
  have h := toList_len b
  by_cases h0 : b.size = 0
  · rw [decide_eq_true h0]
    rw [h0] at h
    rw [List.eq_nil_of_length_eq_zero h]; rfl
  · rw [decide_eq_false h0]
    cases hl : b.toList with
    | nil => rw [hl] at h; exact absurd h.symm h0
    | cons x l => rfl

namespace Flit
theorem ok_seq {k s : Int} {b : ByteArray} (h : ¬ (0 ≤ s ∧ s ≤ 1000000)) : ok k s b = false := decide_eq_false (fun h2 => h h2.1)
theorem ok_one {s : Int} {b : ByteArray} (h : 0 ≤ s ∧ s ≤ 1000000) : ok 1 s b = decide (b.size ≤ 8) := by
  unfold ok
  by_cases h8 : b.size ≤ 8
  · rw [decide_eq_true h8]; exact decide_eq_true ⟨h, .inl ⟨rfl, h8⟩⟩
  · rw [decide_eq_false h8]; exact decide_eq_false (fun h2 => by rcases h2.2 with h3 | h3 <;> omega)
theorem ok_two {s : Int} {b : ByteArray} (h : 0 ≤ s ∧ s ≤ 1000000) : ok 2 s b = emptyB b := by
  unfold ok emptyB
  by_cases h8 : b.size = 0
  · rw [decide_eq_true h8]; exact decide_eq_true ⟨h, .inr ⟨rfl, h8⟩⟩
  · rw [decide_eq_false h8]; exact decide_eq_false (fun h2 => by rcases h2.2 with h3 | h3 <;> omega)
theorem ok_kind {k s : Int} {b : ByteArray} (h1 : ¬ k = 1) (h2 : ¬ k = 2) : ok k s b = false := decide_eq_false (fun h => by rcases h.2 with h3 | h3 <;> omega)
end Flit

set_option maxHeartbeats 400000 in
theorem bodyOk_any (b : ByteArray) (w : World) : Calls Try.prog 63 #[.string b] w fun e w' => e = .returned (.bool (decide (b.size ≤ 8))) ∧ w' = w := by
  have HE : Hid (decide ((b.size : Int) ≤ 8) = decide (b.size ≤ 8)) := hide (by
    by_cases h : b.size ≤ 8
    · rw [decide_eq_true h]; exact decide_eq_true (by omega)
    · rw [decide_eq_false h]; exact decide_eq_false (by omega))
  go_enter Try.func63, Try.ntmps63
  go_wp2
  go_ret
  exact ⟨ret_b HE.out, rfl⟩

set_option maxHeartbeats 1000000 in
theorem implFlitOk_any (k s : Int) (b : ByteArray) (w : World) : Calls Try.prog 90 #[.agg #[.int .i64 k, .int .i64 s, .string b]] w fun e w' => e = .returned (.bool (Flit.ok k s b)) ∧ Below w.heap.size w w' := by
  have hb := fun w => bodyOk_any b w
  have HB := hide ((Below.refl _ w).alloc (Nat.le_refl _) (.cells #[.int .i64 k, .int .i64 s, .string b] 88))
  by_cases hs : 0 ≤ s ∧ s ≤ 1000000
  · by_cases h1 : k = 1
    · subst h1
      rw [Flit.ok_one hs]
      generalize decide (b.size ≤ 8) = r at hb
      go_enter Try.func90, Try.ntmps90
      go_wp2_with (go_at_call 63; refine (hb _).mono ?_; rintro e w' ⟨rfl, rfl⟩)
      go_ret
      exact ⟨rfl, HB.out⟩
    · by_cases h2 : k = 2
      · subst h2
        rw [Flit.ok_two hs]
        have HE := hide (empty_eq b)
        clear h1
        go_enter Try.func90, Try.ntmps90
        go_wp2
        go_ret
        exact ⟨ret_b HE.out, HB.out⟩
      · rw [Flit.ok_kind h1 h2]
        have q1 : (k == 1) = false := by simp; omega
        have q2 : (k == 2) = false := by simp; omega
        clear h1 h2
        go_enter Try.func90, Try.ntmps90
        go_wp2
        go_ret
        exact ⟨rfl, HB.out⟩
  · rw [Flit.ok_seq hs]
    have h : s < 0 ∨ 1000000 < s := by omega
    clear hs
    rcases h with h | h
    all_goals go_enter Try.func90, Try.ntmps90
    all_goals go_wp2
    all_goals go_ret
    all_goals exact ⟨rfl, HB.out⟩

set_option maxHeartbeats 1000000 in
theorem specFlitOk_any (k s : Int) (b : ByteArray) (w : World) : Calls Try.prog 89 #[.agg #[.int .i64 k, .int .i64 s, .string b]] w fun e w' => e = .returned (.bool (Flit.ok k s b)) ∧ Below w.heap.size w w' := by
  have hi := fun w => l1In_any s 1000000 w
  have HB := hide ((Below.refl _ w).alloc (Nat.le_refl _) (.cells #[.int .i64 k, .int .i64 s, .string b] 88))
  by_cases hs : 0 ≤ s ∧ s ≤ 1000000
  · rw [inR_yes hs.1 hs.2] at hi
    by_cases h8 : b.size ≤ 8
    · by_cases h1 : k = 1
      · subst h1
        rw [Flit.ok_one hs, decide_eq_true h8]
        go_enter Try.func89, Try.ntmps89
        go_wp2_with (go_at_call 31; refine (hi _).mono ?_; rintro e w' ⟨rfl, rfl⟩)
        go_ret
        exact ⟨rfl, HB.out⟩
      · by_cases h2 : k = 2
        · subst h2
          rw [Flit.ok_two hs]
          have HE := hide (empty_eq b)
          clear h1
          go_enter Try.func89, Try.ntmps89
          go_wp2_with (go_at_call 31; refine (hi _).mono ?_; rintro e w' ⟨rfl, rfl⟩)
          go_ret
          exact ⟨ret_b HE.out, HB.out⟩
        · rw [Flit.ok_kind h1 h2]
          have q1 : (k == 1) = false := by simp; omega
          have q2 : (k == 2) = false := by simp; omega
          clear h1 h2
          go_enter Try.func89, Try.ntmps89
          go_wp2_with (go_at_call 31; refine (hi _).mono ?_; rintro e w' ⟨rfl, rfl⟩)
          go_ret
          exact ⟨rfl, HB.out⟩
    · have e : Flit.ok k s b = false := decide_eq_false (fun h => by rcases h.2 with h3 | h3 <;> omega)
      rw [e]
      clear e
      go_enter Try.func89, Try.ntmps89
      go_wp2_with (go_at_call 31; refine (hi _).mono ?_; rintro e w' ⟨rfl, rfl⟩)
      go_ret
      exact ⟨rfl, HB.out⟩
  · rw [Flit.ok_seq hs]
    rw [inR_no hs] at hi
    clear hs
    go_enter Try.func89, Try.ntmps89
    go_wp2_with (go_at_call 31; refine (hi _).mono ?_; rintro e w' ⟨rfl, rfl⟩)
    go_ret
    exact ⟨rfl, HB.out⟩

end Go.Proofs.Ytnkocikbapbbmaa

/- szFlit, toFlit, eqFlit -/
namespace Go.Proofs.Ytnkocikbapbbmaa
open Go.RowKit
set_option linter.unusedVariables false
set_option linter.unusedSimpArgs false

end Go.Proofs.Ytnkocikbapbbmaa
