/- the reader's hurt() -/
import Derived.Test.YtokekgfompbdiaaDoorRgS
import Derived.Deep.RegionWith
import Derived.Deep.QuietTactic
import Derived.BigQuiet
namespace Go.Proofs.YtokekgfompbdiaaDoor
open Go.RowKit
set_option linter.unusedVariables false
set_option linter.unusedSimpArgs false

theorem add_free (a b : ByteArray) (h : a.size + b.size ≤ 4000) : ∀ W : World, (Op.stringOp .add a b).run Tryd.prog W = .ok (.string (a ++ b)) W :=
  fun W => run_string_add_sum (w := W) _ _ (by omega)

theorem open_base {w w1 w2 : World} {g : Nat} (hg : w.heap.size ≤ g) (hb : Below w.heap.size w w1) (h2 : w1.grownBy w2 (some g)) : Below w.heap.size w w2 := below_read hb h2 hg hb.size

theorem i64w (n : Nat) (h : n < 9223372036854775808) : IntKind.i64.wrap (n : Int) = n := by
  simp [IntKind.wrap, IntKind.bits, IntKind.signed]; omega

theorem strs_there {w1 w2 : World} {g : Nat} {cs : Array Value} {t : TypeId} (hlt : g < w1.heap.size) (hg : (w1.alloc (.cells cs t)).grownBy w2 (some g)) (hcs : ∀ j, j < cs.size → ∃ b : ByteArray, cs[j]? = some (.string b) ∧ b.size ≤ 9) (j : Nat) (hj : j < cs.size) :
    ∃ b : ByteArray, w2.cell? ⟨w1.heap.size, j, none⟩ = some (.string b) ∧ b.size ≤ 9 := by
  have h1 := hg.block w1.heap.size (by simp) (by simp; omega)
  rw [heap_alloc_new] at h1
  have h2 := cell_of_row w2 w1.heap.size j _ _ _ h1
  obtain ⟨b, e, hb⟩ := hcs j hj
  exact ⟨b, by rw [h2]; exact e, hb⟩

def lit5 : Array Value := #[.string ⟨#[48]⟩, .string ⟨#[49]⟩, .string ⟨#[32]⟩, .string ⟨#[120]⟩, .string ⟨#[57]⟩]
theorem lit5_at (i : Nat) (h : i < 5) : ∃ z : ByteArray, lit5[i]? = some (.string z) ∧ z.size ≤ 9 := by
  match i, h with
  | 0, _ => exact ⟨_, rfl, by decide⟩
  | 1, _ => exact ⟨_, rfl, by decide⟩
  | 2, _ => exact ⟨_, rfl, by decide⟩
  | 3, _ => exact ⟨_, rfl, by decide⟩
  | 4, _ => exact ⟨_, rfl, by decide⟩
theorem lit5_new (W : World) (i : Nat) (z : ByteArray) (h : lit5[i]? = some (.string z)) : (W.alloc (.cells lit5 9)).cell? ⟨W.heap.size, i, none⟩ = some (.string z) := by
  rw [cell_of_row _ _ i _ _ _ (heap_alloc_new W (.cells lit5 9))]; exact h
theorem lit5_there {w1 w2 : World} {g : Nat} (hlt : g < w1.heap.size) (hg : (w1.alloc (.cells lit5 9)).grownBy w2 (some g)) (i : Nat) (z : ByteArray) (h : lit5[i]? = some (.string z)) : w2.cell? ⟨w1.heap.size, i, none⟩ = some (.string z) := by
  have h1 := hg.block w1.heap.size (by simp) (by simp; omega)
  rw [heap_alloc_new] at h1
  rw [cell_of_row w2 w1.heap.size i _ _ _ h1]; exact h

theorem grown_drew {w w2 : World} {row : Option Nat} (h : w.drew.grownBy w2 row) : w.grownBy w2 row := grown_trans (grown_drewN w 1 row) h
theorem rdr_drew {w : World} {g : Nat} (h : Rdr w g) : Rdr w.drew g := h.grown (grown_drewN w 1 none) (fun k hk => by cases hk)
theorem hurt_call1 (g j : Nat) (s : ByteArray) (w2 : World) (hr2 : Rdr w2 g) (hs : s.size ≤ 400) : Calls Tryd.prog 40 #[.pointer (some ⟨g, 0, none⟩), .int .i64 5] (w2.alloc (.cells #[.string ⟨#[48]⟩, .string ⟨#[49]⟩, .string ⟨#[32]⟩, .string ⟨#[120]⟩, .string ⟨#[57]⟩] 9)).drew
    fun e w3 => ∃ (i : Nat) (z : ByteArray), e = .returned (.int .i64 i) ∧ i < 5 ∧ w3.cell? ⟨w2.heap.size, i, none⟩ = some (.string z) ∧ (∀ W : World, (Op.stringOp .add (s.extract 0 j) z).run Tryd.prog W = .ok (.string (s.extract 0 j ++ z)) W) ∧ (∀ W : World, (Op.stringOp .add (s.extract 0 j ++ z) (s.extract (j + 1) s.size)).run Tryd.prog W = .ok (.string (s.extract 0 j ++ z ++ s.extract (j + 1) s.size)) W) ∧ Hid ((s.extract 0 j ++ z ++ s.extract (j + 1) s.size).size ≤ 800 ∧ Rdr w3 g ∧ w2.grownBy w3 (some g)) := by
  refine (below_any g 5 _ (rdr_drew (hr2.grown (grown_alloc w2 (.cells lit5 9) none) (fun k hk => by cases hk))) (by decide) (by decide)).mono ?_
  rintro e w3 ⟨cc, rfl, hc0, hc4, hr3, hg3⟩
  obtain ⟨i5, rfl⟩ := Int.eq_ofNat_of_zero_le hc0
  obtain ⟨z, hzl, hz9⟩ := lit5_at i5 (by omega)
  have hg4 : (w2.alloc (.cells lit5 9)).grownBy w3 (some g) := grown_drew hg3
  exact ⟨i5, z, rfl, by omega, lit5_there hr2.lt hg4 i5 z hzl, add_free _ _ (by rw [ByteArray.size_extract]; omega), add_free _ _ (by rw [ByteArray.size_append, ByteArray.size_extract, ByteArray.size_extract]; omega), hide ⟨by rw [ByteArray.size_append, ByteArray.size_append, ByteArray.size_extract, ByteArray.size_extract]; omega, hr3, grown_trans (grown_alloc _ _ _) hg4⟩⟩
theorem hurt_call2 (g j : Nat) (s : ByteArray) (w2 : World) (hr2 : Rdr w2 g) (hs : s.size ≤ 400) : Calls Tryd.prog 40 #[.pointer (some ⟨g, 0, none⟩), .int .i64 5] w2.drew
    fun e w3 => ∃ (i : Nat) (z : ByteArray), e = .returned (.int .i64 i) ∧ i < 5 ∧ (w3.alloc (.cells #[.string ⟨#[48]⟩, .string ⟨#[49]⟩, .string ⟨#[32]⟩, .string ⟨#[120]⟩, .string ⟨#[57]⟩] 9)).cell? ⟨w3.heap.size, i, none⟩ = some (.string z) ∧ (∀ W : World, (Op.stringOp .add (s.extract 0 j) z).run Tryd.prog W = .ok (.string (s.extract 0 j ++ z)) W) ∧ (∀ W : World, (Op.stringOp .add (s.extract 0 j ++ z) (s.extract (j + 1) s.size)).run Tryd.prog W = .ok (.string (s.extract 0 j ++ z ++ s.extract (j + 1) s.size)) W) ∧ Hid ((s.extract 0 j ++ z ++ s.extract (j + 1) s.size).size ≤ 800 ∧ Rdr (w3.alloc (.cells #[.string ⟨#[48]⟩, .string ⟨#[49]⟩, .string ⟨#[32]⟩, .string ⟨#[120]⟩, .string ⟨#[57]⟩] 9)) g ∧ w2.grownBy (w3.alloc (.cells #[.string ⟨#[48]⟩, .string ⟨#[49]⟩, .string ⟨#[32]⟩, .string ⟨#[120]⟩, .string ⟨#[57]⟩] 9)) (some g)) := by
  refine (below_any g 5 _ (rdr_drew hr2) (by decide) (by decide)).mono ?_
  rintro e w3 ⟨cc, rfl, hc0, hc4, hr3, hg3⟩
  obtain ⟨i5, rfl⟩ := Int.eq_ofNat_of_zero_le hc0
  obtain ⟨z, hzl, hz9⟩ := lit5_at i5 (by omega)
  have hg4 : w2.grownBy w3 (some g) := grown_drew hg3
  exact ⟨i5, z, rfl, by omega, lit5_new w3 i5 z hzl, add_free _ _ (by rw [ByteArray.size_extract]; omega), add_free _ _ (by rw [ByteArray.size_append, ByteArray.size_extract, ByteArray.size_extract]; omega), hide ⟨by rw [ByteArray.size_append, ByteArray.size_append, ByteArray.size_extract, ByteArray.size_extract]; omega, hr3.grown (grown_alloc _ _ none) (fun k hk => by cases hk), grown_trans hg4 (grown_alloc _ _ _)⟩⟩

set_option maxHeartbeats 8000000 in
theorem hurt_any (g : Nat) (s : ByteArray) (w : World) (h : Rdr w g) (hs : s.size ≤ 400) :
    Calls Tryd.prog 26 #[.pointer (some ⟨g, 0, none⟩), .string s] w fun e w' => ∃ t : ByteArray, e = .returned (.string t) ∧ t.size ≤ 800 ∧ Rdr w' g ∧ w.grownBy w' (some g) := by
  go_enter Tryd.func26, Tryd.ntmps26
  go_wp2_with fail
  refine (below_any g 6 _ h (by decide) (by decide)).mono ?_
  rintro e w1 ⟨c, rfl, hc0, hc4, hr1, hg1⟩
  clear h
  have hcc : c = 0 ∨ c = 1 ∨ c = 2 ∨ c = 3 ∨ c = 4 ∨ c = 5 := by omega
  clear hc0 hc4
  rcases hcc with rfl | rfl | rfl | rfl | rfl | rfl
  · go_wp2
    go_ret
    exact ⟨s, rfl, by omega, hr1, hg1⟩
  · go_wp2_with fail
    refine (below_any g ((s.size : Int) + 1) _ hr1 (by omega) (by omega)).mono ?_
    rintro e w2 ⟨c, rfl, hc0, hc4, hr2, hg2⟩
    obtain ⟨j, rfl⟩ := Int.eq_ofNat_of_zero_le hc0
    have hj : j ≤ s.size := by omega
    have HF := hide (And.intro hr2 (grown_trans hg1 hg2))
    clear hr1 hg1 hr2 hg2 hc4
    go_wp2
    go_ret
    refine ⟨_, rfl, ?_, HF.out⟩
    rw [ByteArray.size_extract]; omega
  · by_cases h0 : 0 < s.size
    · go_wp2_with fail
      refine (below_any g (s.size : Int) _ hr1 (by omega) (by omega)).mono ?_
      rintro e w2 ⟨c, rfl, hc0, hc4, hr2, hg2⟩
      obtain ⟨j, rfl⟩ := Int.eq_ofNat_of_zero_le hc0
      have hj : j < s.size := by omega
      have HG := hide (grown_trans hg1 hg2)
      have hlt2 := hr2.lt
      have hja : 0 ≤ (j : Int) ∧ (j : Int) ≤ (s.size : Int) := by omega
      have hjb : 0 ≤ (j : Int) + 1 ∧ (j : Int) + 1 ≤ (s.size : Int) := by omega
      clear hr1 hg1 hg2 hc4
      go_wp2
      have q5 : IntKind.i64.wrap ((j : Int) + 1) = (j : Int) + 1 := i64w (j + 1) (by omega)
      have q6 : ((j : Int) + 1).toNat = j + 1 := by omega
      have q7 : (j : Int) + 1 ≤ (s.size : Int) := by omega
      have q8 : ¬ (s.size : Int) < (j : Int) + 1 := by omega
      have q9 : ¬ ((j : Int) + 1 < 0) := by omega
      have c1 := hurt_call1 g j s w2 hr2 hs
      have c2 := hurt_call2 g j s w2 hr2 hs
      go_region_with (go_at_call 40; first | (refine c1.mono ?_; rintro e w3 ⟨i5, z, rfl, hi5, hz, hadd1, hadd2, HZ⟩) | (refine c2.mono ?_; rintro e w3 ⟨i5, z, rfl, hi5, hz, hadd1, hadd2, HZ⟩))
      all_goals simp only [Act.put, List.getElem_toArray, List.getElem_cons_zero, List.getElem_cons_succ, List.setIfInBounds_toArray, List.set_cons_zero, List.set_cons_succ]
      all_goals go_wp2
      all_goals go_ret
      all_goals refine ⟨s.extract 0 j ++ z ++ s.extract (j + 1) s.size, ?_, HZ.out.1, HZ.out.2.1, grown_trans HG.out HZ.out.2.2⟩
      all_goals first | rfl | simp
    · go_wp2
      go_ret
      exact ⟨s, rfl, by omega, hr1, hg1⟩
  · go_wp2_with fail
    refine (below_any g 3 _ (hr1.grown (grown_alloc _ _ none) (fun k hk => by cases hk)) (by decide) (by decide)).mono ?_
    rintro e w2 ⟨c, rfl, hc0, hc4, hr2, hg2⟩
    obtain ⟨j, rfl⟩ := Int.eq_ofNat_of_zero_le hc0
    obtain ⟨z, hz, hz9⟩ := strs_there hr1.lt hg2 (by
      intro j hj
      have hj6 : j < 3 := hj
      match j, hj6 with
      | 0, _ => exact ⟨_, rfl, by decide⟩
      | 1, _ => exact ⟨_, rfl, by decide⟩
      | 2, _ => exact ⟨_, rfl, by decide⟩) j (by show j < 3; omega)
    have HF := hide (And.intro hr2 (grown_trans hg1 (grown_trans (grown_alloc _ _ _) hg2)))
    have hadd := add_free s z (by omega)
    have HZ : Hid ((s ++ z).size ≤ 800) := hide (by rw [ByteArray.size_append]; omega)
    generalize s ++ z = sz at hadd HZ
    clear hr1 hg1 hr2 hg2
    go_wp2
    go_ret
    exact ⟨sz, rfl, HZ.out, HF.out⟩
  · go_wp2
    go_ret
    exact ⟨s, rfl, by omega, hr1, hg1⟩
  · go_wp2
    go_ret
    exact ⟨s, rfl, by omega, hr1, hg1⟩

end Go.Proofs.YtokekgfompbdiaaDoor
