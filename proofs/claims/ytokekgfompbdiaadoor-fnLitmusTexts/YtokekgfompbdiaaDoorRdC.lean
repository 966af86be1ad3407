/- off -/
import Derived.Test.YtokekgfompbdiaaDoorRdB
namespace Go.Proofs.YtokekgfompbdiaaDoor
open Go.RowKit

/-- a block more -/
theorem grown_alloc (w : World) (o : Obj) (row : Option Nat) : w.grownBy (w.alloc o) row := by
  have h := (Below.refl w.heap.size w).alloc (Nat.le_refl _) o
  exact ⟨h.os, h.tape, h.output, h.size, fun k hk _ => h.block k hk⟩

/-- four numbers in a new block are still there behind the reader's steps -/
theorem four_there {w1 w2 : World} {g : Nat} {a b c d : Int} (hlt : g < w1.heap.size) (hg : (w1.alloc (.cells #[.int .i64 a, .int .i64 b, .int .i64 c, .int .i64 d] 2)).grownBy w2 (some g)) (j : Nat) (hj : j < 4) : ∃ z, w2.cell? ⟨w1.heap.size, j, none⟩ = some (.int .i64 z) := by
  have h1 := hg.block w1.heap.size (by simp) (by simp; omega)
  rw [heap_alloc_new] at h1
  have h2 := cell_of_row w2 w1.heap.size j _ _ _ h1
  match j, hj with
  | 0, _ => exact ⟨a, h2⟩
  | 1, _ => exact ⟨b, h2⟩
  | 2, _ => exact ⟨c, h2⟩
  | 3, _ => exact ⟨d, h2⟩

set_option maxHeartbeats 2000000 in
theorem off_any (g : Nat) (lo hi : Int) (w : World) (h : Rdr w g) (h1 : -1048575 ≤ lo) (h2 : lo ≤ hi) (h3 : hi ≤ 1099511627776) :
    Calls Tryd.prog 29 #[.pointer (some ⟨g, 0, none⟩), .int .i64 lo, .int .i64 hi] w fun e w' => ∃ c : Int, e = .returned (.int .i64 c) ∧ Rdr w' g ∧ w.grownBy w' (some g) := by
  go_enter Tryd.func29, Tryd.ntmps29
  go_wp2_with fail
  refine (once_any g 24 _ h (by decide) (by decide)).mono ?_
  rintro e w1 ⟨b, rfl, hr1, hg1⟩
  clear h
  cases b with
  | false =>
    go_wp2_with fail
    refine (near_any g lo hi _ hr1 (by omega) h2 h3).mono ?_
    rintro e w2 ⟨c, rfl, hc0, hc1, hr2, hg2⟩
    have HF := hide (And.intro hr2 (grown_trans hg1 hg2))
    clear hr1 hg1 hr2 hg2
    go_wp2
    go_ret
    exact ⟨c, rfl, HF.out.1, HF.out.2⟩
  | true =>
    go_wp2_with fail
    refine (below_any g 4 _ (hr1.grown (grown_alloc _ _ none) (fun k hk => by cases hk)) (by decide) (by decide)).mono ?_
    rintro e w2 ⟨c, rfl, hc0, hc4, hr2, hg2⟩
    obtain ⟨j, rfl⟩ := Int.eq_ofNat_of_zero_le hc0
    obtain ⟨z, hz⟩ := four_there hr1.lt hg2 j (by omega)
    have HF := hide (And.intro hr2 (grown_trans hg1 (grown_trans (grown_alloc _ _ _) hg2)))
    clear hr1 hg1 hr2 hg2
    go_wp2
    go_ret
    exact ⟨z, rfl, HF.out.1, HF.out.2⟩

end Go.Proofs.YtokekgfompbdiaaDoor
