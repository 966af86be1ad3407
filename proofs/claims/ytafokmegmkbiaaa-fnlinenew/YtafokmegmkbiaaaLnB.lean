/- DrawLineNew; sameLine and impl.LineOk of a new line (written by mkLnB.py) -/
import Derived.Test.YtafokmegmkbiaaaLnA
import Derived.Test.YtafokmegmkbiaaaRdE
namespace Go.Proofs.Ytafokmegmkbiaaa
open Go.RowKit

set_option maxHeartbeats 1000000 in
theorem drawLineNew_any (ad : Option Addr) (n cap : Nat) (w : World) (hb : Bt w ad n) (hn : n ≤ 1048576) :
    Calls Try.prog 18 #[.slice ad n cap] w fun e w' => ∃ m, e = .returned (.int .i64 m) ∧ Below w.heap.size w w' := by
  go_enter Try.func18, Try.ntmps18
  go_wp2_with fail
  refine (open_any ad n cap _ hb hn).mono ?_
  rintro e w1 ⟨g, rfl, hg1, hr1, hb1⟩
  clear hb
  go_wp2_with fail
  refine (off_any g 0 1000000 _ hr1 (by decide) (by decide) (by decide)).mono ?_
  rintro e w2 ⟨c, rfl, hr2, hg2⟩
  have HF := hide (below_read hb1 hg2 hg1 hb1.size)
  clear hr1 hb1 hr2 hg2 hg1
  go_wp2
  go_ret
  exact ⟨c, rfl, HF.out⟩

set_option maxHeartbeats 400000 in
theorem sameInts_none (w : World) : Calls Try.prog 53 #[.slice none 0 0, .slice none 0 0] w fun e w' => e = .returned (.bool true) ∧ w' = w := by
  go_enter Try.func53, Try.ntmps53
  go_wp2
  go_loop [5] (fun i => i = .int .i64 0) (fun _ => 0)
  case atStart => rfl
  case round =>
    subst hrel
    go_wp2
    go_ret
    exact ⟨rfl, rfl⟩

set_option maxHeartbeats 1000000 in
theorem sameLine_new (n : Int) (w : World) : Calls Try.prog 21 #[.agg (lnC n), .agg (lnC n)] w fun e w' => e = .returned (.bool true) ∧ Below w.heap.size w w' := by
  go_enter Try.func21, Try.ntmps21
  go_wp2_with fail
  refine (sameInts_none _).mono ?_
  rintro e w1 ⟨rfl, rfl⟩
  go_wp2
  go_loop [5] (fun i => i = .int .i64 0) (fun _ => 0)
  case atStart => rfl
  case round =>
    subst hrel
    go_wp2
    go_ret
    exact ⟨rfl, ((Below.refl _ _).alloc (Nat.le_refl _) _).alloc (by simp) _⟩

set_option maxHeartbeats 400000 in
theorem bits_none (w : World) : Calls Try.prog 78 #[.slice none 0 0] w fun e w' => e = .returned (.tuple #[.int .u64 0, .bool true]) ∧ w' = w := by
  go_enter Try.func78, Try.ntmps78
  go_wp2
  go_loop [4, 9] (fun b i => i = .int .i64 0 ∧ b = .int .u64 0) (fun _ _ => 0)
  case atStart => exact ⟨rfl, rfl⟩
  case round =>
    obtain ⟨rfl, rfl⟩ := hrel
    go_wp2
    go_ret2
    exact ⟨rfl, rfl⟩

set_option maxHeartbeats 400000 in
theorem idsOk_none (w : World) : Calls Try.prog 54 #[.slice none 0 0] w fun e w' => e = .returned (.bool true) ∧ w' = w := by
  go_enter Try.func54, Try.ntmps54
  go_wp2_with fail
  refine (bits_none _).mono ?_
  rintro e w1 ⟨rfl, rfl⟩
  go_wp2
  go_ret
  exact ⟨rfl, rfl⟩

set_option maxHeartbeats 400000 in
theorem isBusy_new (n : Int) (w : World) : Calls Try.prog 55 #[.agg (lnC n)] w fun e w' => e = .returned (.bool false) ∧ Below w.heap.size w w' := by
  go_enter Try.func55, Try.ntmps55
  go_wp2
  go_ret
  exact ⟨rfl, (Below.refl _ _).alloc (Nat.le_refl _) _⟩

set_option maxHeartbeats 1000000 in
theorem lineOk_new (n : Int) (w : World) (h : inB n 0 1000000 = true) : Calls Try.prog 22 #[.agg (lnC n)] w fun e w' => e = .returned (.bool true) ∧ Below w.heap.size w w' := by
  have m0 := lc_here (Below.refl w.heap.size w) n 41
  go_enter Try.func22, Try.ntmps22
  go_wp2_with fail
  refine (isValue_any _ _).mono ?_
  rintro e w1 ⟨rfl, rfl⟩
  rw [h]
  go_wp2_with fail
  refine (idsOk_none _).mono ?_
  rintro e w1 ⟨rfl, rfl⟩
  go_wp2_with fail
  refine (isBusy_new n _).mono ?_
  rintro e w1 ⟨rfl, hb⟩
  have m1 := lc_next m0 hb
  clear hb m0
  obtain ⟨_, c0, c1, c2, c3, c4, c5, c6⟩ := id m1
  go_wp2
  go_ret
  exact ⟨rfl, m1.1⟩

end Go.Proofs.Ytafokmegmkbiaaa
