/- a cache copied, compared, measured: toCache, eqCache, szCache -/
import Derived.Test.YtcbadkljmcpghaaCaV
import Derived.Deep.RegionHeld3
namespace Go.Proofs.Ytcbadkljmcpghaa
open Go.RowKit
set_option linter.unusedVariables false
set_option linter.unusedSimpArgs false

theorem infoWay : (Try.prog.info? 68).map (fun i => (i.zero, i.size, i.bytes)) = some (some (.agg #[.bool false, .int .i64 0]), 2, 16) := by kernel_rfl
theorem infoCSet : (Try.prog.info? 66).map (fun i => (i.zero, i.size, i.bytes)) = some (some (.agg #[.int .i64 0, .slice none 0 0]), 2, 32) := by kernel_rfl

set_option maxHeartbeats 1000000 in
theorem toWay_any (u : Bool) (a : Int) (w : World) : Calls Try.prog 85 #[.agg #[.bool u, .int .i64 a]] w fun e w' => e = .returned (.agg #[.bool u, .int .i64 a]) ∧ Below w.heap.size w w' := by
  go_enter Try.func85, Try.ntmps85
  go_wp2
  refine bodyPost_ret (v := .agg #[.bool u, .int .i64 a]) (by simp [results, Try.results85, go_sem]) rfl ⟨rfl, ?_⟩
  repeat' (first | exact Below.refl _ _ | refine Below.setCell ?_ (by simp <;> omega) _ | refine Below.alloc ?_ (by simp <;> omega) _)

set_option maxHeartbeats 2000000 in
theorem toWayS_any (v : Value) (n : Nat) (s : Sm) (w : World) (hs : Ws w v n s) (hb : n ≤ 1048576) :
    Calls Try.prog 82 #[v] w fun e w' => ∃ g, e = .returned (.slice (some ⟨g, 0, none⟩) n n) ∧ w.heap.size ≤ g ∧ Ow2 w' g n n s ∧ Below w.heap.size w w' := by
  obtain ⟨ad, cap, rfl, hs⟩ := hs
  obtain ⟨i0, hi, hz0, hz1, hz2⟩ := info_parts infoWay
  go_enter Try.func82, Try.ntmps82
  go_wp2_with (at_make; refine wpList_make_full _ rfl _ _ 64 rfl w.heap.size 68 i0 (.agg #[.bool false, .int .i64 0]) 2 Try.underlying64 hi hz0 hz1 .i64 .i64 n n n rfl rfl rfl rfl (by rw [hz2]; omega) (by unfold maxLen; omega) (Nat.le_refl _) ?_; intro w1 ho1 hg1)
  have ho : Ow2 w1 w.heap.size n 0 s := ow2_start ho1
  have hb1 : Below w.heap.size w w1 := (Below.refl _ _).grown hg1 (Nat.le_refl _) (fun k hk => by cases hk)
  clear ho1 hg1
  go_loopw [4] (fun i wr => ∃ k : Nat, k ≤ n ∧ i = .int .i64 k ∧ Ow2 wr w.heap.size n k s ∧ Below w.heap.size w wr) (fun i _ => n - (intOf i).toNat)
  case atStart => exact ⟨0, Nat.zero_le _, rfl, ho, hb1⟩
  case round =>
    obtain ⟨k, hk, rfl, hok, hbk⟩ := hrel
    clear ho hb1
    by_cases hlt : k < n
    · obtain ⟨b, off, rfl, hc⟩ := hs (by omega)
      have q0 : wr.cell? ⟨b, off + k * 2, none⟩ = some (.bool (s.u k)) := Below.keep hbk _ _ (hc k hlt).1
      have q1 : wr.cell? ⟨b, off + k * 2 + 1, none⟩ = some (.int .i64 (s.a k)) := Below.keep hbk _ _ (hc k hlt).2
      clear hs hc
      go_wp2_with fail
      refine (toWay_any _ _ _).mono ?_
      rintro e w2 ⟨rfl, hb2⟩
      have hok2 := hok.below hb2
      have hbk2 := hbk.trans (hb2.mono hbk.size)
      obtain ⟨fr, ⟨o0, r0⟩, ⟨o1, r1⟩⟩ := hok2.facts hlt
      have hB2 : Below w.heap.size w ((w2.setCell ⟨w.heap.size, k * 2, none⟩ (.bool (s.u k))).setCell ⟨w.heap.size, k * 2 + 1, none⟩ (.int .i64 (s.a k))) := ((hbk2.setCell (Nat.le_refl _) _).setCell (Nat.le_refl _) _)
      have HB := hide (And.intro (hok2.put hlt) hB2)
      clear hok hok2 hbk hbk2 hb2 hB2 q0 q1
      go_wp2
      go_roundw
      case rel => exact ⟨k + 1, by omega, by go_num, HB.out.1, HB.out.2⟩
      case measure => simp [intOf]; omega
    · go_wp2
      go_ret
      have e : k = n := by omega
      subst e
      exact ⟨_, rfl, Nat.le_refl _, hok, hbk⟩

theorem box2 {w : World} {x y : Value} {T : TypeId} : (w.alloc (.cells #[x, y] T)).cell? ⟨w.heap.size, 0, none⟩ = some x ∧ (w.alloc (.cells #[x, y] T)).cell? ⟨w.heap.size, 1, none⟩ = some y := by
  have h := heap_alloc_new w (.cells #[x, y] T)
  exact ⟨cell_of_row _ _ 0 _ _ _ h, cell_of_row _ _ 1 _ _ _ h⟩

set_option maxHeartbeats 2000000 in
theorem toCSet_any (b : Int) (ia : Option Addr) (n ic : Nat) (s : Sm) (w : World) (hs : Ws w (.slice ia n ic) n s) (hb : n ≤ 1048576) :
    Calls Try.prog 77 #[.agg #[.int .i64 b, .slice ia n ic]] w fun e w' => ∃ g, e = .returned (.agg #[.int .i64 b, .slice (some ⟨g, 0, none⟩) n n]) ∧ w.heap.size ≤ g ∧ Ow2 w' g n n s ∧ Below w.heap.size w w' := by
  go_enter Try.func77, Try.ntmps77
  go_wp2_with fail
  generalize hW : World.alloc _ _ = W
  have hbW : Below w.heap.size w W := by
    rw [← hW]
    exact (((Below.refl _ _).alloc (Nat.le_refl _) _).alloc (by simp) _).alloc (by simp; omega) _
  have hsz : W.heap.size = w.heap.size + 1 + 1 + 1 := by rw [← hW]; simp
  have k0 : W.heap[w.heap.size + 1]? = some (.cells #[.int .i64 0, .slice none 0 0] 66 (0, 0)) := by
    rw [← hW, Below.heap_alloc _ _ _ (by simp)]
    have := heap_alloc_new (w.alloc (.cells #[.int .i64 b, .slice ia n ic] 95)) (.cells #[.int .i64 0, .slice none 0 0] 66)
    simpa only [World.size_alloc] using this
  have k1 : W.heap[w.heap.size + 1 + 1]? = some (.cells #[.int .i64 b, .slice none 0 0] 66 (0, 0)) := by
    rw [← hW]
    have := heap_alloc_new ((w.alloc (.cells #[.int .i64 b, .slice ia n ic] 95)).alloc (.cells #[.int .i64 0, .slice none 0 0] 66)) (.cells #[.int .i64 b, .slice none 0 0] 66)
    simpa only [World.size_alloc] using this
  clear hW
  refine (toWayS_any _ n s _ (hs.below hbW) hb).mono ?_
  rintro e w2 ⟨g, rfl, hg, ho, hb2⟩
  have d0 := (hb2.block (w.heap.size + 1) (by omega)).trans k0
  have d1 := (hb2.block (w.heap.size + 1 + 1) (by omega)).trans k1
  have f0 := fun i => frozen_of_row _ _ i _ _ d0
  have f1 := fun i => frozen_of_row _ _ i _ _ d1
  have x0 := cell_of_row _ _ 0 _ _ _ d0
  have x1 := cell_of_row _ _ 1 _ _ _ d0
  have y0 := cell_of_row _ _ 0 _ _ _ d1
  have y1 := cell_of_row _ _ 1 _ _ _ d1
  simp at x0 x1 y0 y1
  have hB := hbW.trans (hb2.mono hbW.size)
  have n0 : w.heap.size + 1 ≠ g := by omega
  have n1 : w.heap.size + 1 + 1 ≠ g := by omega
  have HZ := hide (And.intro ho (And.intro hB hg))
  clear hB hb2 ho d0 d1 k0 k1 hbW hs
  go_wp2
  refine bodyPost_ret (v := .agg #[.int .i64 b, .slice (some ⟨g, 0, none⟩) n n]) (by simp [results, Try.results77, go_sem, x0, x1, y0, y1]) rfl ⟨g, rfl, by omega, ?_, ?_⟩
  · repeat' (first | exact HZ.out.1 | refine Ow2.set ?_ (by assumption))
  · repeat' (first | exact HZ.out.2.1 | refine Below.setCell ?_ (by simp <;> omega) _)

end Go.Proofs.Ytcbadkljmcpghaa
