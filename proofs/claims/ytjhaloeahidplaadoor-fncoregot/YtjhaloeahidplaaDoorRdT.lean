/- DrawAsked, DrawLeft; sameMail of one message at most -/
import Derived.Test.YtjhaloeahidplaaDoorRdS
import Derived.Test.YtjhaloeahidplaaDoorSlE
import Derived.Deep.RegionWith
import Derived.Deep.QuietTactic
import Derived.BigQuiet
namespace Go.Proofs.YtjhaloeahidplaaDoor
open Go.RowKit
set_option linter.unusedVariables false
set_option linter.unusedSimpArgs false

set_option maxHeartbeats 1000000 in
theorem sameMail_none (w : World) : Calls Tryd.prog 26 #[.slice none 0 0, .slice none 0 0] w fun e w' => e = .returned (.bool true) ∧ Below w.heap.size w w' := by
  go_enter Tryd.func26, Tryd.ntmps26
  go_wp2
  go_loop [5] (fun i => i = .int .i64 0) (fun _ => 0)
  case atStart => rfl
  case round =>
    subst hrel
    go_wp2
    go_ret
    exact ⟨rfl, Below.refl _ _⟩

set_option maxHeartbeats 2000000 in
theorem sameMail_one (A B : Nat) (a b c d e f : Int) (w : World) (hA : Holds6 w A a b c d e f) (hB : Holds6 w B a b c d e f) : Calls Tryd.prog 26 #[.slice (some ⟨A, 0, none⟩) 1 1, .slice (some ⟨B, 0, none⟩) 1 1] w fun e w' => e = .returned (.bool true) ∧ Below w.heap.size w w' := by
  go_enter Tryd.func26, Tryd.ntmps26
  go_wp2
  go_loopw [5] (fun i wr => (i = .int .i64 0 ∧ wr = w) ∨ (i = .int .i64 1 ∧ Below w.heap.size w wr)) (fun i _ => 1 - (intOf i).toNat)
  case atStart => exact .inl ⟨rfl, rfl⟩
  case round =>
    rcases hrel with ⟨rfl, rfl⟩ | ⟨rfl, hb⟩
    · obtain ⟨_, a0, a1, a2, a3, a4, a5⟩ := hA.facts
      obtain ⟨_, b0, b1, b2, b3, b4, b5⟩ := hB.facts
      clear hA hB
      go_wp2
      go_quiet (fail)
      all_goals go_wp2
      all_goals go_roundw
      case rel => exact .inr ⟨rfl, below_drewN (Below.refl _ _) _⟩
      case measure => simp [intOf]
    · go_wp2
      go_ret
      exact ⟨rfl, hb⟩

/-- the world of a slot that was drawn: the result's block, the reader, the slot's block -/
structure DW (w0 w : World) (g S : Nat) (a b c d : Int) : Prop where
  rd : Rdr w g
  bel : Below w0.heap.size w0 w
  res : w.heap[w0.heap.size]? = some (.cells (four 0 0 0 0) 33 (0, 0))
  sl : w.heap[S]? = some (.cells (four a b c d) 33 (0, 0))
  lg : w0.heap.size < g
  lS : g < S

theorem DW.drew {w0 w : World} {g S : Nat} {a b c d : Int} (h : DW w0 w g S a b c d) : DW w0 w.drew g S a b c d := ⟨h.rd, h.bel.drew, h.res, h.sl, h.lg, h.lS⟩

theorem DW.read {w0 w w' : World} {g S : Nat} {a b c d : Int} (h : DW w0 w g S a b c d) (hr : Rdr w' g) (hg : w.grownBy w' (some g)) : DW w0 w' g S a b c d := by
  have hlt : S < w.heap.size := lt_of_block h.sl
  have := h.lg
  have := h.lS
  refine ⟨hr, below_read h.bel hg (by omega) (by omega), ?_, ?_, h.lg, h.lS⟩
  · rw [hg.block _ (by omega) (fun e => by simp at e; omega)]; exact h.res
  · rw [hg.block _ hlt (fun e => by simp at e; omega)]; exact h.sl

theorem DW.facts {w0 w : World} {g S : Nat} {a b c d : Int} (h : DW w0 w g S a b c d) :
    w.cell? ⟨S, 0, none⟩ = some (.int .i64 a) ∧ w.cell? ⟨S, 1, none⟩ = some (.int .i64 b) ∧ w.cell? ⟨S, 2, none⟩ = some (.int .i64 c) ∧ w.cell? ⟨S, 3, none⟩ = some (.int .i64 d) ∧
    (∀ i, w.frozen? ⟨w0.heap.size, i, none⟩ = false) ∧ w.cell? ⟨w0.heap.size, 0, none⟩ = some (.int .i64 0) ∧ w.cell? ⟨w0.heap.size, 1, none⟩ = some (.int .i64 0) ∧ w.cell? ⟨w0.heap.size, 2, none⟩ = some (.int .i64 0) ∧ w.cell? ⟨w0.heap.size, 3, none⟩ = some (.int .i64 0) := by
  refine ⟨?_, ?_, ?_, ?_, fun i => frozen_of_row w _ i _ _ h.res, ?_, ?_, ?_, ?_⟩
  all_goals first
    | (rw [cell_of_row w S _ _ _ _ h.sl]; rfl)
    | (rw [cell_of_row w w0.heap.size _ _ _ _ h.res]; rfl)

theorem dw_start {w w1 w2 : World} {g : Nat} {a b c d : Int} (hg0 : (w.alloc (.cells (four 0 0 0 0) 33)).heap.size ≤ g) (hb : Below (w.alloc (.cells (four 0 0 0 0) 33)).heap.size (w.alloc (.cells (four 0 0 0 0) 33)) w1) (hg : w1.grownBy w2 (some g)) (hr : Rdr w2 g) :
    DW w (w2.alloc (.cells (four a b c d) 33)) g w2.heap.size a b c d := by
  have hz := hb.size
  have hz2 := hg.size
  simp only [World.size_alloc] at hz hg0
  have hgl := hr.lt
  have hb0 : Below w.heap.size w w1 := ((Below.refl _ _).alloc (Nat.le_refl _) _).trans (hb.mono (by simp))
  refine ⟨hr.grown (grown_alloc _ _ none) (fun k hk => by cases hk), (below_read hb0 hg (by omega) (by omega)).alloc (by omega) _, ?_, heap_alloc_new _ _, by omega, hgl⟩
  rw [Below.heap_alloc _ _ _ (by omega), hg.block _ (by omega) (fun e => by simp at e; omega), hb.block _ (by simp)]
  exact heap_alloc_new _ _

theorem dw_end {w0 w : World} {g S : Nat} {a b c d : Int} (h : DW w0 w g S a b c d) (v0 v1 v2 v3 : Value) : Below w0.heap.size w0 ((((w.setCell ⟨w0.heap.size, 0, none⟩ v0).setCell ⟨w0.heap.size, 1, none⟩ v1).setCell ⟨w0.heap.size, 2, none⟩ v2).setCell ⟨w0.heap.size, 3, none⟩ v3) :=
  (((h.bel.setCell (Nat.le_refl _) _).setCell (Nat.le_refl _) _).setCell (Nat.le_refl _) _).setCell (Nat.le_refl _) _

set_option maxHeartbeats 1000000 in
theorem drawAsked_any (ad : Option Addr) (n cap : Nat) (w : World) (hb : Bt w ad n) (hn : n ≤ 1048576) :
    Calls Tryd.prog 23 #[.slice ad n cap] w fun e w' => ∃ a b c d co li : Int, e = .returned (.tuple #[.agg (four a b c d), .int .i64 co, .int .i64 li]) ∧ Below w.heap.size w w' := by
  have hb' : Bt (w.alloc (.cells (four 0 0 0 0) 33)) ad n := by
    intro h0
    obtain ⟨b, off, rfl, hc⟩ := hb h0
    refine ⟨b, off, rfl, fun j hj => ?_⟩
    obtain ⟨c, h1, h2, h3⟩ := hc j hj
    exact ⟨c, h1, h2, Below.keep ((Below.refl _ w).alloc (Nat.le_refl _) _) _ _ h3⟩
  clear hb
  go_enter Tryd.func23, Tryd.ntmps23
  go_wp2_with fail
  refine (open_any ad n cap _ hb' hn).mono ?_
  rintro e w1 ⟨g, rfl, hg1, hr1, hb1⟩
  clear hb'
  go_wp2_with fail
  refine (slot_any g _ hr1).mono ?_
  rintro e w2 ⟨a, b, c, d, rfl, hr2, hg2⟩
  have dw := dw_start (a := a) (b := b) (c := c) (d := d) hg1 hb1 hg2 hr2
  clear hg1 hb1 hg2 hr2 hr1
  obtain ⟨q0, q1, q2, q3, fy, y0, y1, y2, y3⟩ := dw.facts
  go_wp2
  go_region_with (go_at_call 85; refine (off_any g _ _ _ ?_ (by decide) (by decide) (by decide)).mono ?_; exact dw.rd; rintro e w3 ⟨z, rfl, hr, hg⟩; (first | (replace dw := dw.read hr hg) | (replace dw := dw.drew.read hr hg)); clear hr hg; obtain ⟨q0, q1, q2, q3, fy, y0, y1, y2, y3⟩ := dw.facts)
  all_goals go_wp2
  all_goals rename_i zz p0 p1 p2 p3 pf p4 p5 p6 p7
  all_goals refine bodyPost_ret (v := .tuple #[.agg (four a b c d), .int .i64 zz, .int .i64 z]) (by simp [results, Tryd.results23, go_sem, Act.put, y0, y1, y2, y3]) rfl ⟨a, b, c, d, zz, z, rfl, ?_⟩
  all_goals first
    | exact dw_end dw _ _ _ _
    | exact (dw_end dw _ _ _ _).drew

end Go.Proofs.YtjhaloeahidplaaDoor
