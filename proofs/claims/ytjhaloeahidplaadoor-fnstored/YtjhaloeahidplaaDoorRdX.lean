/- DrawStored -/
import Derived.Test.YtjhaloeahidplaaDoorRdT
namespace Go.Proofs.YtjhaloeahidplaaDoor
open Go.RowKit
set_option linter.unusedVariables false
set_option linter.unusedSimpArgs false

set_option maxHeartbeats 4000000 in
theorem drawStored_any (ad : Option Addr) (n cap : Nat) (w : World) (hb : Bt w ad n) (hn : n ≤ 1048576) :
    Calls Tryd.prog 29 #[.slice ad n cap] w fun e w' => ∃ a b c d co li x : Int, e = .returned (.tuple #[.agg (four a b c d), .int .i64 co, .int .i64 li, .int .i64 x]) ∧ Below w.heap.size w w' := by
  have hb' : Bt (w.alloc (.cells (four 0 0 0 0) 33)) ad n := by
    intro h0
    obtain ⟨b, off, rfl, hc⟩ := hb h0
    refine ⟨b, off, rfl, fun j hj => ?_⟩
    obtain ⟨c, h1, h2, h3⟩ := hc j hj
    exact ⟨c, h1, h2, Below.keep ((Below.refl _ w).alloc (Nat.le_refl _) _) _ _ h3⟩
  clear hb
  go_enter Tryd.func29, Tryd.ntmps29
  go_wp2_with fail
  refine (open_any ad n cap _ hb' hn).mono ?_
  rintro e w1 ⟨g, rfl, hg1, hr1, hb1⟩
  clear hb'
  go_wp2_with fail
  refine (slot_any g _ hr1).mono ?_
  rintro e w2 ⟨a, b, c, d, rfl, hr2, hg2⟩
  have dw := dw_start (a := a) (b := b) (c := c) (d := d) hg1 hb1 hg2 hr2
  clear hg1 hb1 hg2 hr2 hr1
  go_wp2_with fail
  refine (once_any g 8 _ dw.rd (by decide) (by decide)).mono ?_
  rintro e w3 ⟨t, rfl, hr, hg⟩
  replace dw := dw.read hr hg
  clear hr hg
  obtain ⟨q0, q1, q2, q3, fy, y0, y1, y2, y3⟩ := dw.facts
  cases t with
  | true =>
    go_wp2
    go_region_with (go_at_call 85; refine (off_any g _ _ _ ?_ (by decide) (by decide) (by decide)).mono ?_; exact dw.rd; rintro e w4 ⟨z, rfl, hr, hg⟩; (first | (replace dw := dw.read hr hg) | (replace dw := dw.drew.read hr hg)); clear hr hg; obtain ⟨q0, q1, q2, q3, fy, y0, y1, y2, y3⟩ := dw.facts)
    all_goals go_wp2
    all_goals rename_i za p0 p1 p2 p3 pf p4 p5 p6 p7 wx zb r0 r1 r2 r3 rf r4 r5 r6 r7
    all_goals refine bodyPost_ret (v := .tuple #[.agg (four a b c d), .int .i64 za, .int .i64 zb, .int .i64 z]) (by simp [results, Tryd.results29, go_sem, Act.put, y0, y1, y2, y3]) rfl ⟨a, b, c, d, za, zb, z, rfl, ?_⟩
    all_goals first
      | exact dw_end dw _ _ _ _
      | exact (dw_end dw _ _ _ _).drew
  | false =>
    go_wp2
    go_region_with (go_at_call 96; refine (below_any g _ _ ?_ (by decide) (by decide)).mono ?_; exact dw.rd; rintro e w4 ⟨z, rfl, hz0, hz1, hr, hg⟩; (first | (replace dw := dw.read hr hg) | (replace dw := dw.drew.read hr hg)); clear hr hg hz0 hz1; obtain ⟨q0, q1, q2, q3, fy, y0, y1, y2, y3⟩ := dw.facts)
    all_goals go_wp2
    all_goals rename_i za p0 p1 p2 p3 pf p4 p5 p6 p7 wx zb r0 r1 r2 r3 rf r4 r5 r6 r7
    all_goals refine bodyPost_ret (v := .tuple #[.agg (four a b c d), .int .i64 (IntKind.i64.wrap (1 + za)), .int .i64 zb, .int .i64 z]) (by simp [results, Tryd.results29, go_sem, Act.put, y0, y1, y2, y3]) rfl ⟨a, b, c, d, IntKind.i64.wrap (1 + za), zb, z, rfl, ?_⟩
    all_goals first
      | exact dw_end dw _ _ _ _
      | exact (dw_end dw _ _ _ _).drew

end Go.Proofs.YtjhaloeahidplaaDoor
