/- DrawLeft -/
import Derived.Test.YtjhaloeahidplaaRdT
import Derived.Test.YtjhaloeahidplaaSlL
import Derived.Test.YtjhaloeahidplaaSlK
import Derived.Deep.RegionHeld3
namespace Go.Proofs.Ytjhaloeahidplaa
open Go.RowKit
set_option linter.unusedVariables false
set_option linter.unusedSimpArgs false

theorem Bt.alloc {w : World} {ad : Option Addr} {n : Nat} (hb : Bt w ad n) (o : Obj) : Bt (w.alloc o) ad n := by
  intro h0
  obtain ⟨b, off, rfl, hc⟩ := hb h0
  refine ⟨b, off, rfl, fun j hj => ?_⟩
  obtain ⟨c, h1, h2, h3⟩ := hc j hj
  exact ⟨c, h1, h2, Below.keep ((Below.refl _ w).alloc (Nat.le_refl _) _) _ _ h3⟩

theorem sc_drew {w wx : World} {B : Nat} {a b c d : Int} (h : SC w B a b c d wx) : SC w B a b c d wx.drew := ⟨h.1.drew, h.2.1, h.2.2.1, h.2.2.2.1, h.2.2.2.2⟩

theorem keep4 {w W W' : World} {p0 p1 p2 p3 : Addr} {x0 x1 x2 x3 : Value} (h : Below w.heap.size w W ∧ W.cell? p0 = some x0 ∧ W.cell? p1 = some x1 ∧ W.cell? p2 = some x2 ∧ W.cell? p3 = some x3) (hb : Below W.heap.size W W') : Below w.heap.size w W' ∧ W'.cell? p0 = some x0 ∧ W'.cell? p1 = some x1 ∧ W'.cell? p2 = some x2 ∧ W'.cell? p3 = some x3 := ⟨h.1.trans (hb.mono h.1.size), keepc hb h.2.1, keepc hb h.2.2.1, keepc hb h.2.2.2.1, keepc hb h.2.2.2.2⟩
theorem keep5 {w W W' : World} {p0 p1 p2 p3 p4 : Addr} {x0 x1 x2 x3 x4 : Value} (h : Below w.heap.size w W ∧ W.cell? p0 = some x0 ∧ W.cell? p1 = some x1 ∧ W.cell? p2 = some x2 ∧ W.cell? p3 = some x3 ∧ W.cell? p4 = some x4) (hb : Below W.heap.size W W') : Below w.heap.size w W' ∧ W'.cell? p0 = some x0 ∧ W'.cell? p1 = some x1 ∧ W'.cell? p2 = some x2 ∧ W'.cell? p3 = some x3 ∧ W'.cell? p4 = some x4 := ⟨h.1.trans (hb.mono h.1.size), keepc hb h.2.1, keepc hb h.2.2.1, keepc hb h.2.2.2.1, keepc hb h.2.2.2.2.1, keepc hb h.2.2.2.2.2⟩
theorem keep7 {w W W' : World} {p0 p1 p2 p3 p4 p5 p6 : Addr} {x0 x1 x2 x3 x4 x5 x6 : Value} (h : Below w.heap.size w W ∧ W.cell? p0 = some x0 ∧ W.cell? p1 = some x1 ∧ W.cell? p2 = some x2 ∧ W.cell? p3 = some x3 ∧ W.cell? p4 = some x4 ∧ W.cell? p5 = some x5 ∧ W.cell? p6 = some x6) (hb : Below W.heap.size W W') : Below w.heap.size w W' ∧ W'.cell? p0 = some x0 ∧ W'.cell? p1 = some x1 ∧ W'.cell? p2 = some x2 ∧ W'.cell? p3 = some x3 ∧ W'.cell? p4 = some x4 ∧ W'.cell? p5 = some x5 ∧ W'.cell? p6 = some x6 := ⟨h.1.trans (hb.mono h.1.size), keepc hb h.2.1, keepc hb h.2.2.1, keepc hb h.2.2.2.1, keepc hb h.2.2.2.2.1, keepc hb h.2.2.2.2.2.1, keepc hb h.2.2.2.2.2.2.1, keepc hb h.2.2.2.2.2.2.2⟩

set_option maxHeartbeats 1000000 in
theorem drawLeft_any (ad : Option Addr) (n cap : Nat) (w : World) (hb : Bt w ad n) (hn : n ≤ 1048576) :
    Calls Try.prog 7 #[.slice ad n cap] w fun e w' => ∃ a b c d co li : Int, e = .returned (.tuple #[.agg (four a b c d), .int .i64 co, .int .i64 li]) ∧ Below w.heap.size w w' := by
  have hb' := hb.alloc (.cells (four 0 0 0 0) 25)
  have HB0 := hide ((Below.refl w.heap.size w).alloc (Nat.le_refl _) (.cells (four 0 0 0 0) 25))
  clear hb
  go_enter Try.func7, Try.ntmps7
  go_wp2_with fail
  refine (drawAsked_any ad n cap _ hb' hn).mono ?_
  rintro e w1 ⟨a, b, c, d, co, li, rfl, hb1⟩
  obtain ⟨a1, f1⟩ := at4 (B := w.heap.size) hb1 (by simp)
  have HB1 := hide (HB0.out.trans (hb1.mono HB0.out.size))
  clear hb1 hb'
  go_wp2
  refine bodyPost_ret (v := .tuple #[.agg (four a b c d), .int .i64 co, .int .i64 li]) (by simp [results, Try.results7, go_sem, a1]) rfl ⟨a, b, c, d, co, li, rfl, ?_⟩
  exact below_put4 HB1.out (Nat.le_refl _) _ _ _ _

end Go.Proofs.Ytjhaloeahidplaa
