/- what the walk of laws.FnCoreGot keeps (written by mkGotLaw.py) -/
import Derived.Test.YtjhaloeahidplaaDoorRdN
import Derived.Test.YtjhaloeahidplaaDoorSlO
import Derived.Test.YtjhaloeahidplaaDoorSlR
import Derived.Test.YtjhaloeahidplaaDoorSlK
import Derived.Test.YtjhaloeahidplaaDoorMsgT
import Derived.Deep.RegionHeld3
namespace Go.Proofs.YtjhaloeahidplaaDoor
open Go.RowKit
set_option linter.unusedVariables false
theorem keep7 {w W W' : World} {p0 p1 p2 p3 p4 p5 p6 : Addr} {x0 x1 x2 x3 x4 x5 x6 : Value} (h : Below w.heap.size w W ∧ W.cell? p0 = some x0 ∧ W.cell? p1 = some x1 ∧ W.cell? p2 = some x2 ∧ W.cell? p3 = some x3 ∧ W.cell? p4 = some x4 ∧ W.cell? p5 = some x5 ∧ W.cell? p6 = some x6) (hb : Below W.heap.size W W') : Below w.heap.size w W' ∧ W'.cell? p0 = some x0 ∧ W'.cell? p1 = some x1 ∧ W'.cell? p2 = some x2 ∧ W'.cell? p3 = some x3 ∧ W'.cell? p4 = some x4 ∧ W'.cell? p5 = some x5 ∧ W'.cell? p6 = some x6 := ⟨h.1.trans (hb.mono h.1.size), keepc hb h.2.1, keepc hb h.2.2.1, keepc hb h.2.2.2.1, keepc hb h.2.2.2.2.1, keepc hb h.2.2.2.2.2.1, keepc hb h.2.2.2.2.2.2.1, keepc hb h.2.2.2.2.2.2.2⟩
theorem two_here {w w1 : World} (bel : Below w.heap.size w w1) (a b c d mk mf mt ml mw md : Int) : SC w w1.heap.size a b c d ((w1.alloc (.cells #[.int .i64 a, .int .i64 b, .int .i64 c, .int .i64 d] 33)).alloc (.cells #[.int .i64 mk, .int .i64 mf, .int .i64 mt, .int .i64 ml, .int .i64 mw, .int .i64 md] 25)) ∧
    Box6 ((w1.alloc (.cells #[.int .i64 a, .int .i64 b, .int .i64 c, .int .i64 d] 33)).alloc (.cells #[.int .i64 mk, .int .i64 mf, .int .i64 mt, .int .i64 ml, .int .i64 mw, .int .i64 md] 25)) (w1.heap.size + 1) mk mf mt ml mw md := by
  refine ⟨sc_alloc (sc_here bel a b c d _) _, ?_⟩
  generalize hA : Obj.cells #[.int .i64 a, .int .i64 b, .int .i64 c, .int .i64 d] 33 = A
  generalize hB : Obj.cells #[.int .i64 mk, .int .i64 mf, .int .i64 mt, .int .i64 ml, .int .i64 mw, .int .i64 md] 25 = B
  have e1 : ((w1.alloc A).alloc B).heap[w1.heap.size + 1]? = some B := by
    have := heap_alloc_new (w1.alloc A) B; simpa only [World.size_alloc] using this
  subst hB
  exact ⟨(cell_of_row _ _ _ _ _ _ e1).trans rfl, (cell_of_row _ _ _ _ _ _ e1).trans rfl, (cell_of_row _ _ _ _ _ _ e1).trans rfl, (cell_of_row _ _ _ _ _ _ e1).trans rfl, (cell_of_row _ _ _ _ _ _ e1).trans rfl, (cell_of_row _ _ _ _ _ _ e1).trans rfl⟩

theorem got_cases (st d wt v mk mf mt ml mw md : Int) : (mvd (st, d, wt, v) (rtM mk mf mt ml mw md) (gotM mk mw md (st, d, wt, v)) = ((0, 0, 0, 0), 0, 0, 1)) ∨
    (∃ c, (c != 0) = true ∧ (c == 1) = false ∧ mvd (st, d, wt, v) (rtM mk mf mt ml mw md) (gotM mk mw md (st, d, wt, v)) = ((st, d, wt, v), 0, 0, c)) ∨
    (mk = 4 ∧ ∃ n0 n1 n2 n3, (n0 != 1) = true ∧ slB n0 n1 n2 n3 = true ∧ mvd (st, d, wt, v) (rtM mk mf mt ml mw md) (gotM mk mw md (st, d, wt, v)) = ((n0, n1, n2, n3), 6, 0, 0)) ∨
    (mk = 5 ∧ ∃ n0 n1 n2 n3, (n0 != 2) = true ∧ slB n0 n1 n2 n3 = true ∧ mvd (st, d, wt, v) (rtM mk mf mt ml mw md) (gotM mk mw md (st, d, wt, v)) = ((n0, n1, n2, n3), 7, d, 0)) ∨
    ((mk == 4) = false ∧ (mk == 5) = false ∧ ∃ n0 n1 n3, slB n0 n1 0 n3 = true ∧ mvd (st, d, wt, v) (rtM mk mf mt ml mw md) (gotM mk mw md (st, d, wt, v)) = ((n0, n1, 0, n3), 0, 0, 0)) := by
  cases h : slB st d wt v with
  | false => exact .inl (mvd_no h)
  | true =>
    cases hf : rtM mk mf mt ml mw md with
    | false => exact .inr (.inl ⟨2, rfl, rfl, mvd_fm h⟩)
    | true =>
      rw [mvd_do h]
      have hg := got_ok (s := (st, d, wt, v)) h hf
      obtain ⟨_, _, _, hd, hk⟩ := rtM_cases hf
      obtain ⟨h0, hs⟩ := slB_cases h
      rcases hk with ⟨rfl, rfl, rfl⟩ | ⟨rfl, rfl | rfl, rfl⟩ | ⟨rfl, rfl | rfl⟩ | ⟨rfl, rfl, rfl⟩ <;> rcases hs with ⟨rfl, rfl, rfl, rfl⟩ | ⟨rfl, rfl, rfl, rfl⟩ | ⟨rfl, rfl, rfl⟩ | ⟨rfl, rfl, rfl⟩ | ⟨rfl, rfl⟩ | ⟨rfl, rfl, rfl⟩ | ⟨rfl, rfl, rfl⟩
      all_goals first
        | exact .inr (.inl ⟨4, rfl, rfl, rfl⟩)
        | exact .inr (.inr (.inl ⟨rfl, _, _, _, _, rfl, hg, rfl⟩))
        | exact .inr (.inr (.inr (.inl ⟨rfl, _, _, _, _, rfl, hg, rfl⟩)))
        | exact .inr (.inr (.inr (.inr ⟨rfl, rfl, _, _, _, hg, rfl⟩)))

end Go.Proofs.YtjhaloeahidplaaDoor
