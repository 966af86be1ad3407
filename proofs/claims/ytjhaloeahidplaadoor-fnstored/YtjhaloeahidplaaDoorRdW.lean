/- what the walks of the drawn laws on slots keep (written by mkAskedLaw.py) -/
import Derived.Test.YtjhaloeahidplaaDoorRdT
import Derived.Test.YtjhaloeahidplaaDoorSlL
import Derived.Test.YtjhaloeahidplaaDoorSlK
import Derived.Test.YtjhaloeahidplaaDoorMsgD
import Derived.Deep.RegionHeld3
namespace Go.Proofs.YtjhaloeahidplaaDoor
open Go.RowKit
theorem keep12 {w W W' : World} {p0 p1 p2 p3 p4 p5 p6 p7 p8 p9 p10 p11 : Addr} {x0 x1 x2 x3 x4 x5 x6 x7 x8 x9 x10 x11 : Value} (h : Below w.heap.size w W ∧ W.cell? p0 = some x0 ∧ W.cell? p1 = some x1 ∧ W.cell? p2 = some x2 ∧ W.cell? p3 = some x3 ∧ W.cell? p4 = some x4 ∧ W.cell? p5 = some x5 ∧ W.cell? p6 = some x6 ∧ W.cell? p7 = some x7 ∧ W.cell? p8 = some x8 ∧ W.cell? p9 = some x9 ∧ W.cell? p10 = some x10 ∧ W.cell? p11 = some x11) (hb : Below W.heap.size W W') : Below w.heap.size w W' ∧ W'.cell? p0 = some x0 ∧ W'.cell? p1 = some x1 ∧ W'.cell? p2 = some x2 ∧ W'.cell? p3 = some x3 ∧ W'.cell? p4 = some x4 ∧ W'.cell? p5 = some x5 ∧ W'.cell? p6 = some x6 ∧ W'.cell? p7 = some x7 ∧ W'.cell? p8 = some x8 ∧ W'.cell? p9 = some x9 ∧ W'.cell? p10 = some x10 ∧ W'.cell? p11 = some x11 := ⟨h.1.trans (hb.mono h.1.size), keepc hb h.2.1, keepc hb h.2.2.1, keepc hb h.2.2.2.1, keepc hb h.2.2.2.2.1, keepc hb h.2.2.2.2.2.1, keepc hb h.2.2.2.2.2.2.1, keepc hb h.2.2.2.2.2.2.2.1, keepc hb h.2.2.2.2.2.2.2.2.1, keepc hb h.2.2.2.2.2.2.2.2.2.1, keepc hb h.2.2.2.2.2.2.2.2.2.2.1, keepc hb h.2.2.2.2.2.2.2.2.2.2.2.1, keepc hb h.2.2.2.2.2.2.2.2.2.2.2.2⟩
theorem sc_drew {w wx : World} {B : Nat} {a b c d : Int} (h : SC w B a b c d wx) : SC w B a b c d wx.drew := ⟨h.1.drew, h.2.1, h.2.2.1, h.2.2.2.1, h.2.2.2.2⟩

theorem frm_iff {core line : Int} (h : frm core line = true) : (1 ≤ core ∧ core ≤ 5) ∧ (0 ≤ line ∧ line ≤ 3) := by
  unfold frm at h
  rw [Bool.and_eq_true, inB_iff, inB_iff] at h
  exact h
/-- what a core asks is a right message -/
theorem ask_right {core line : Int} (k : Int) (hk : k = 1 ∨ k = 2) (h : frm core line = true) : okB k core 0 line 0 0 = true := by
  obtain ⟨⟨h1, h2⟩, h3, h4⟩ := frm_iff h
  rcases hk with rfl | rfl <;> simp [okB, endsB, homeB, wantOkB, wantB, dataOkB, dataB, eqB, inB] <;> omega

end Go.Proofs.YtjhaloeahidplaaDoor
