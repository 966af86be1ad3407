/- the walk of laws.FnExactMachineOk (written by mkMsM.py) -/
import Derived.Test.YtfckacabaajnkaaDoorMsK
import Derived.Test.YtfckacabaajnkaaDoorMsL
import Derived.Deep.RegionHeld3
namespace Go.Proofs.YtfckacabaajnkaaDoor
open Go.RowKit
set_option linter.unusedVariables false
set_option linter.unusedSimpArgs false

theorem keepM6 {w W W' : World} {p0 p1 p2 p3 p4 p5 : Addr} {x0 x1 x2 x3 x4 x5 : Value} (h : Below w.heap.size w W ∧ W.cell? p0 = some x0 ∧ W.cell? p1 = some x1 ∧ W.cell? p2 = some x2 ∧ W.cell? p3 = some x3 ∧ W.cell? p4 = some x4 ∧ W.cell? p5 = some x5) (hb : Below W.heap.size W W') : Below w.heap.size w W' ∧ W'.cell? p0 = some x0 ∧ W'.cell? p1 = some x1 ∧ W'.cell? p2 = some x2 ∧ W'.cell? p3 = some x3 ∧ W'.cell? p4 = some x4 ∧ W'.cell? p5 = some x5 := ⟨h.1.trans (hb.mono h.1.size), keepc hb h.2.1, keepc hb h.2.2.1, keepc hb h.2.2.2.1, keepc hb h.2.2.2.2.1, keepc hb h.2.2.2.2.2.1, keepc hb h.2.2.2.2.2.2⟩

theorem Ss.drewM {w : World} {v : Value} {C : Nat} {L : Nat → Nat} {F : Nat → Nat → Nat → Int} (h : Ss w v C L F) : Ss w.drew v C L F := h
theorem Ls.drewM {w : World} {v : Value} {n : Nat} {G : Nat → LnD} (h : Ls w v n G) : Ls w.drew v n G := h
theorem Sr.drewM {w : World} {v : Value} {m n : Nat} {f : Nat → Nat → Int} (h : Sr w v m n f) : Sr w.drew v m n f := h

end Go.Proofs.YtfckacabaajnkaaDoor
