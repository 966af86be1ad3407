/- links: not too large, copied, compared (written by mkLnkB.py) -/
import Derived.Test.YtgflipkhhpkidaaLnkA
namespace Go.Proofs.Ytgflipkhhpkidaa
open Go.RowKit
set_option linter.unusedVariables false
set_option linter.unusedSimpArgs false

/-- a link, plainly -/
structure Lk where
  base : Int
  want : Int
  nw : Nat
  ng : Nat
  nd : Nat
  nu : Nat
  ws : Nat → ByteArray
  gs : Nat → ByteArray
  dt : Nat → ByteArray
  dh : Nat → Bool
  ut : Nat → ByteArray
  uh : Nat → Bool
abbrev l6 (b : Int) (wv : Value) (k : Int) (gv dv uv : Value) : Array Value := #[.int .i64 b, wv, .int .i64 k, gv, dv, uv]
/-- its four rows in memory -/
structure Lv (w : World) (wv gv dv uv : Value) (p : Lk) : Prop where
  wa : Sg w wv 1 p.nw (tF p.ws)
  go : Sg w gv 1 p.ng (tF p.gs)
  dn : Sg w dv 2 p.nd (wF p.dt p.dh)
  up : Sg w uv 2 p.nu (wF p.ut p.uh)
theorem Lv.below {w w' : World} {wv gv dv uv : Value} {p : Lk} (h : Lv w wv gv dv uv p) (hb : Below w.heap.size w w') : Lv w' wv gv dv uv p := ⟨h.wa.below hb, h.go.below hb, h.dn.below hb, h.up.below hb⟩
/-- its rows' lengths and texts are no longer than a Go program can hold -/
def Lsm (b : Nat) (p : Lk) : Prop := (p.nw ≤ b ∧ ∀ j, j < p.nw → (p.ws j).size ≤ b) ∧ (p.ng ≤ b ∧ ∀ j, j < p.ng → (p.gs j).size ≤ b) ∧ (p.nd ≤ b ∧ ∀ j, j < p.nd → (p.dt j).size ≤ b) ∧ (p.nu ≤ b ∧ ∀ j, j < p.nu → (p.ut j).size ≤ b)

theorem box6 {w : World} {B : Nat} {T : TypeId} {x0 x1 x2 x3 x4 x5 : Value} (h : w.heap[B]? = some (.cells #[x0, x1, x2, x3, x4, x5] T (0, 0))) : (∀ i, w.frozen? ⟨B, i, none⟩ = false) ∧ w.cell? ⟨B, 0, none⟩ = some x0 ∧ w.cell? ⟨B, 1, none⟩ = some x1 ∧ w.cell? ⟨B, 2, none⟩ = some x2 ∧ w.cell? ⟨B, 3, none⟩ = some x3 ∧ w.cell? ⟨B, 4, none⟩ = some x4 ∧ w.cell? ⟨B, 5, none⟩ = some x5 :=
  ⟨fun i => frozen_of_row _ _ i _ _ h, (cell_of_row _ _ 0 _ _ _ h).trans rfl, (cell_of_row _ _ 1 _ _ _ h).trans rfl, (cell_of_row _ _ 2 _ _ _ h).trans rfl, (cell_of_row _ _ 3 _ _ _ h).trans rfl, (cell_of_row _ _ 4 _ _ _ h).trans rfl, (cell_of_row _ _ 5 _ _ _ h).trans rfl⟩
theorem heap_bl {w w' : World} {g : Nat} {x : Obj} (h : w.heap[g]? = some x) (hb : Below w.heap.size w w') : w'.heap[g]? = some x := (hb.block g (lt_of_block h)).trans h

/-- a link of the call's own -/
structure Lo (w : World) (base gw gg gd gu : Nat) (p : Lk) : Prop where
  wa : Cr w gw 9 1 p.nw p.nw (tF p.ws)
  go : Cr w gg 9 1 p.ng p.ng (tF p.gs)
  dn : Cr w gd 70 2 p.nd p.nd (wF p.dt p.dh)
  up : Cr w gu 70 2 p.nu p.nu (wF p.ut p.uh)
  lw : base ≤ gw ∧ base ≤ gg ∧ base ≤ gd ∧ base ≤ gu
theorem Lo.below {w w' : World} {base gw gg gd gu : Nat} {p : Lk} (h : Lo w base gw gg gd gu p) (hb : Below w.heap.size w w') : Lo w' base gw gg gd gu p := ⟨h.wa.below hb, h.go.below hb, h.dn.below hb, h.up.below hb, h.lw⟩
abbrev sln (g n : Nat) : Value := .slice (some ⟨g, 0, none⟩) n n
theorem Lo.lv {w : World} {base gw gg gd gu : Nat} {p : Lk} (h : Lo w base gw gg gd gu p) : Lv w (sln gw p.nw) (sln gg p.ng) (sln gd p.nd) (sln gu p.nu) p := ⟨h.wa.sg, h.go.sg, h.dn.sg, h.up.sg⟩
theorem Lo.set {w : World} {base gw gg gd gu B i : Nat} {v : Value} {p : Lk} (h : Lo w base gw gg gd gu p) (hB : B < base) : Lo (w.setCell ⟨B, i, none⟩ v) base gw gg gd gu p := ⟨h.wa.other (by have := h.lw; omega), h.go.other (by have := h.lw; omega), h.dn.other (by have := h.lw; omega), h.up.other (by have := h.lw; omega), h.lw⟩

/-- two links compared: their boxes -/
structure Ex (w wr : World) (a b : Array Value) : Prop where
  bel : Below w.heap.size w wr
  a : wr.heap[w.heap.size]? = some (.cells a 27 (0, 0))
  b : wr.heap[w.heap.size + 1]? = some (.cells b 27 (0, 0))
theorem Ex.call {w wr w' : World} {a b : Array Value} (h : Ex w wr a b) (hb : Below wr.heap.size wr w') : Ex w w' a b := ⟨h.bel.trans (hb.mono h.bel.size), heap_bl h.a hb, heap_bl h.b hb⟩

end Go.Proofs.Ytgflipkhhpkidaa
