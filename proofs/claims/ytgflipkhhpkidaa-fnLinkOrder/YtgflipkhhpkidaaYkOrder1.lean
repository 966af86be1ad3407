/- LnkA, LnkB -/
import Derived.Test.YtgflipkhhpkidaaYkOrder0
import Derived.Test.YtgflipkhhpkidaaChecked
import Derived.WalkSmall
import Derived.BigQuiet
import Derived.Deep.QuietTactic
import Derived.Deep.RegionHeld
import Derived.Deep.RegionHeld3
/- rows of texts and of wires: read, copied, compared, not too large -/
namespace Go.Proofs.Ytgflipkhhpkidaa
open Go.RowKit
set_option linter.unusedVariables false
set_option linter.unusedSimpArgs false

theorem k6H {w w' : World} (hb : Below w.heap.size w w') {p0 p1 p2 p3 p4 p5 : Addr} {x0 x1 x2 x3 x4 x5 : Value} (h0 : w.cell? p0 = some x0) (h1 : w.cell? p1 = some x1) (h2 : w.cell? p2 = some x2) (h3 : w.cell? p3 = some x3) (h4 : w.cell? p4 = some x4) (h5 : w.cell? p5 = some x5) : w'.cell? p0 = some x0 ∧ w'.cell? p1 = some x1 ∧ w'.cell? p2 = some x2 ∧ w'.cell? p3 = some x3 ∧ w'.cell? p4 = some x4 ∧ w'.cell? p5 = some x5 := ⟨keepc hb h0, keepc hb h1, keepc hb h2, keepc hb h3, keepc hb h4, keepc hb h5⟩
section
variable {P : Program} {ops : Array Oper} {Q : Exit → Act → World → Prop} {md : Region.Mode} {S : World → Prop} {n : Nat} {o : Oper} {done : Array Bool} {a a' : Act} {w : World}
/-- in a region that draws: an operation that only reads, taken first; one that is passed over -/
theorem th (i : Nat) (v : Value) (hi : ops[i]? = some o) (h : ∀ w', S w' → (execOp a.eval o).run P w' = .ok (.value v) w') (k : True → wpAnyH P md ops Q S n (done.setIfInBounds i true) a' w) (hs : Region.noSelect ops = true := by kernel_rfl) (hf : Region.free md ops done i = true := by kernel_rfl) (hr : (Region.ready md ops done).contains i = true := by kernel_rfl) (hQ : ∀ c u w, Q (.panic c) (u.put o.dst v) w → Q (.panic c) u w := by intro _ _ _ h; exact h) (hw : Region.wanted o (yielded ops a.tmps) = true := by rfl) (hS : S w := by assumption)
    (hp : a.put o.dst v = a' := by simp only [Act.put, List.getElem_toArray, List.getElem_cons_zero, List.getElem_cons_succ, List.setIfInBounds_toArray, List.set_cons_zero, List.set_cons_succ]; rfl) : wpAnyH P md ops Q S (n + 1) done a w := by
  subst hp; exact wpAnyH_take hi hs hf hr hQ (.inl ⟨hw, h⟩) hS (k trivial)
theorem th0 (i : Nat) (v : Value) (hi : ops[i]? = some o) (k : True → wpAnyH P md ops Q S n (done.setIfInBounds i true) a' w) (h : ∀ w', S w' → (execOp a.eval o).run P w' = .ok (.value v) w' := by intro w' hSw; go_simp) (hs : Region.noSelect ops = true := by kernel_rfl) (hf : Region.free md ops done i = true := by kernel_rfl) (hr : (Region.ready md ops done).contains i = true := by kernel_rfl) (hQ : ∀ c u w, Q (.panic c) (u.put o.dst v) w → Q (.panic c) u w := by intro _ _ _ h; exact h) (hw : Region.wanted o (yielded ops a.tmps) = true := by rfl) (hS : S w := by assumption)
    (hp : a.put o.dst v = a' := by simp only [Act.put, List.getElem_toArray, List.getElem_cons_zero, List.getElem_cons_succ, List.setIfInBounds_toArray, List.set_cons_zero, List.set_cons_succ]; rfl) : wpAnyH P md ops Q S (n + 1) done a w := by
  subst hp; exact wpAnyH_take hi hs hf hr hQ (.inl ⟨hw, h⟩) hS (k trivial)
theorem thu (i : Nat) (hi : ops[i]? = some o) (k : True → wpAnyH P md ops Q S n (done.setIfInBounds i true) a' w) (hs : Region.noSelect ops = true := by kernel_rfl) (hf : Region.free md ops done i = true := by kernel_rfl) (hr : (Region.ready md ops done).contains i = true := by kernel_rfl) (hQ : ∀ c u w, Q (.panic c) (u.put o.dst undef) w → Q (.panic c) u w := by intro _ _ _ h; exact h) (hw : Region.wanted o (yielded ops a.tmps) = false := by kernel_rfl) (hS : S w := by assumption)
    (hp : a.put o.dst undef = a' := by simp only [Act.put, List.getElem_toArray, List.getElem_cons_zero, List.getElem_cons_succ, List.setIfInBounds_toArray, List.set_cons_zero, List.set_cons_succ]; rfl) : wpAnyH P md ops Q S (n + 1) done a w := by
  subst hp; exact wpAnyH_take hi hs hf hr hQ (.inr ⟨hw, rfl⟩) hS (k trivial)
end

/-- a row of n structs of m cells -/
def Sg (w : World) (v : Value) (m n : Nat) (f : Nat → Nat → Value) : Prop :=
  ∃ ad cap, v = .slice ad n cap ∧ (0 < n → ∃ b off, ad = some ⟨b, off, none⟩ ∧ ∀ j, j < n → ∀ i, i < m → w.cell? ⟨b, off + j * m + i, none⟩ = some (f j i))
theorem Sg.below {w w' : World} {v : Value} {m n : Nat} {f : Nat → Nat → Value} (h : Sg w v m n f) (hb : Below w.heap.size w w') : Sg w' v m n f := by
  obtain ⟨ad, cap, rfl, h⟩ := h
  refine ⟨ad, cap, rfl, fun hp => ?_⟩
  obtain ⟨b, off, rfl, hc⟩ := h hp
  exact ⟨b, off, rfl, fun j hj i hi => keepc hb (hc j hj i hi)⟩
/-- a copy, filled up to k -/
def Cr (w : World) (g : Nat) (T : TypeId) (m n k : Nat) (f : Nat → Nat → Value) : Prop :=
  ∃ cur : Array Value, w.heap[g]? = some (.cells cur T (0, 0)) ∧ cur.size = n * m ∧ ∀ j, j < k → ∀ i, i < m → cur[j * m + i]? = some (f j i)
theorem Cr.below {w w' : World} {g : Nat} {T : TypeId} {m n k : Nat} {f : Nat → Nat → Value} (h : Cr w g T m n k f) (hb : Below w.heap.size w w') : Cr w' g T m n k f := by
  obtain ⟨cur, h1, h2, h3⟩ := h
  exact ⟨cur, (hb.block g (lt_of_block h1)).trans h1, h2, h3⟩
theorem Cr.sg {w : World} {g : Nat} {T : TypeId} {m n : Nat} {f : Nat → Nat → Value} (h : Cr w g T m n n f) : Sg w (.slice (some ⟨g, 0, none⟩) n n) m n f := by
  obtain ⟨cur, h1, h2, h3⟩ := h
  refine ⟨_, n, rfl, fun _ => ⟨g, 0, rfl, fun j hj i hi => ?_⟩⟩
  rw [Nat.zero_add, cell_of_row _ _ _ _ _ _ h1]
  exact h3 j hj i hi
theorem Cr.other {w : World} {g B i : Nat} {T : TypeId} {m n k : Nat} {f : Nat → Nat → Value} {v : Value} (h : Cr w g T m n k f) (hB : g ≠ B) : Cr (w.setCell ⟨B, i, none⟩ v) g T m n k f := by
  obtain ⟨cur, h1, h2, h3⟩ := h
  exact ⟨cur, (heap_setCell_other _ _ _ _ hB).trans h1, h2, h3⟩
theorem Cr.facts {w : World} {g : Nat} {T : TypeId} {m n k : Nat} {f : Nat → Nat → Value} (h : Cr w g T m n k f) : (∀ i, w.frozen? ⟨g, i, none⟩ = false) ∧ ∀ x, x < n * m → ∃ o, w.cell? ⟨g, x, none⟩ = some o := by
  obtain ⟨cur, h1, h2, h3⟩ := h
  refine ⟨fun i => frozen_of_row _ _ i _ _ h1, fun x hx => ⟨cur[x], ?_⟩⟩
  rw [cell_of_row _ _ _ _ _ _ h1]
  exact Array.getElem?_eq_getElem (by omega)
/-- the cells of texts, of wires -/
abbrev tF (s : Nat → ByteArray) : Nat → Nat → Value := fun j _ => .string (s j)
def wF (t : Nat → ByteArray) (h : Nat → Bool) : Nat → Nat → Value := fun j i => match i with
  | 0 => .string (t j)
  | _ => .bool (h j)
theorem infoStr : (Try.prog.info? 9).map (fun i => (i.zero, i.size, i.bytes)) = some (some (.string ⟨#[]⟩), 1, 16) := by kernel_rfl
theorem infoWi : (Try.prog.info? 70).map (fun i => (i.zero, i.size, i.bytes)) = some (some (.agg #[.string ⟨#[]⟩, .bool false]), 2, 24) := by kernel_rfl

theorem str_self (b : ByteArray) : (b.toList == b.toList) = true := by simp

end Go.Proofs.Ytgflipkhhpkidaa

/- links: not too large, copied, compared (written by mkLnkB.py) -/
namespace Go.Proofs.Ytgflipkhhpkidaa
open Go.RowKit
set_option linter.unusedVariables false
set_option linter.unusedSimpArgs false

/-- a link, plainly -/
structure Lk where
  base : Int
  want : Int
  nw : Nat
  ng : Nat
  nd : Nat
  nu : Nat
  ws : Nat → ByteArray
  gs : Nat → ByteArray
  dt : Nat → ByteArray
  dh : Nat → Bool
  ut : Nat → ByteArray
  uh : Nat → Bool
abbrev l6 (b : Int) (wv : Value) (k : Int) (gv dv uv : Value) : Array Value := #[.int .i64 b, wv, .int .i64 k, gv, dv, uv]
/-- its four rows in memory -/
structure Lv (w : World) (wv gv dv uv : Value) (p : Lk) : Prop where
  wa : Sg w wv 1 p.nw (tF p.ws)
  go : Sg w gv 1 p.ng (tF p.gs)
  dn : Sg w dv 2 p.nd (wF p.dt p.dh)
  up : Sg w uv 2 p.nu (wF p.ut p.uh)
theorem Lv.below {w w' : World} {wv gv dv uv : Value} {p : Lk} (h : Lv w wv gv dv uv p) (hb : Below w.heap.size w w') : Lv w' wv gv dv uv p := ⟨h.wa.below hb, h.go.below hb, h.dn.below hb, h.up.below hb⟩
/-- its rows' lengths and texts are no longer than a Go program can hold -/
def Lsm (b : Nat) (p : Lk) : Prop := (p.nw ≤ b ∧ ∀ j, j < p.nw → (p.ws j).size ≤ b) ∧ (p.ng ≤ b ∧ ∀ j, j < p.ng → (p.gs j).size ≤ b) ∧ (p.nd ≤ b ∧ ∀ j, j < p.nd → (p.dt j).size ≤ b) ∧ (p.nu ≤ b ∧ ∀ j, j < p.nu → (p.ut j).size ≤ b)

theorem box6 {w : World} {B : Nat} {T : TypeId} {x0 x1 x2 x3 x4 x5 : Value} (h : w.heap[B]? = some (.cells #[x0, x1, x2, x3, x4, x5] T (0, 0))) : (∀ i, w.frozen? ⟨B, i, none⟩ = false) ∧ w.cell? ⟨B, 0, none⟩ = some x0 ∧ w.cell? ⟨B, 1, none⟩ = some x1 ∧ w.cell? ⟨B, 2, none⟩ = some x2 ∧ w.cell? ⟨B, 3, none⟩ = some x3 ∧ w.cell? ⟨B, 4, none⟩ = some x4 ∧ w.cell? ⟨B, 5, none⟩ = some x5 :=
  ⟨fun i => frozen_of_row _ _ i _ _ h, (cell_of_row _ _ 0 _ _ _ h).trans rfl, (cell_of_row _ _ 1 _ _ _ h).trans rfl, (cell_of_row _ _ 2 _ _ _ h).trans rfl, (cell_of_row _ _ 3 _ _ _ h).trans rfl, (cell_of_row _ _ 4 _ _ _ h).trans rfl, (cell_of_row _ _ 5 _ _ _ h).trans rfl⟩
theorem heap_bl {w w' : World} {g : Nat} {x : Obj} (h : w.heap[g]? = some x) (hb : Below w.heap.size w w') : w'.heap[g]? = some x := (hb.block g (lt_of_block h)).trans h

/-- a link of the call's own -/
structure Lo (w : World) (base gw gg gd gu : Nat) (p : Lk) : Prop where
  wa : Cr w gw 9 1 p.nw p.nw (tF p.ws)
  go : Cr w gg 9 1 p.ng p.ng (tF p.gs)
  dn : Cr w gd 70 2 p.nd p.nd (wF p.dt p.dh)
  up : Cr w gu 70 2 p.nu p.nu (wF p.ut p.uh)
  lw : base ≤ gw ∧ base ≤ gg ∧ base ≤ gd ∧ base ≤ gu
theorem Lo.below {w w' : World} {base gw gg gd gu : Nat} {p : Lk} (h : Lo w base gw gg gd gu p) (hb : Below w.heap.size w w') : Lo w' base gw gg gd gu p := ⟨h.wa.below hb, h.go.below hb, h.dn.below hb, h.up.below hb, h.lw⟩
abbrev sln (g n : Nat) : Value := .slice (some ⟨g, 0, none⟩) n n
theorem Lo.lv {w : World} {base gw gg gd gu : Nat} {p : Lk} (h : Lo w base gw gg gd gu p) : Lv w (sln gw p.nw) (sln gg p.ng) (sln gd p.nd) (sln gu p.nu) p := ⟨h.wa.sg, h.go.sg, h.dn.sg, h.up.sg⟩
theorem Lo.set {w : World} {base gw gg gd gu B i : Nat} {v : Value} {p : Lk} (h : Lo w base gw gg gd gu p) (hB : B < base) : Lo (w.setCell ⟨B, i, none⟩ v) base gw gg gd gu p := ⟨h.wa.other (by have := h.lw; omega), h.go.other (by have := h.lw; omega), h.dn.other (by have := h.lw; omega), h.up.other (by have := h.lw; omega), h.lw⟩

/-- two links compared: their boxes -/
structure Ex (w wr : World) (a b : Array Value) : Prop where
  bel : Below w.heap.size w wr
  a : wr.heap[w.heap.size]? = some (.cells a 27 (0, 0))
  b : wr.heap[w.heap.size + 1]? = some (.cells b 27 (0, 0))
theorem Ex.call {w wr w' : World} {a b : Array Value} (h : Ex w wr a b) (hb : Below wr.heap.size wr w') : Ex w w' a b := ⟨h.bel.trans (hb.mono h.bel.size), heap_bl h.a hb, heap_bl h.b hb⟩

end Go.Proofs.Ytgflipkhhpkidaa
