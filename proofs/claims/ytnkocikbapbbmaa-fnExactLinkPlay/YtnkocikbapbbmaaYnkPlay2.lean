/- LnkB -/
import Derived.Test.YtnkocikbapbbmaaYnkPlay1
/- links: not too large, copied, compared (written by mkLnkB.py) -/
namespace Go.Proofs.Ytnkocikbapbbmaa
open Go.RowKit
set_option linter.unusedVariables false
set_option linter.unusedSimpArgs false

/-- a link, plainly -/
structure Lk where
  base : Int
  want : Int
  nw : Nat
  ng : Nat
  nd : Nat
  nu : Nat
  ws : Nat → ByteArray
  gs : Nat → ByteArray
  dt : Nat → ByteArray
  dh : Nat → Bool
  ut : Nat → ByteArray
  uh : Nat → Bool
abbrev l6 (b : Int) (wv : Value) (k : Int) (gv dv uv : Value) : Array Value := #[.int .i64 b, wv, .int .i64 k, gv, dv, uv]
/-- its four rows in memory -/
structure Lv (w : World) (wv gv dv uv : Value) (p : Lk) : Prop where
  wa : Sg w wv 1 p.nw (tF p.ws)
  go : Sg w gv 1 p.ng (tF p.gs)
  dn : Sg w dv 2 p.nd (wF p.dt p.dh)
  up : Sg w uv 2 p.nu (wF p.ut p.uh)
theorem Lv.below {w w' : World} {wv gv dv uv : Value} {p : Lk} (h : Lv w wv gv dv uv p) (hb : Below w.heap.size w w') : Lv w' wv gv dv uv p := ⟨h.wa.below hb, h.go.below hb, h.dn.below hb, h.up.below hb⟩
/-- its rows' lengths and texts are no longer than a Go program can hold -/
def Lsm (b : Nat) (p : Lk) : Prop := (p.nw ≤ b ∧ ∀ j, j < p.nw → (p.ws j).size ≤ b) ∧ (p.ng ≤ b ∧ ∀ j, j < p.ng → (p.gs j).size ≤ b) ∧ (p.nd ≤ b ∧ ∀ j, j < p.nd → (p.dt j).size ≤ b) ∧ (p.nu ≤ b ∧ ∀ j, j < p.nu → (p.ut j).size ≤ b)

set_option maxHeartbeats 1000000 in
theorem szWire_any (t : ByteArray) (h : Bool) (left : Int) (w : World) (h0 : 0 ≤ left) (hm : left ≤ 1048576) (hl : (t.size : Int) ≤ 9223372036854775807) :
    Calls Try.prog 52 #[.agg #[.string t, .bool h], .int .i64 left] w fun e w' => e = .returned (.int .i64 (if left < t.size then -1 else left - t.size)) ∧ Below w.heap.size w w' := by
  have hw : wrap64 (left - (t.size : Int)) = left - t.size := Go.IntWalk.wrap64_in _ (by omega)
  by_cases hx : left < t.size
  · have hd : decide (left - (t.size : Int) < 0) = true := by simp; omega
    rw [if_pos hx]
    go_enter Try.func52, Try.ntmps52
    go_wp2
    go_ret
    exact ⟨rfl, (Below.refl _ _).alloc (Nat.le_refl _) _⟩
  · have hd : decide (left - (t.size : Int) < 0) = false := by simp; omega
    rw [if_neg hx]
    go_enter Try.func52, Try.ntmps52
    go_wp2
    go_ret
    exact ⟨rfl, (Below.refl _ _).alloc (Nat.le_refl _) _⟩

theorem box6 {w : World} {B : Nat} {T : TypeId} {x0 x1 x2 x3 x4 x5 : Value} (h : w.heap[B]? = some (.cells #[x0, x1, x2, x3, x4, x5] T (0, 0))) : (∀ i, w.frozen? ⟨B, i, none⟩ = false) ∧ w.cell? ⟨B, 0, none⟩ = some x0 ∧ w.cell? ⟨B, 1, none⟩ = some x1 ∧ w.cell? ⟨B, 2, none⟩ = some x2 ∧ w.cell? ⟨B, 3, none⟩ = some x3 ∧ w.cell? ⟨B, 4, none⟩ = some x4 ∧ w.cell? ⟨B, 5, none⟩ = some x5 :=
  ⟨fun i => frozen_of_row _ _ i _ _ h, (cell_of_row _ _ 0 _ _ _ h).trans rfl, (cell_of_row _ _ 1 _ _ _ h).trans rfl, (cell_of_row _ _ 2 _ _ _ h).trans rfl, (cell_of_row _ _ 3 _ _ _ h).trans rfl, (cell_of_row _ _ 4 _ _ _ h).trans rfl, (cell_of_row _ _ 5 _ _ _ h).trans rfl⟩
theorem heap_bl {w w' : World} {g : Nat} {x : Obj} (h : w.heap[g]? = some x) (hb : Below w.heap.size w w') : w'.heap[g]? = some x := (hb.block g (lt_of_block h)).trans h

/-- while a link is copied: the argument's box, the result's, the copy's -/
structure Tl (w wr : World) (a c : Array Value) : Prop where
  bel : Below w.heap.size w wr
  arg : wr.heap[w.heap.size]? = some (.cells a 25 (0, 0))
  res : wr.heap[w.heap.size + 1]? = some (.cells #[.int .i64 0, .slice none 0 0, .int .i64 0, .slice none 0 0, .slice none 0 0, .slice none 0 0] 30 (0, 0))
  out : wr.heap[w.heap.size + 1 + 1]? = some (.cells c 30 (0, 0))
theorem Tl.call {w wr w' : World} {a c : Array Value} (h : Tl w wr a c) (hb : Below wr.heap.size wr w') : Tl w w' a c := ⟨h.bel.trans (hb.mono h.bel.size), heap_bl h.arg hb, heap_bl h.res hb, heap_bl h.out hb⟩
theorem Tl.put {w wr : World} {a c : Array Value} (h : Tl w wr a c) (i : Nat) (v : Value) : Tl w (wr.setCell ⟨w.heap.size + 1 + 1, i, none⟩ v) a (c.setIfInBounds i v) :=
  ⟨h.bel.setCell (by simp; omega) _, (heap_setCell_other _ _ _ _ (by show w.heap.size ≠ w.heap.size + 1 + 1; omega)).trans h.arg, (heap_setCell_other _ _ _ _ (by show w.heap.size + 1 ≠ w.heap.size + 1 + 1; omega)).trans h.res, heap_setCell_same _ _ i _ _ _ h.out⟩

/-- a link of the call's own -/
structure Lo (w : World) (base gw gg gd gu : Nat) (p : Lk) : Prop where
  wa : Cr w gw 9 1 p.nw p.nw (tF p.ws)
  go : Cr w gg 9 1 p.ng p.ng (tF p.gs)
  dn : Cr w gd 73 2 p.nd p.nd (wF p.dt p.dh)
  up : Cr w gu 73 2 p.nu p.nu (wF p.ut p.uh)
  lw : base ≤ gw ∧ base ≤ gg ∧ base ≤ gd ∧ base ≤ gu
theorem Lo.below {w w' : World} {base gw gg gd gu : Nat} {p : Lk} (h : Lo w base gw gg gd gu p) (hb : Below w.heap.size w w') : Lo w' base gw gg gd gu p := ⟨h.wa.below hb, h.go.below hb, h.dn.below hb, h.up.below hb, h.lw⟩
abbrev sln (g n : Nat) : Value := .slice (some ⟨g, 0, none⟩) n n
theorem Lo.lv {w : World} {base gw gg gd gu : Nat} {p : Lk} (h : Lo w base gw gg gd gu p) : Lv w (sln gw p.nw) (sln gg p.ng) (sln gd p.nd) (sln gu p.nu) p := ⟨h.wa.sg, h.go.sg, h.dn.sg, h.up.sg⟩
theorem Lo.set {w : World} {base gw gg gd gu B i : Nat} {v : Value} {p : Lk} (h : Lo w base gw gg gd gu p) (hB : B < base) : Lo (w.setCell ⟨B, i, none⟩ v) base gw gg gd gu p := ⟨h.wa.other (by have := h.lw; omega), h.go.other (by have := h.lw; omega), h.dn.other (by have := h.lw; omega), h.up.other (by have := h.lw; omega), h.lw⟩

set_option maxRecDepth 20000 in
set_option maxHeartbeats 4000000 in
theorem toLink_any (wv gv dv uv : Value) (p : Lk) (w : World) (hv : Lv w wv gv dv uv p) (hs : Lsm 1048576 p) :
    Calls Try.prog 9 #[.agg (l6 p.base wv p.want gv dv uv)] w fun e w' => ∃ gw gg gd gu, e = .returned (.agg (l6 p.base (sln gw p.nw) p.want (sln gg p.ng) (sln gd p.nd) (sln gu p.nu))) ∧ Lo w' w.heap.size gw gg gd gu p ∧ Below w.heap.size w w' := by
  have t0 : Tl w (((w.alloc (.cells (l6 p.base wv p.want gv dv uv) 25)).alloc (.cells #[.int .i64 0, .slice none 0 0, .int .i64 0, .slice none 0 0, .slice none 0 0, .slice none 0 0] 30)).alloc (.cells #[.int .i64 p.base, .slice none 0 0, .int .i64 0, .slice none 0 0, .slice none 0 0, .slice none 0 0] 30)) (l6 p.base wv p.want gv dv uv) #[.int .i64 p.base, .slice none 0 0, .int .i64 0, .slice none 0 0, .slice none 0 0, .slice none 0 0] := by
    refine ⟨(((Below.refl _ _).alloc (Nat.le_refl _) _).alloc (by simp) _).alloc (by simp; omega) _, ?_, ?_, ?_⟩
    · rw [Below.heap_alloc _ _ _ (by simp; omega), Below.heap_alloc _ _ _ (by simp)]; exact heap_alloc_new _ _
    · rw [Below.heap_alloc _ _ _ (by simp)]
      have := heap_alloc_new (w.alloc (.cells (l6 p.base wv p.want gv dv uv) 25)) (.cells #[.int .i64 0, .slice none 0 0, .int .i64 0, .slice none 0 0, .slice none 0 0, .slice none 0 0] 30)
      simpa only [World.size_alloc] using this
    · have := heap_alloc_new ((w.alloc (.cells (l6 p.base wv p.want gv dv uv) 25)).alloc (.cells #[.int .i64 0, .slice none 0 0, .int .i64 0, .slice none 0 0, .slice none 0 0, .slice none 0 0] 30)) (.cells #[.int .i64 p.base, .slice none 0 0, .int .i64 0, .slice none 0 0, .slice none 0 0, .slice none 0 0] 30)
      simpa only [World.size_alloc] using this
  have HV := hide hv
  obtain ⟨⟨wa, wc, rfl, _⟩, ⟨ga, gc, rfl, _⟩, ⟨da, dc, rfl, _⟩, ⟨ua, uc, rfl, _⟩⟩ := hv
  obtain ⟨s1, s2, s3, s4⟩ := hs
  generalize p.base = pb at t0 ⊢
  generalize p.want = pk at t0 ⊢
  obtain ⟨W0, hE0⟩ : ∃ W0, (((w.alloc (.cells (l6 pb (.slice wa p.nw wc) pk (.slice ga p.ng gc) (.slice da p.nd dc) (.slice ua p.nu uc)) 25)).alloc (.cells #[.int .i64 0, .slice none 0 0, .int .i64 0, .slice none 0 0, .slice none 0 0, .slice none 0 0] 30)).alloc (.cells #[.int .i64 pb, .slice none 0 0, .int .i64 0, .slice none 0 0, .slice none 0 0, .slice none 0 0] 30)) = W0 := ⟨_, rfl⟩
  rw [hE0] at t0
  obtain ⟨_, a0, a1, a2, a3, a4, a5⟩ := box6 t0.arg
  have T0 := hide t0
  clear t0
  go_enter Try.func9, Try.ntmps9
  go_wp2_with fail
  refine (toTexts_any _ p.nw p.ws _ (HV.out.wa.below T0.out.bel) s1.1).mono ?_
  rintro e w1 ⟨gw, rfl, hgw, cw, hb1⟩
  have t1 := T0.out.call hb1
  have hz0 : w.heap.size + 1 + 1 < W0.heap.size := lt_of_block T0.out.out
  have lw1 : w.heap.size + 1 + 1 < gw := by omega
  obtain ⟨fo, o0, o1, o2, o3, o4, o5⟩ := box6 t1.out
  clear a0 a1 a2 a3 a4 a5 hE0 T0 hgw
  obtain ⟨_, a0, a1, a2, a3, a4, a5⟩ := box6 t1.arg
  have u1 := (t1.put 1 (sln gw p.nw)).put 2 (.int .i64 pk)
  have cw1 := (cw.other (B := w.heap.size + 1 + 1) (i := 1) (v := sln gw p.nw) (by omega)).other (B := w.heap.size + 1 + 1) (i := 2) (v := .int .i64 pk) (by omega)
  obtain ⟨W1, hE1⟩ : ∃ W1, (w1.setCell ⟨w.heap.size + 1 + 1, 1, none⟩ (sln gw p.nw)).setCell ⟨w.heap.size + 1 + 1, 2, none⟩ (.int .i64 pk) = W1 := ⟨_, rfl⟩
  rw [hE1] at u1 cw1
  have U1 := hide u1
  have C1 := hide cw1
  clear t1 u1 cw1 cw hb1
  obtain ⟨_, b0, b1, b2, b3, b4, b5⟩ := box6 U1.out.arg
  go_wp2_with fail
  refine (toTexts_any _ p.ng p.gs _ (HV.out.go.below U1.out.bel) s2.1).mono ?_
  rintro e w2 ⟨gg, rfl, hg2, c2, hb2⟩
  have t2 := U1.out.call hb2
  have hz2 : w.heap.size + 1 + 1 < W1.heap.size := lt_of_block U1.out.out
  have lw2 : w.heap.size + 1 + 1 < gg := by omega
  obtain ⟨fo, o0, o1, o2, o3, o4, o5⟩ := box6 t2.out
  clear b0 b1 b2 b3 b4 b5
  obtain ⟨_, b0, b1, b2, b3, b4, b5⟩ := box6 t2.arg
  have u2 := t2.put 3 (sln gg p.ng)
  have dC1 := (C1.out.below hb2).other (B := w.heap.size + 1 + 1) (i := 3) (v := sln gg p.ng) (by omega)
  have dC2 := c2.other (B := w.heap.size + 1 + 1) (i := 3) (v := sln gg p.ng) (by omega)
  obtain ⟨W2, hE2⟩ : ∃ W, w2.setCell ⟨w.heap.size + 1 + 1, 3, none⟩ (sln gg p.ng) = W := ⟨_, rfl⟩
  rw [hE2] at u2 dC1 dC2
  have U2 := hide u2
  clear C1 hE1
  have C1 := hide dC1
  have C2 := hide dC2
  clear t2 u2 c2 hb2 dC1 dC2
  clear b0 b1 b2 b3 b4 b5
  obtain ⟨_, b0, b1, b2, b3, b4, b5⟩ := box6 U2.out.arg
  go_wp2_with fail
  refine (toWires_any _ p.nd p.dt p.dh _ (HV.out.dn.below U2.out.bel) s3.1).mono ?_
  rintro e w3 ⟨gd, rfl, hg3, c3, hb3⟩
  have t3 := U2.out.call hb3
  have hz3 : w.heap.size + 1 + 1 < W2.heap.size := lt_of_block U2.out.out
  have lw3 : w.heap.size + 1 + 1 < gd := by omega
  obtain ⟨fo, o0, o1, o2, o3, o4, o5⟩ := box6 t3.out
  clear b0 b1 b2 b3 b4 b5
  obtain ⟨_, b0, b1, b2, b3, b4, b5⟩ := box6 t3.arg
  have u3 := t3.put 4 (sln gd p.nd)
  have dC1 := (C1.out.below hb3).other (B := w.heap.size + 1 + 1) (i := 4) (v := sln gd p.nd) (by omega)
  have dC2 := (C2.out.below hb3).other (B := w.heap.size + 1 + 1) (i := 4) (v := sln gd p.nd) (by omega)
  have dC3 := c3.other (B := w.heap.size + 1 + 1) (i := 4) (v := sln gd p.nd) (by omega)
  obtain ⟨W3, hE3⟩ : ∃ W, w3.setCell ⟨w.heap.size + 1 + 1, 4, none⟩ (sln gd p.nd) = W := ⟨_, rfl⟩
  rw [hE3] at u3 dC1 dC2 dC3
  have U3 := hide u3
  clear C1 C2 hE2
  have C1 := hide dC1
  have C2 := hide dC2
  have C3 := hide dC3
  clear t3 u3 c3 hb3 dC1 dC2 dC3
  clear b0 b1 b2 b3 b4 b5
  obtain ⟨_, b0, b1, b2, b3, b4, b5⟩ := box6 U3.out.arg
  go_wp2_with fail
  refine (toWires_any _ p.nu p.ut p.uh _ (HV.out.up.below U3.out.bel) s4.1).mono ?_
  rintro e w4 ⟨gu, rfl, hg4, c4, hb4⟩
  have t4 := U3.out.call hb4
  have hz4 : w.heap.size + 1 + 1 < W3.heap.size := lt_of_block U3.out.out
  have lw4 : w.heap.size + 1 + 1 < gu := by omega
  obtain ⟨fo, o0, o1, o2, o3, o4, o5⟩ := box6 t4.out
  clear b0 b1 b2 b3 b4 b5
  obtain ⟨_, b0, b1, b2, b3, b4, b5⟩ := box6 t4.arg
  have u4 := t4.put 5 (sln gu p.nu)
  have dC1 := (C1.out.below hb4).other (B := w.heap.size + 1 + 1) (i := 5) (v := sln gu p.nu) (by omega)
  have dC2 := (C2.out.below hb4).other (B := w.heap.size + 1 + 1) (i := 5) (v := sln gu p.nu) (by omega)
  have dC3 := (C3.out.below hb4).other (B := w.heap.size + 1 + 1) (i := 5) (v := sln gu p.nu) (by omega)
  have dC4 := c4.other (B := w.heap.size + 1 + 1) (i := 5) (v := sln gu p.nu) (by omega)
  obtain ⟨W4, hE4⟩ : ∃ W, w4.setCell ⟨w.heap.size + 1 + 1, 5, none⟩ (sln gu p.nu) = W := ⟨_, rfl⟩
  rw [hE4] at u4 dC1 dC2 dC3 dC4
  have U4 := hide u4
  clear C1 C2 C3 hE3
  have C1 := hide dC1
  have C2 := hide dC2
  have C3 := hide dC3
  have C4 := hide dC4
  clear t4 u4 c4 hb4 dC1 dC2 dC3 dC4
  clear b0 b1 b2 b3 b4 b5
  have uo : W4.heap[w.heap.size + 1 + 1]? = some (.cells (l6 pb (sln gw p.nw) pk (sln gg p.ng) (sln gd p.nd) (sln gu p.nu)) 30 (0, 0)) := U4.out.out
  obtain ⟨_, b0, b1, b2, b3, b4, b5⟩ := box6 uo
  obtain ⟨fr, r0, r1, r2, r3, r4, r5⟩ := box6 U4.out.res
  have HL : Hid (Lo W4 (w.heap.size + 1 + 1) gw gg gd gu p) := hide ⟨C1.out, C2.out, C3.out, C4.out, by omega, by omega, by omega, by omega⟩
  have HF : Hid (∀ x0 x1 x2 x3 x4 x5, Lo ((((((W4.setCell ⟨w.heap.size + 1, 0, none⟩ x0).setCell ⟨w.heap.size + 1, 1, none⟩ x1).setCell ⟨w.heap.size + 1, 2, none⟩ x2).setCell ⟨w.heap.size + 1, 3, none⟩ x3).setCell ⟨w.heap.size + 1, 4, none⟩ x4).setCell ⟨w.heap.size + 1, 5, none⟩ x5) w.heap.size gw gg gd gu p ∧ Below w.heap.size w ((((((W4.setCell ⟨w.heap.size + 1, 0, none⟩ x0).setCell ⟨w.heap.size + 1, 1, none⟩ x1).setCell ⟨w.heap.size + 1, 2, none⟩ x2).setCell ⟨w.heap.size + 1, 3, none⟩ x3).setCell ⟨w.heap.size + 1, 4, none⟩ x4).setCell ⟨w.heap.size + 1, 5, none⟩ x5)) := hide (fun x0 x1 x2 x3 x4 x5 => by
    have h := (((((HL.out.set (B := w.heap.size + 1) (i := 0) (v := x0) (by omega)).set (B := w.heap.size + 1) (i := 1) (v := x1) (by omega)).set (B := w.heap.size + 1) (i := 2) (v := x2) (by omega)).set (B := w.heap.size + 1) (i := 3) (v := x3) (by omega)).set (B := w.heap.size + 1) (i := 4) (v := x4) (by omega)).set (B := w.heap.size + 1) (i := 5) (v := x5) (by omega)
    exact ⟨⟨h.wa, h.go, h.dn, h.up, by omega, by omega, by omega, by omega⟩, (((((U4.out.bel.setCell (by simp) _).setCell (by simp) _).setCell (by simp) _).setCell (by simp) _).setCell (by simp) _).setCell (by simp) _⟩)
  clear C1 C2 C3 C4 U1 U2 U3 U4 HL uo
  go_wp2
  refine bodyPost_ret (v := .agg (l6 pb (sln gw p.nw) pk (sln gg p.ng) (sln gd p.nd) (sln gu p.nu))) (by simp [results, Try.results9, go_sem, Act.put, r0, r1, r2, r3, r4, r5]) rfl ⟨gw, gg, gd, gu, rfl, (HF.out _ _ _ _ _ _).1, (HF.out _ _ _ _ _ _).2⟩

/-- two links compared: their boxes -/
structure Ex (w wr : World) (a b : Array Value) : Prop where
  bel : Below w.heap.size w wr
  a : wr.heap[w.heap.size]? = some (.cells a 30 (0, 0))
  b : wr.heap[w.heap.size + 1]? = some (.cells b 30 (0, 0))
theorem Ex.call {w wr w' : World} {a b : Array Value} (h : Ex w wr a b) (hb : Below wr.heap.size wr w') : Ex w w' a b := ⟨h.bel.trans (hb.mono h.bel.size), heap_bl h.a hb, heap_bl h.b hb⟩

set_option maxHeartbeats 2000000 in
theorem eqLink_same (wv gv dv uv wv' gv' dv' uv' : Value) (p : Lk) (w : World) (ha : Lv w wv gv dv uv p) (hb : Lv w wv' gv' dv' uv' p) (hs : Lsm 1048576 p) :
    Calls Try.prog 11 #[.agg (l6 p.base wv p.want gv dv uv), .agg (l6 p.base wv' p.want gv' dv' uv')] w fun e w' => e = .returned (.bool true) ∧ Below w.heap.size w w' := by
  have e0 : Ex w ((w.alloc (.cells (l6 p.base wv p.want gv dv uv) 30)).alloc (.cells (l6 p.base wv' p.want gv' dv' uv') 30)) (l6 p.base wv p.want gv dv uv) (l6 p.base wv' p.want gv' dv' uv') := by
    refine ⟨((Below.refl _ _).alloc (Nat.le_refl _) _).alloc (by simp) _, ?_, ?_⟩
    · rw [Below.heap_alloc _ _ _ (by simp)]; exact heap_alloc_new _ _
    · have := heap_alloc_new (w.alloc (.cells (l6 p.base wv p.want gv dv uv) 30)) (.cells (l6 p.base wv' p.want gv' dv' uv') 30)
      simpa only [World.size_alloc] using this
  have HA := hide ha
  have HB := hide hb
  obtain ⟨⟨wa, wc, rfl, _⟩, ⟨ga, gc, rfl, _⟩, ⟨da, dc, rfl, _⟩, ⟨ua, uc, rfl, _⟩⟩ := ha
  obtain ⟨⟨wa', wc', rfl, _⟩, ⟨ga', gc', rfl, _⟩, ⟨da', dc', rfl, _⟩, ⟨ua', uc', rfl, _⟩⟩ := hb
  obtain ⟨s1, s2, s3, s4⟩ := hs
  generalize p.base = pb at e0 ⊢
  generalize p.want = pk at e0 ⊢
  obtain ⟨W0, hE0⟩ : ∃ W0, ((w.alloc (.cells (l6 pb (.slice wa p.nw wc) pk (.slice ga p.ng gc) (.slice da p.nd dc) (.slice ua p.nu uc)) 30)).alloc (.cells (l6 pb (.slice wa' p.nw wc') pk (.slice ga' p.ng gc') (.slice da' p.nd dc') (.slice ua' p.nu uc')) 30)) = W0 := ⟨_, rfl⟩
  rw [hE0] at e0
  obtain ⟨_, a0, a1, a2, a3, a4, a5⟩ := box6 e0.a
  obtain ⟨_, b0, b1, b2, b3, b4, b5⟩ := box6 e0.b
  have E0 := hide e0
  clear e0
  go_enter Try.func11, Try.ntmps11
  go_wp2_with fail
  refine (eqTexts_same _ _ p.nw p.ws _ (HA.out.wa.below E0.out.bel) (HB.out.wa.below E0.out.bel) s1.1).mono ?_
  rintro e w1 ⟨rfl, hb1⟩
  have E1 := hide (E0.out.call hb1)
  clear a0 a1 a2 a3 a4 a5 b0 b1 b2 b3 b4 b5 hb1 E0 hE0
  obtain ⟨_, a0, a1, a2, a3, a4, a5⟩ := box6 E1.out.a
  obtain ⟨_, b0, b1, b2, b3, b4, b5⟩ := box6 E1.out.b
  go_wp2_with fail
  refine (eqTexts_same _ _ p.ng p.gs _ (HA.out.go.below E1.out.bel) (HB.out.go.below E1.out.bel) s2.1).mono ?_
  rintro e w2 ⟨rfl, hb2⟩
  have E2 := hide (E1.out.call hb2)
  clear a0 a1 a2 a3 a4 a5 b0 b1 b2 b3 b4 b5 hb2 E1
  obtain ⟨_, a0, a1, a2, a3, a4, a5⟩ := box6 E2.out.a
  obtain ⟨_, b0, b1, b2, b3, b4, b5⟩ := box6 E2.out.b
  go_wp2_with fail
  refine (eqWires_same _ _ p.nd p.dt p.dh _ (HA.out.dn.below E2.out.bel) (HB.out.dn.below E2.out.bel) s3.1).mono ?_
  rintro e w3 ⟨rfl, hb3⟩
  have E3 := hide (E2.out.call hb3)
  clear a0 a1 a2 a3 a4 a5 b0 b1 b2 b3 b4 b5 hb3 E2
  obtain ⟨_, a0, a1, a2, a3, a4, a5⟩ := box6 E3.out.a
  obtain ⟨_, b0, b1, b2, b3, b4, b5⟩ := box6 E3.out.b
  go_wp2_with fail
  refine (eqWires_same _ _ p.nu p.ut p.uh _ (HA.out.up.below E3.out.bel) (HB.out.up.below E3.out.bel) s4.1).mono ?_
  rintro e w4 ⟨rfl, hb4⟩
  have E4 := hide (E3.out.call hb4)
  clear a0 a1 a2 a3 a4 a5 b0 b1 b2 b3 b4 b5 hb4 E3
  obtain ⟨_, a0, a1, a2, a3, a4, a5⟩ := box6 E4.out.a
  obtain ⟨_, b0, b1, b2, b3, b4, b5⟩ := box6 E4.out.b
  go_wp2
  go_ret
  exact ⟨rfl, E4.out.bel⟩

end Go.Proofs.Ytnkocikbapbbmaa
