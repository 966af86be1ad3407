/- impl.msgReader: message -/
import Derived.Test.YtpebiebckdmopaaDoorRmB
namespace Go.Proofs.YtpebiebckdmopaaDoor
open Go.RowKit

abbrev Msg6 := Int × Int × Int × Int × Int × Int
abbrev aggOf (m : Msg6) : Value := .agg #[.int .i64 m.1, .int .i64 m.2.1, .int .i64 m.2.2.1, .int .i64 m.2.2.2.1, .int .i64 m.2.2.2.2.1, .int .i64 m.2.2.2.2.2]
abbrev ok6 (m : Msg6) : Bool := okB m.1 m.2.1 m.2.2.1 m.2.2.2.1 m.2.2.2.2.1 m.2.2.2.2.2

def numIf (b : Bool) (ws : List (List UInt8)) : Option (Nat × List (List UInt8)) := if b then num1 ws else some (0, ws)
/-- the last test -/
def lastly (m : Msg6) (ws : List (List UInt8)) : Option Msg6 := if ws = [] ∧ ok6 m = true then some m else none
/-- what message() reads -/
def parse (ws : List (List UInt8)) : Option Msg6 :=
  (kd1 ws).bind fun k => (num1 k.2).bind fun c => (num1 c.2).bind fun l => (numIf (shapeWant k.1) l.2).bind fun wt => (numIf (shapeData k.1) wt.2).bind fun d =>
    lastly (if shapeHome k.1 then ((k.1 : Int), (c.1 : Int), 0, (l.1 : Int), (wt.1 : Int), (d.1 : Int)) else ((k.1 : Int), 0, (c.1 : Int), (l.1 : Int), (wt.1 : Int), (d.1 : Int))) d.2

/-- the world on the way -/
structure RS (w : World) (g R B C : Nat) (m : Array Value) (s : ByteArray) (a b c : Bool) (ws : List (List UInt8)) (wx : World) : Prop where
  gr : w.grownBy wx (some g)
  gt : 0 < g
  gl : g < w.heap.size
  Rl : w.heap.size ≤ R
  RB : R < B
  BC : B < C
  tab : Tab wx
  hR : wx.heap[R]? = some (.cells #[.int .i64 0, .int .i64 0, .int .i64 0, .int .i64 0, .int .i64 0, .int .i64 0] 25 (0, 0))
  hB : wx.heap[B]? = some (.cells m 25 (0, 0))
  hC : wx.heap[C]? = some (.cells #[.string s, .bool a, .bool b, .bool c] 36 (0, 0))
  rs : Rs wx g ws

theorem RS.next {w wx wy : World} {g R B C : Nat} {m : Array Value} {s : ByteArray} {a b c : Bool} {ws r : List (List UInt8)} (h : RS w g R B C m s a b c ws wx) (hg : wx.grownBy wy (some g)) (hr : Rs wy g r) : RS w g R B C m s a b c r wy := by
  have l1 := h.gl; have l2 := h.Rl; have l3 := h.RB; have l4 := h.BC
  refine ⟨rgrown_trans h.gr hg, h.gt, h.gl, h.Rl, h.RB, h.BC, h.tab.grown hg (fun k e => by cases e; exact h.gt), ?_, ?_, ?_, hr⟩
  · rw [hg.block R (lt_of_block h.hR) (fun e => by cases e; omega)]; exact h.hR
  · rw [hg.block B (lt_of_block h.hB) (fun e => by cases e; omega)]; exact h.hB
  · rw [hg.block C (lt_of_block h.hC) (fun e => by cases e; omega)]; exact h.hC

theorem RS.put {w wx : World} {g R B C : Nat} {m : Array Value} {s : ByteArray} {a b c : Bool} {ws : List (List UInt8)} (h : RS w g R B C m s a b c ws wx) (i : Nat) (v : Value) : RS w g R B C (m.setIfInBounds i v) s a b c ws (wx.setCell ⟨B, i, none⟩ v) := by
  have l1 := h.gl; have l2 := h.Rl; have l3 := h.RB; have l4 := h.BC; have l5 := h.gt
  have ho : ∀ k, k ≠ B → (wx.setCell ⟨B, i, none⟩ v).heap[k]? = wx.heap[k]? := fun k hk => heap_setCell_other wx ⟨B, i, none⟩ k _ hk
  have hg : wx.grownBy (wx.setCell ⟨B, i, none⟩ v) (some B) := ⟨rfl, rfl, rfl, by simp, fun k _ hk => ho k (fun e => hk (by rw [e]))⟩
  refine ⟨⟨h.gr.os, h.gr.tape, h.gr.output, by simpa using h.gr.size, fun k hk hne => (ho k (by omega)).trans (h.gr.block k hk hne)⟩, h.gt, h.gl, h.Rl, h.RB, h.BC, h.tab.grown hg (fun k e => by cases e; omega), ?_, ?_, ?_, h.rs.grown hg (fun k e => by cases e; omega)⟩
  · rw [ho R (by omega)]; exact h.hR
  · exact heap_setCell_same wx B i _ _ v h.hB
  · rw [ho C (by omega)]; exact h.hC

theorem RS.facts {w wx : World} {g R B C : Nat} {m : Array Value} {s : ByteArray} {a b c : Bool} {ws : List (List UInt8)} (h : RS w g R B C m s a b c ws wx) :
    (∀ i, wx.frozen? ⟨B, i, none⟩ = false) ∧ wx.cell? ⟨C, 1, none⟩ = some (.bool a) ∧ wx.cell? ⟨C, 2, none⟩ = some (.bool b) ∧ wx.cell? ⟨C, 3, none⟩ = some (.bool c) := by
  refine ⟨fun i => frozen_of_row wx B i _ _ h.hB, ?_, ?_, ?_⟩
  · rw [cell_of_row wx C 1 _ _ _ h.hC]; rfl
  · rw [cell_of_row wx C 2 _ _ _ h.hC]; rfl
  · rw [cell_of_row wx C 3 _ _ _ h.hC]; rfl

theorem RS.six {w wx : World} {g R B C : Nat} {z0 z1 z2 z3 z4 z5 : Value} {s : ByteArray} {a b c : Bool} {ws : List (List UInt8)} (h : RS w g R B C #[z0, z1, z2, z3, z4, z5] s a b c ws wx) :
    wx.cell? ⟨B, 0, none⟩ = some z0 ∧ wx.cell? ⟨B, 1, none⟩ = some z1 ∧ wx.cell? ⟨B, 2, none⟩ = some z2 ∧ wx.cell? ⟨B, 3, none⟩ = some z3 ∧ wx.cell? ⟨B, 4, none⟩ = some z4 ∧ wx.cell? ⟨B, 5, none⟩ = some z5 := by
  refine ⟨?_, ?_, ?_, ?_, ?_, ?_⟩
  · rw [cell_of_row wx B 0 _ _ _ h.hB]; rfl
  · rw [cell_of_row wx B 1 _ _ _ h.hB]; rfl
  · rw [cell_of_row wx B 2 _ _ _ h.hB]; rfl
  · rw [cell_of_row wx B 3 _ _ _ h.hB]; rfl
  · rw [cell_of_row wx B 4 _ _ _ h.hB]; rfl
  · rw [cell_of_row wx B 5 _ _ _ h.hB]; rfl

theorem RS.resF {w wx : World} {g R B C : Nat} {m : Array Value} {s : ByteArray} {a b c : Bool} {ws : List (List UInt8)} (h : RS w g R B C m s a b c ws wx) (i : Nat) : wx.frozen? ⟨R, i, none⟩ = false := frozen_of_row wx R i _ _ h.hR
theorem RS.res {w wx : World} {g R B C : Nat} {m : Array Value} {s : ByteArray} {a b c : Bool} {ws : List (List UInt8)} (h : RS w g R B C m s a b c ws wx) :
    wx.cell? ⟨R, 0, none⟩ = some (.int .i64 0) ∧ wx.cell? ⟨R, 1, none⟩ = some (.int .i64 0) ∧ wx.cell? ⟨R, 2, none⟩ = some (.int .i64 0) ∧ wx.cell? ⟨R, 3, none⟩ = some (.int .i64 0) ∧ wx.cell? ⟨R, 4, none⟩ = some (.int .i64 0) ∧ wx.cell? ⟨R, 5, none⟩ = some (.int .i64 0) := by
  refine ⟨?_, ?_, ?_, ?_, ?_, ?_⟩
  · rw [cell_of_row wx R 0 _ _ _ h.hR]; rfl
  · rw [cell_of_row wx R 1 _ _ _ h.hR]; rfl
  · rw [cell_of_row wx R 2 _ _ _ h.hR]; rfl
  · rw [cell_of_row wx R 3 _ _ _ h.hR]; rfl
  · rw [cell_of_row wx R 4 _ _ _ h.hR]; rfl
  · rw [cell_of_row wx R 5 _ _ _ h.hR]; rfl

theorem kd1_range {ws : List (List UInt8)} {k : Nat} {r : List (List UInt8)} (h : kd1 ws = some (k, r)) : 1 ≤ k ∧ k ≤ 9 := by
  cases ws with
  | nil => cases h
  | cons x y =>
    simp only [kd1, Option.map_eq_some_iff] at h
    obtain ⟨j, hj, e⟩ := h
    cases e
    have := List.mem_of_find?_eq_some hj
    rw [List.mem_range'_1] at this
    omega

theorem RS.fin {w wx : World} {g R B C : Nat} {m : Array Value} {s : ByteArray} {a b c : Bool} {ws : List (List UInt8)} (h : RS w g R B C m s a b c ws wx) (z0 z1 z2 z3 z4 z5 : Value) :
    w.grownBy ((((((wx.setCell ⟨R, 0, none⟩ z0).setCell ⟨R, 1, none⟩ z1).setCell ⟨R, 2, none⟩ z2).setCell ⟨R, 3, none⟩ z3).setCell ⟨R, 4, none⟩ z4).setCell ⟨R, 5, none⟩ z5) (some g) := by
  have put : ∀ (wy : World) i v, w.grownBy wy (some g) → w.grownBy (wy.setCell ⟨R, i, none⟩ v) (some g) := fun wy i v k =>
    ⟨k.os, k.tape, k.output, by simpa using k.size, fun j hj hne => (heap_setCell_other wy ⟨R, i, none⟩ j _ (show j ≠ R by have := h.Rl; omega)).trans (k.block j hj hne)⟩
  exact put _ _ _ (put _ _ _ (put _ _ _ (put _ _ _ (put _ _ _ (put _ _ _ h.gr)))))

theorem RS.start {w w1 : World} {g : Nat} {k : Int} {s : ByteArray} {a b c : Bool} {r : List (List UInt8)} (hg : 0 < g) (hl : g < w.heap.size) (h1 : (w.alloc (.cells #[.int .i64 0, .int .i64 0, .int .i64 0, .int .i64 0, .int .i64 0, .int .i64 0] 25)).grownBy w1 (some g)) (ht : Tab w1) (hr : Rs w1 g r) :
    RS w g w.heap.size w1.heap.size (w1.heap.size + 1) #[.int .i64 k, .int .i64 0, .int .i64 0, .int .i64 0, .int .i64 0, .int .i64 0] s a b c r ((w1.alloc (.cells #[.int .i64 k, .int .i64 0, .int .i64 0, .int .i64 0, .int .i64 0, .int .i64 0] 25)).alloc (.cells #[.string s, .bool a, .bool b, .bool c] 36)) := by
  have hs1 : w.heap.size + 1 ≤ w1.heap.size := by have := h1.size; simpa using this
  have b0 : Below w.heap.size w (w.alloc (.cells #[.int .i64 0, .int .i64 0, .int .i64 0, .int .i64 0, .int .i64 0, .int .i64 0] 25)) := (Below.refl _ _).alloc (Nat.le_refl _) _
  have b1 : Below w1.heap.size w1 ((w1.alloc (.cells #[.int .i64 k, .int .i64 0, .int .i64 0, .int .i64 0, .int .i64 0, .int .i64 0] 25)).alloc (.cells #[.string s, .bool a, .bool b, .bool c] 36)) := ((Below.refl _ _).alloc (Nat.le_refl _) _).alloc (by simp) _
  have g0 := rgrown_of_below b0
  have g0' : w.grownBy (w.alloc (.cells #[.int .i64 0, .int .i64 0, .int .i64 0, .int .i64 0, .int .i64 0, .int .i64 0] 25)) (some g) := ⟨g0.os, g0.tape, g0.output, g0.size, fun k hk _ => g0.block k hk (by simp)⟩
  have g2 := rgrown_of_below b1
  have g2' : w1.grownBy ((w1.alloc (.cells #[.int .i64 k, .int .i64 0, .int .i64 0, .int .i64 0, .int .i64 0, .int .i64 0] 25)).alloc (.cells #[.string s, .bool a, .bool b, .bool c] 36)) (some g) := ⟨g2.os, g2.tape, g2.output, g2.size, fun k hk _ => g2.block k hk (by simp)⟩
  refine ⟨rgrown_trans g0' (rgrown_trans h1 g2'), hg, hl, Nat.le_refl _, by omega, by omega, ht.below b1, ?_, ?_, ?_, hr.below b1⟩
  · rw [b1.block _ (by omega), h1.block w.heap.size (by simp) (fun e => by cases e; omega)]
    exact heap_alloc_new _ _
  · exact heap_alloc2_old _ _ _
  · exact heap_alloc2_new _ _ _

end Go.Proofs.YtpebiebckdmopaaDoor
