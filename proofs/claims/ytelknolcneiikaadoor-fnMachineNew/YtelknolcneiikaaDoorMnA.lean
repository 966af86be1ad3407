/- impl.MachineNew -/
import Derived.Test.YtelknolcneiikaaDoorMkY
import Derived.Test.YtelknolcneiikaaDoorMsI
import Derived.Deep.RegionHeld3
import Derived.Deep.DeepCutAuto
namespace Go.Proofs.YtelknolcneiikaaDoor
open Go.RowKit
set_option linter.unusedVariables false
set_option linter.unusedSimpArgs false

theorem infoSlotZ : (Tryd.prog.info? 47).map (fun i => (i.zero, i.size, i.bytes)) = some (some (.agg #[.int .i64 0, .int .i64 0, .int .i64 0, .int .i64 0]), 4, 32) := by kernel_rfl
theorem make_rows (C : Nat) (hC : C ≤ 5) (W : World) : (Instr.makeSlice 26 (.int .i64 (C : Int)) (.int .i64 (C : Int))).run Tryd.prog W = .ok (full W.heap.size C) (W.alloc (.cells (madeCells #[.slice none 0 0] (C * 1)) 43)) := by
  obtain ⟨i0, hi, hz0, hz1, hz2⟩ := info_parts infoSlots
  have h := run_make (P := Tryd.prog) (w := W) 26 43 i0 (.slice none 0 0) Tryd.underlying26 hi hz0 .i64 .i64 (C : Int) (C : Int) (by omega) (by omega) (by rw [hz2]; omega) (by omega)
  rw [hz1] at h
  exact h
theorem make_lines (N : Nat) (hN : N ≤ 4) (W : World) : (Instr.makeSlice 27 (.int .i64 (N : Int)) (.int .i64 (N : Int))).run Tryd.prog W = .ok (full W.heap.size N) (W.alloc (.cells (madeCells zln (N * 7)) 51)) := by
  obtain ⟨i0, hi, hz0, hz1, hz2⟩ := info_parts infoLine
  have h := run_make (P := Tryd.prog) (w := W) 27 51 i0 (.agg zln) Tryd.underlying27 hi hz0 .i64 .i64 (N : Int) (N : Int) (by omega) (by omega) (by rw [hz2]; omega) (by omega)
  rw [hz1] at h
  exact h
theorem make_slots (N : Nat) (hN : N ≤ 4) (W : World) : (Instr.makeSlice 43 (.int .i64 (N : Int)) (.int .i64 (N : Int))).run Tryd.prog W = .ok (full W.heap.size N) (W.alloc (.cells (madeCells #[.int .i64 0, .int .i64 0, .int .i64 0, .int .i64 0] (N * 4)) 47)) := by
  obtain ⟨i0, hi, hz0, hz1, hz2⟩ := info_parts infoSlotZ
  have h := run_make (P := Tryd.prog) (w := W) 43 47 i0 (.agg #[.int .i64 0, .int .i64 0, .int .i64 0, .int .i64 0]) Tryd.underlying43 hi hz0 .i64 .i64 (N : Int) (N : Int) (by omega) (by omega) (by rw [hz2]; omega) (by omega)
  rw [hz1] at h
  exact h

set_option maxHeartbeats 4000000 in
theorem implNew_no (c l : Int) (w : World) (h : sizeB c l = false) : Calls Tryd.prog 6 #[.int .i64 c, .int .i64 l] w fun e w' => e = .returned (.tuple #[.agg (mc3 (.slice none 0 0) (.slice none 0 0) (.slice none 0 0)), .bool false]) ∧ Below w.heap.size w w' := by
  have hs := fun W => sizeOk_any c l W
  rw [h] at hs
  go_enter Tryd.func6, Tryd.ntmps6
  go_wp2_with fail
  refine (hs _).mono ?_
  rintro e w1 ⟨rfl, rfl⟩
  go_wp2
  refine bodyPost_ret (v := .tuple #[.agg (mc3 (.slice none 0 0) (.slice none 0 0) (.slice none 0 0)), .bool false]) (by simp [results, Tryd.results6, go_sem]) rfl ⟨rfl, ?_⟩
  exact (Below.refl _ _).alloc (Nat.le_refl _) _

/-- what a new machine's makes have laid: the box gb, the rows' block g1, the lines' block g2 -/
structure In0 (w wc : World) (C N gb g1 g2 : Nat) (RS RL : Array Value) : Prop where
  bel : Below w.heap.size w wc
  res : wc.heap[w.heap.size]? = some (.cells #[.slice none 0 0, .slice none 0 0, .slice none 0 0] 30 (0, 0))
  box : wc.heap[gb]? = some (.cells (mc3 (full g1 C) (full g2 N) (.slice none 0 0)) 30 (0, 0))
  rows : wc.heap[g1]? = some (.cells RS 43 (0, 0))
  lines : wc.heap[g2]? = some (.cells RL 51 (0, 0))
  ne : g1 ≠ g2 ∧ gb ≠ g1 ∧ gb ≠ g2 ∧ w.heap.size < gb ∧ w.heap.size < g1 ∧ w.heap.size < g2
theorem lt_of_block' {w : World} {g : Nat} {o : Obj} (h : w.heap[g]? = some o) : g < w.heap.size := by
  by_cases hg : g < w.heap.size
  · exact hg
  · rw [Array.getElem?_eq_none (by omega)] at h; cases h
theorem In0.drew {w wc : World} {C N gb g1 g2 : Nat} {RS RL : Array Value} (h : In0 w wc C N gb g1 g2 RS RL) : In0 w wc.drew C N gb g1 g2 RS RL := ⟨h.bel.drew, h.res, h.box, h.rows, h.lines, h.ne⟩
theorem four (w : World) (o0 o1 o2 o3 : Obj) : Below w.heap.size w ((((w.alloc o0).alloc o1).alloc o2).alloc o3) ∧ ((((w.alloc o0).alloc o1).alloc o2).alloc o3).heap[w.heap.size]? = some o0 ∧ ((((w.alloc o0).alloc o1).alloc o2).alloc o3).heap[w.heap.size + 1]? = some o1 ∧ ((((w.alloc o0).alloc o1).alloc o2).alloc o3).heap[w.heap.size + 1 + 1]? = some o2 ∧ ((((w.alloc o0).alloc o1).alloc o2).alloc o3).heap[w.heap.size + 1 + 1 + 1]? = some o3 := by
  refine ⟨(((((Below.refl _ _).alloc (Nat.le_refl _) _).alloc (by simp only [World.size_alloc]; omega) _).alloc (by simp only [World.size_alloc]; omega) _).alloc (by simp only [World.size_alloc]; omega) _), ?_, ?_, ?_, ?_⟩
  · rw [Below.heap_alloc _ _ _ (by simp only [World.size_alloc]; omega), Below.heap_alloc _ _ _ (by simp only [World.size_alloc]; omega), Below.heap_alloc _ _ _ (by simp only [World.size_alloc]; omega)]; exact heap_alloc_new _ _
  · rw [Below.heap_alloc _ _ _ (by simp only [World.size_alloc]; omega), Below.heap_alloc _ _ _ (by simp only [World.size_alloc]; omega)]; have := heap_alloc_new (w.alloc o0) o1; simpa only [World.size_alloc] using this
  · rw [Below.heap_alloc _ _ _ (by simp only [World.size_alloc]; omega)]; have := heap_alloc_new ((w.alloc o0).alloc o1) o2; simpa only [World.size_alloc] using this
  · have := heap_alloc_new (((w.alloc o0).alloc o1).alloc o2) o3; simpa only [World.size_alloc] using this

theorem in0_0 (w : World) (C N : Nat) (RS RL : Array Value) : In0 w ((((w.alloc (.cells #[.slice none 0 0, .slice none 0 0, .slice none 0 0] 30)).alloc (.cells RS 43)).alloc (.cells RL 51)).alloc (.cells (mc3 (full (w.heap.size + 1) C) (full (w.heap.size + 1 + 1) N) (.slice none 0 0)) 30)) C N (w.heap.size + 1 + 1 + 1) (w.heap.size + 1) (w.heap.size + 1 + 1) RS RL := by
  obtain ⟨hb, h0, h1, h2, h3⟩ := four w (.cells #[.slice none 0 0, .slice none 0 0, .slice none 0 0] 30) (.cells RS 43) (.cells RL 51) (.cells (mc3 (full (w.heap.size + 1) C) (full (w.heap.size + 1 + 1) N) (.slice none 0 0)) 30)
  exact ⟨hb, h0, h3, h1, h2, by omega, by omega, by omega, by omega, by omega, by omega⟩
theorem in0_1 (w : World) (C N : Nat) (RS RL : Array Value) : In0 w ((((w.alloc (.cells #[.slice none 0 0, .slice none 0 0, .slice none 0 0] 30)).alloc (.cells RS 43)).alloc (.cells (mc3 (full (w.heap.size + 1) C) (full (w.heap.size + 1 + 1 + 1) N) (.slice none 0 0)) 30)).alloc (.cells RL 51)) C N (w.heap.size + 1 + 1) (w.heap.size + 1) (w.heap.size + 1 + 1 + 1) RS RL := by
  obtain ⟨hb, h0, h1, h2, h3⟩ := four w (.cells #[.slice none 0 0, .slice none 0 0, .slice none 0 0] 30) (.cells RS 43) (.cells (mc3 (full (w.heap.size + 1) C) (full (w.heap.size + 1 + 1 + 1) N) (.slice none 0 0)) 30) (.cells RL 51)
  exact ⟨hb, h0, h2, h1, h3, by omega, by omega, by omega, by omega, by omega, by omega⟩
theorem in0_2 (w : World) (C N : Nat) (RS RL : Array Value) : In0 w ((((w.alloc (.cells #[.slice none 0 0, .slice none 0 0, .slice none 0 0] 30)).alloc (.cells RL 51)).alloc (.cells RS 43)).alloc (.cells (mc3 (full (w.heap.size + 1 + 1) C) (full (w.heap.size + 1) N) (.slice none 0 0)) 30)) C N (w.heap.size + 1 + 1 + 1) (w.heap.size + 1 + 1) (w.heap.size + 1) RS RL := by
  obtain ⟨hb, h0, h1, h2, h3⟩ := four w (.cells #[.slice none 0 0, .slice none 0 0, .slice none 0 0] 30) (.cells RL 51) (.cells RS 43) (.cells (mc3 (full (w.heap.size + 1 + 1) C) (full (w.heap.size + 1) N) (.slice none 0 0)) 30)
  exact ⟨hb, h0, h3, h2, h1, by omega, by omega, by omega, by omega, by omega, by omega⟩
theorem in0_3 (w : World) (C N : Nat) (RS RL : Array Value) : In0 w ((((w.alloc (.cells #[.slice none 0 0, .slice none 0 0, .slice none 0 0] 30)).alloc (.cells RL 51)).alloc (.cells (mc3 (full (w.heap.size + 1 + 1 + 1) C) (full (w.heap.size + 1) N) (.slice none 0 0)) 30)).alloc (.cells RS 43)) C N (w.heap.size + 1 + 1) (w.heap.size + 1 + 1 + 1) (w.heap.size + 1) RS RL := by
  obtain ⟨hb, h0, h1, h2, h3⟩ := four w (.cells #[.slice none 0 0, .slice none 0 0, .slice none 0 0] 30) (.cells RL 51) (.cells (mc3 (full (w.heap.size + 1 + 1 + 1) C) (full (w.heap.size + 1) N) (.slice none 0 0)) 30) (.cells RS 43)
  exact ⟨hb, h0, h2, h3, h1, by omega, by omega, by omega, by omega, by omega, by omega⟩
theorem in0_4 (w : World) (C N : Nat) (RS RL : Array Value) : In0 w ((((w.alloc (.cells #[.slice none 0 0, .slice none 0 0, .slice none 0 0] 30)).alloc (.cells (mc3 (full (w.heap.size + 1 + 1) C) (full (w.heap.size + 1 + 1 + 1) N) (.slice none 0 0)) 30)).alloc (.cells RS 43)).alloc (.cells RL 51)) C N (w.heap.size + 1) (w.heap.size + 1 + 1) (w.heap.size + 1 + 1 + 1) RS RL := by
  obtain ⟨hb, h0, h1, h2, h3⟩ := four w (.cells #[.slice none 0 0, .slice none 0 0, .slice none 0 0] 30) (.cells (mc3 (full (w.heap.size + 1 + 1) C) (full (w.heap.size + 1 + 1 + 1) N) (.slice none 0 0)) 30) (.cells RS 43) (.cells RL 51)
  exact ⟨hb, h0, h1, h2, h3, by omega, by omega, by omega, by omega, by omega, by omega⟩
theorem in0_5 (w : World) (C N : Nat) (RS RL : Array Value) : In0 w ((((w.alloc (.cells #[.slice none 0 0, .slice none 0 0, .slice none 0 0] 30)).alloc (.cells (mc3 (full (w.heap.size + 1 + 1 + 1) C) (full (w.heap.size + 1 + 1) N) (.slice none 0 0)) 30)).alloc (.cells RL 51)).alloc (.cells RS 43)) C N (w.heap.size + 1) (w.heap.size + 1 + 1 + 1) (w.heap.size + 1 + 1) RS RL := by
  obtain ⟨hb, h0, h1, h2, h3⟩ := four w (.cells #[.slice none 0 0, .slice none 0 0, .slice none 0 0] 30) (.cells (mc3 (full (w.heap.size + 1 + 1 + 1) C) (full (w.heap.size + 1 + 1) N) (.slice none 0 0)) 30) (.cells RL 51) (.cells RS 43)
  exact ⟨hb, h0, h1, h3, h2, by omega, by omega, by omega, by omega, by omega, by omega⟩
/-- k rows laid -/
structure In1 (w wc : World) (C N gb g1 g2 k : Nat) (ib : Nat → Nat) (RL RW : Array Value) : Prop where
  bel : Below w.heap.size w wc
  res : wc.heap[w.heap.size]? = some (.cells #[.slice none 0 0, .slice none 0 0, .slice none 0 0] 30 (0, 0))
  box : wc.heap[gb]? = some (.cells (mc3 (full g1 C) (full g2 N) (.slice none 0 0)) 30 (0, 0))
  lines : wc.heap[g2]? = some (.cells RL 51 (0, 0))
  ne : g1 ≠ g2 ∧ gb ≠ g1 ∧ gb ≠ g2 ∧ w.heap.size < gb ∧ w.heap.size < g1 ∧ w.heap.size < g2
  rows : ∃ cur : Array Value, wc.heap[g1]? = some (.cells cur 43 (0, 0)) ∧ cur.size = C ∧ ∀ c, c < k → cur[c]? = some (full (ib c) N)
  row : ∀ c, c < k → wc.heap[ib c]? = some (.cells RW 47 (0, 0)) ∧ ib c ≠ g1 ∧ ib c ≠ g2 ∧ ib c ≠ gb ∧ w.heap.size < ib c
  inj : ∀ c c', c < k → c' < k → ib c = ib c' → c = c'
theorem In1.cells {w wc : World} {C N gb g1 g2 k : Nat} {ib : Nat → Nat} {RL RW : Array Value} (h : In1 w wc C N gb g1 g2 k ib RL RW) : wc.cell? ⟨gb, 0, none⟩ = some (full g1 C) ∧ wc.cell? ⟨gb, 1, none⟩ = some (full g2 N) ∧ wc.cell? ⟨gb, 2, none⟩ = some (.slice none 0 0) := (row3_facts h.box).2
theorem In1.facts {w wc : World} {C N gb g1 g2 k j : Nat} {ib : Nat → Nat} {RL RW : Array Value} (h : In1 w wc C N gb g1 g2 k ib RL RW) (hj : j < C) : (∀ i, wc.frozen? ⟨g1, i, none⟩ = false) ∧ ∃ o, wc.cell? ⟨g1, j, none⟩ = some o := by
  obtain ⟨cur, h1, h2, _⟩ := h.rows
  refine ⟨fun i => frozen_of_row _ _ i _ _ h1, cur[j], ?_⟩
  rw [cell_of_row _ _ _ _ _ _ h1]
  exact Array.getElem?_eq_getElem (by omega)
theorem In1.alloc1 {w wc : World} {C N gb g1 g2 k j : Nat} {ib : Nat → Nat} {RL RW : Array Value} (h : In1 w wc C N gb g1 g2 k ib RL RW) (o : Obj) (hj : j < C) : ∀ i, (wc.alloc o).frozen? ⟨g1, i, none⟩ = false := by
  obtain ⟨cur, h1, h2, _⟩ := h.rows
  have hA : Below wc.heap.size wc (wc.alloc o) := (Below.refl _ _).alloc (Nat.le_refl _) _
  exact fun i => frozen_of_row _ _ i _ _ ((hA.block g1 (lt_of_block h1)).trans h1)
theorem in1_start {w wc : World} {C N gb g1 g2 : Nat} {ib : Nat → Nat} {RS RL RW : Array Value} (h : In0 w wc C N gb g1 g2 RS RL) (hR : RS.size = C) : In1 w wc C N gb g1 g2 0 ib RL RW :=
  ⟨h.bel, h.res, h.box, h.lines, h.ne, ⟨RS, h.rows, hR, fun c hc => by omega⟩, fun c hc => by omega, fun c c' hc => by omega⟩
theorem In1.put {w wc : World} {C N gb g1 g2 k : Nat} {ib : Nat → Nat} {RL RW : Array Value} (h : In1 w wc C N gb g1 g2 k ib RL RW) (hk : k < C) :
    In1 w ((wc.alloc (.cells RW 47)).setCell ⟨g1, k, none⟩ (full wc.heap.size N)) C N gb g1 g2 (k + 1) (fun c => if c = k then wc.heap.size else ib c) RL RW := by
  have hA : Below wc.heap.size wc (wc.alloc (.cells RW 47)) := (Below.refl _ _).alloc (Nat.le_refl _) _
  obtain ⟨n1, n2, n3, n4, n5, n6⟩ := h.ne
  obtain ⟨cur, r1, r2, r3⟩ := h.rows
  have l0 := lt_of_block h.res
  have lb := lt_of_block h.box
  have l1 := lt_of_block r1
  have l2 := lt_of_block h.lines
  have keep : ∀ (g : Nat) (o : Obj), g ≠ g1 → wc.heap[g]? = some o → ((wc.alloc (.cells RW 47)).setCell ⟨g1, k, none⟩ (full wc.heap.size N)).heap[g]? = some o := fun g o hg ho => by
    rw [heap_setCell_other _ _ _ _ hg, hA.block g (lt_of_block' ho)]; exact ho
  refine ⟨(h.bel.alloc h.bel.size _).setCell (show w.heap.size ≤ g1 by omega) _, keep _ _ (by omega) h.res, keep _ _ n2 h.box, keep _ _ (fun e => n1 e.symm) h.lines, h.ne, ?_, ?_, ?_⟩
  · refine ⟨_, heap_setCell_same _ g1 k _ _ _ ((hA.block g1 l1).trans r1), by simpa using r2, fun c hc => ?_⟩
    by_cases e : c = k
    · subst e
      rw [if_pos rfl, Array.getElem?_setIfInBounds_self_of_lt (by omega)]
    · rw [if_neg e, Array.getElem?_setIfInBounds_ne (by omega)]; exact r3 c (by omega)
  · intro c hc
    by_cases e : c = k
    · subst e
      rw [if_pos rfl]
      refine ⟨?_, by omega, by omega, by omega, by omega⟩
      rw [heap_setCell_other _ _ _ _ (by show wc.heap.size ≠ g1; omega)]; exact heap_alloc_new _ _
    · rw [if_neg e]
      obtain ⟨a, b1, b2, b3, b4⟩ := h.row c (by omega)
      exact ⟨keep _ _ b1 a, b1, b2, b3, b4⟩
  · intro c c' hc hc' he
    have hl : ∀ x, x < k → ib x < wc.heap.size := fun x hx => lt_of_block (h.row x hx).1
    by_cases e : c = k
    · by_cases e' : c' = k
      · omega
      · rw [if_pos e, if_neg e'] at he
        have := hl c' (by omega)
        omega
    · by_cases e' : c' = k
      · rw [if_neg e, if_pos e'] at he
        have := hl c (by omega)
        omega
      · rw [if_neg e, if_neg e'] at he
        exact h.inj c c' (by omega) (by omega) he

theorem In1.drew {w wc : World} {C N gb g1 g2 k : Nat} {ib : Nat → Nat} {RL RW : Array Value} (h : In1 w wc C N gb g1 g2 k ib RL RW) : In1 w wc.drew C N gb g1 g2 k ib RL RW := ⟨h.bel.drew, h.res, h.box, h.lines, h.ne, h.rows, h.row, h.inj⟩
/-- the machine's blocks alone -/
structure In2 (w wc : World) (C N g1 g2 : Nat) (ib : Nat → Nat) (RL RW : Array Value) : Prop where
  bel : Below w.heap.size w wc
  lines : wc.heap[g2]? = some (.cells RL 51 (0, 0))
  ne : g1 ≠ g2 ∧ w.heap.size < g1 ∧ w.heap.size < g2
  rows : ∃ cur : Array Value, wc.heap[g1]? = some (.cells cur 43 (0, 0)) ∧ cur.size = C ∧ ∀ c, c < C → cur[c]? = some (full (ib c) N)
  row : ∀ c, c < C → wc.heap[ib c]? = some (.cells RW 47 (0, 0)) ∧ ib c ≠ g1 ∧ ib c ≠ g2 ∧ w.heap.size < ib c
  inj : ∀ c c', c < C → c' < C → ib c = ib c' → c = c'
theorem In1.in2 {w wc : World} {C N gb g1 g2 : Nat} {ib : Nat → Nat} {RL RW : Array Value} (h : In1 w wc C N gb g1 g2 C ib RL RW) : In2 w wc C N g1 g2 ib RL RW :=
  ⟨h.bel, h.lines, ⟨h.ne.1, h.ne.2.2.2.2.1, h.ne.2.2.2.2.2⟩, h.rows, fun c hc => ⟨(h.row c hc).1, (h.row c hc).2.1, (h.row c hc).2.2.1, (h.row c hc).2.2.2.2⟩, h.inj⟩
theorem In2.set {w wc : World} {C N g1 g2 : Nat} {ib : Nat → Nat} {RL RW : Array Value} (h : In2 w wc C N g1 g2 ib RL RW) (i : Nat) (v : Value) : In2 w (wc.setCell ⟨w.heap.size, i, none⟩ v) C N g1 g2 ib RL RW := by
  have keep : ∀ (g : Nat) (o : Obj), w.heap.size < g → wc.heap[g]? = some o → (wc.setCell ⟨w.heap.size, i, none⟩ v).heap[g]? = some o := fun g o hg ho => by
    rw [heap_setCell_other _ _ _ _ (show g ≠ w.heap.size by omega)]; exact ho
  obtain ⟨cur, r1, r2, r3⟩ := h.rows
  exact ⟨h.bel.setCell (Nat.le_refl _) _, keep _ _ h.ne.2.2 h.lines, h.ne, ⟨cur, keep _ _ h.ne.2.1 r1, r2, r3⟩, fun c hc => ⟨keep _ _ (h.row c hc).2.2.2 (h.row c hc).1, (h.row c hc).2⟩, h.inj⟩
theorem made_at {z : Array Value} {m n x : Nat} (hz : z.size = m) (hx : x < n * m) : (madeCells z (n * m))[x]? = some z[x % m]! := by
  subst hz
  simp [madeCells, hx]
def zLn : LnD := ⟨0, 0, [], 0, 0, 0, 0, fun _ _ => 0⟩
/-- a new machine -/
structure NewM (w w' : World) (C N g1 g2 : Nat) (ib : Nat → Nat) : Prop where
  bel : Below w.heap.size w w'
  rv : RV w' g1 C N ib
  wc2 : Wc w' g2 (N * 7)
  nol : NoL w' g2 N
  ne : g1 ≠ g2 ∧ ∀ c, c < C → ib c ≠ g2
  lo : w.heap.size ≤ g1 ∧ w.heap.size ≤ g2 ∧ ∀ c, c < C → w.heap.size ≤ ib c
  hi : g1 < w'.heap.size
  ss : Ss w' (full g1 C) C (fun _ => N) (fun _ _ _ => 0)
  ls : Ls w' (full g2 N) N (fun _ => zLn)
theorem In2.new {w wc : World} {C N g1 g2 : Nat} {ib : Nat → Nat} {RL RW : Array Value} (h : In2 w wc C N g1 g2 ib RL RW) (hL : madeCells zln (N * 7) = RL) (hW : madeCells #[.int .i64 0, .int .i64 0, .int .i64 0, .int .i64 0] (N * 4) = RW) : NewM w wc C N g1 g2 ib := by
  obtain ⟨cur, r1, r2, r3⟩ := h.rows
  have hat : ∀ c, c < C → wc.cell? ⟨g1, c, none⟩ = some (full (ib c) N) := fun c hc => by rw [cell_of_row _ _ _ _ _ _ r1]; exact r3 c hc
  have hl : ∀ c i, c < N → i < 7 → wc.cell? ⟨g2, c * 7 + i, none⟩ = some zln[i]! := fun c i hc hi => by
    rw [cell_of_row _ _ _ _ _ _ h.lines, ← hL, made_at (m := 7) (show zln.size = 7 from rfl) (by omega)]
    have e : (c * 7 + i) % 7 = i := by omega
    rw [e]
  have hw : ∀ c x, c < C → x < N * 4 → wc.cell? ⟨ib c, x, none⟩ = some (.int .i64 0) := fun c x hc hx => by
    rw [cell_of_row _ _ _ _ _ _ (h.row c hc).1, ← hW, made_at (m := 4) (show (#[Value.int .i64 0, .int .i64 0, .int .i64 0, .int .i64 0] : Array Value).size = 4 from rfl) hx]
    have e : x % 4 = 0 ∨ x % 4 = 1 ∨ x % 4 = 2 ∨ x % 4 = 3 := by omega
    rcases e with e | e | e | e <;> rw [e] <;> rfl
  have s7 : RL.size = N * 7 := by rw [← hL]; simp [madeCells]
  have s4 : RW.size = N * 4 := by rw [← hW]; simp [madeCells]
  refine ⟨h.bel, ⟨hat, fun c hc => ⟨RW, _, (h.row c hc).1, by omega⟩, fun c hc => (h.row c hc).2.1, h.inj⟩, ⟨RL, _, h.lines, by omega⟩, fun c hc => ⟨hl c 2 hc (by omega), hl c 6 hc (by omega)⟩, ⟨h.ne.1, fun c hc => (h.row c hc).2.2.1⟩, ⟨by have := h.ne; omega, by have := h.ne; omega, fun c hc => by have := (h.row c hc).2.2.2; omega⟩, lt_of_block r1, ?_, ?_⟩
  · refine ⟨_, _, rfl, fun _ => ⟨g1, 0, rfl, fun c hc => ⟨_, _, by rw [Nat.zero_add]; exact hat c hc, _, _, rfl, fun _ => ⟨ib c, 0, rfl, fun j hj i hi => ?_⟩⟩⟩⟩
    rw [Nat.zero_add]
    have hj : j < N := hj
    exact hw c (j * 4 + i) hc (by omega)
  · refine ⟨_, _, rfl, fun _ => ⟨g2, 0, rfl, fun c hc => ⟨none, 0, none, 0, ⟨?_, ?_, ?_, ?_, ?_, ?_, ?_⟩, ⟨_, _, rfl, fun h => by simp [zLn] at h⟩, ⟨_, _, rfl, fun h => by simp [zLn] at h⟩⟩⟩⟩
    all_goals rw [Nat.zero_add]
    · exact hl c 0 hc (by omega)
    · exact hl c 1 hc (by omega)
    · exact hl c 2 hc (by omega)
    · exact hl c 3 hc (by omega)
    · exact hl c 4 hc (by omega)
    · exact hl c 5 hc (by omega)
    · exact hl c 6 hc (by omega)


set_option maxHeartbeats 8000000 in
theorem implNew_yes (C N : Nat) (w : World) (hC : C ≤ 5) (hN : N ≤ 4) (h : sizeB (C : Int) (N : Int) = true) : Calls Tryd.prog 6 #[.int .i64 C, .int .i64 N] w fun e w' => ∃ g1 g2 ib, e = .returned (.tuple #[.agg (mc3 (full g1 C) (full g2 N) (.slice none 0 0)), .bool true]) ∧ NewM w w' C N g1 g2 ib := by
  have hs := fun W => sizeOk_any (C : Int) (N : Int) W
  rw [h] at hs
  have hm1 := make_rows C hC
  have hm2 := make_lines N hN
  have hm3 := make_slots N hN
  have hRS : (madeCells #[.slice none 0 0] (C * 1)).size = C := by simp [madeCells]
  generalize madeCells #[.slice none 0 0] (C * 1) = RS at hm1 hRS
  obtain ⟨RL, hRL⟩ : ∃ RL, madeCells zln (N * 7) = RL := ⟨_, rfl⟩
  rw [hRL] at hm2
  have HRL := hide hRL
  obtain ⟨RW, hRW⟩ : ∃ RW, madeCells #[.int .i64 0, .int .i64 0, .int .i64 0, .int .i64 0] (N * 4) = RW := ⟨_, rfl⟩
  rw [hRW] at hm3
  have HRW := hide hRW
  clear hRL hRW
  go_enter Tryd.func6, Tryd.ntmps6
  go_wp2_with fail
  refine (hs _).mono ?_
  rintro e w1 ⟨rfl, rfl⟩
  go_upto_region 3 with fail
  go_cut [6] (fun s6 wc => ∃ gb g1 g2, s6 = .pointer (some ⟨gb, 0, none⟩) ∧ Hid (In0 w wc C N gb g1 g2 RS RL))
  case first =>
    go_region
    all_goals (try go_wp2_with fail)
    all_goals go_meet
    all_goals first
      | exact ⟨_, _, _, rfl, hide (in0_0 w C N RS RL).drew⟩
      | exact ⟨_, _, _, rfl, hide (in0_1 w C N RS RL).drew⟩
      | exact ⟨_, _, _, rfl, hide (in0_2 w C N RS RL).drew⟩
      | exact ⟨_, _, _, rfl, hide (in0_3 w C N RS RL).drew⟩
      | exact ⟨_, _, _, rfl, hide (in0_4 w C N RS RL).drew⟩
      | exact ⟨_, _, _, rfl, hide (in0_5 w C N RS RL).drew⟩
  case rest =>
    obtain ⟨gb, g1, g2, rfl, H0⟩ := hcut
    have hI : In1 w wc C N gb g1 g2 0 (fun _ => 0) RL RW := in1_start H0.out hRS
    obtain ⟨c0, c1, c2⟩ := hI.cells
    have HC : Hid (C = C) := hide rfl
    clear H0 hm1 hm2
    go_wp2
    go_loopw [21] (fun i wr => ∃ (k : Nat) (ib : Nat → Nat), k ≤ C ∧ i = .int .i64 k ∧ In1 w wr C N gb g1 g2 k ib RL RW) (fun i _ => C - (intOf i).toNat)
    case atStart => exact ⟨0, _, Nat.zero_le _, rfl, hI⟩
    case round =>
      obtain ⟨k, ib, hk, rfl, hk1⟩ := hrel
      clear hI c0 c1 c2
      obtain ⟨c0, c1, c2⟩ := hk1.cells
      by_cases hlt : k < C
      · obtain ⟨fr, o, ho⟩ := hk1.facts hlt
        have HP := hide (hk1.put hlt)
        have hA : Below wr.heap.size wr (wr.alloc (.cells RW 47)) := (Below.refl _ _).alloc (Nat.le_refl _) _
        have d0 : (wr.alloc (.cells RW 47)).drew.cell? ⟨gb, 0, none⟩ = some (full g1 C) := keepc hA c0
        have d1 : (wr.alloc (.cells RW 47)).drew.cell? ⟨gb, 1, none⟩ = some (full g2 N) := keepc hA c1
        have d2 : (wr.alloc (.cells RW 47)).drew.cell? ⟨gb, 2, none⟩ = some (.slice none 0 0) := keepc hA c2
        have d3 : (wr.alloc (.cells RW 47)).drew.cell? ⟨g1, k, none⟩ = some o := keepc hA ho
        have d4 : ∀ i, (wr.alloc (.cells RW 47)).drew.frozen? ⟨g1, i, none⟩ = false := (hk1.alloc1 (.cells RW 47) hlt)
        clear hA
        go_wp2
        go_region
        clear d0 d1 d2 d3 d4 c0 c1 c2 ho fr hk1
        go_wp2
        go_roundw
        case rel => exact ⟨k + 1, _, by omega, by go_num, HP.out.drew⟩
        case measure => simp [intOf]; omega
      · have e : k = C := by omega
        subst e
        obtain ⟨fr, r0, r1, r2⟩ := row3_facts hk1.res
        have hne : ¬ gb = w.heap.size := by have := hk1.ne; omega
        have hne' : ¬ w.heap.size = gb := by have := hk1.ne; omega
        have HK := hide hk1
        clear hk1
        go_wp2
        refine bodyPost_ret (v := .tuple #[.agg (mc3 (full g1 k) (full g2 N) (.slice none 0 0)), .bool true]) (by simp [results, Tryd.results6, go_sem, r0, r1, r2]) rfl ⟨g1, g2, ib, rfl, ?_⟩
        refine In2.new ?_ HRL.out HRW.out
        iterate 3 (refine In2.set ?_ _ _)
        exact HK.out.in2
end Go.Proofs.YtelknolcneiikaaDoor
