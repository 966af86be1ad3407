/- the reader's test (written by mkRgB.py) -/
import Derived.Test.YtokekgfompbdiaaDoorRgA
import Derived.Test.YtokekgfompbdiaaDoorOzA
namespace Go.Proofs.YtokekgfompbdiaaDoor
open Go.RowKit
set_option linter.unusedVariables false
set_option linter.unusedSimpArgs false

theorem OwT.push {wr wx wy : World} {base : Nat} {v v' v2 : Value} {ts : List (List Ac)} {vs : Nat → Value} {xa : List Ac} {o : Obj} (h : OwT wr base v ts vs) (h2 : OwT wx base v ts vs) (hs : base ≤ wr.heap.size) (hs2 : wr.heap.size ≤ wx.heap.size) (ha : OwA wx wr.heap.size v2 xa)
    (ho : wy.ownsRow base 34 1 v' (ts.length + 1) ((List.range ts.length).map vs ++ [v2])) (hg : (wx.alloc o).grownBy wy v.ownBlock) (hat : v'.ownBlock = v.ownBlock ∨ v'.ownBlock = some (wx.alloc o).heap.size) :
    OwT wy base v' (ts ++ [xa]) (fun c => if c = ts.length then v2 else vs c) := by
  have hvb := own_alloc h.row
  have hsa : wx.heap.size + 1 ≤ wy.heap.size := by have := hg.size; simpa using this
  have hgA : wx.grownBy (wx.alloc o) none := World.grownBy_alloc wx o none
  -- a row of the call's own, apart from the outer row, is kept
  have keep : ∀ {base : Nat} {u : Value} {ya : List Ac}, OwA wx base u ya → (∀ g, u.ownBlock = some g → v.ownBlock ≠ some g) → OwA wy base u ya := fun {base u ya} hu hne => OwA.kept (World.ownsRow.alloc hu o : OwA (wx.alloc o) base u ya) hg (fun g hg' => hne g hg')
  have hlen : (ts ++ [xa]).length = ts.length + 1 := by simp
  have hget : ∀ c, c < ts.length → (ts ++ [xa]).getD c [] = ts.getD c [] := fun c hc => by simp [List.getElem?_append_left hc]
  have hlast : (ts ++ [xa]).getD ts.length [] = xa := by simp
  have hv2 := own_alloc ha
  have hvc := fun c hc => own_alloc (h.own c hc)
  have hrow : (List.range (ts.length + 1)).map (fun c => if c = ts.length then v2 else vs c) = (List.range ts.length).map vs ++ [v2] := by
    rw [List.range_succ, List.map_append]
    congr 1
    · apply List.map_congr_left
      intro c hc
      rw [List.mem_range] at hc
      rw [if_neg (by omega)]
    · simp
  show OwT wy base v' (ts ++ [xa]) (fun c => if c = ts.length then v2 else vs c)
  · refine ⟨by rw [hlen, hrow]; exact ho, fun c hc => ?_, fun c hc g hg' => ?_, fun c c' hc hcc g hg' => ?_⟩
    · rw [hlen] at hc
      by_cases e : c = ts.length
      · subst e
        simp only [if_true, hlast]
        exact (keep ha (fun g hg' e => by have := (hv2 g hg').1; have := (hvb g e).2; omega)).mono hs
      · simp only [if_neg e, hget c (by omega)]
        exact keep ((h2.own c (by omega))) (h2.ap c (by omega))
    · rw [hlen] at hc
      intro e
      by_cases ec : c = ts.length
      · simp only [if_pos ec] at hg'
        have q := hv2 g hg'
        rcases hat with e1 | e1
        · rw [e1] at e
          have := (hvb g e).2
          omega
        · rw [e1] at e
          have := Option.some.inj e
          simp at this
          omega
      · simp only [if_neg ec] at hg'
        rcases hat with e1 | e1
        · rw [e1] at e
          exact h.ap c (by omega) g hg' e
        · rw [e1] at e
          have := Option.some.inj e
          have q := (hvc c (by omega) g hg').2
          simp at this
          omega
    · rw [hlen] at hc
      simp only [if_neg (show c' ≠ ts.length by omega)]
      by_cases ec : c = ts.length
      · simp only [if_pos ec] at hg'
        intro e
        have q := (hv2 g hg').1
        have q2 := (hvc c' (by omega) g e).2
        omega
      · simp only [if_neg ec] at hg'
        exact h.inj c c' (by omega) hcc g hg'

theorem OwT.keptG {w w' : World} {base : Nat} {v : Value} {ts : List (List Ac)} {vs : Nat → Value} {row : Option Nat} (h : OwT w base v ts vs) (hg : w.grownBy w' row) (hr : ∀ k, row = some k → v.ownBlock ≠ some k ∧ ∀ c, c < ts.length → (vs c).ownBlock ≠ some k) : OwT w' base v ts vs := by
  refine ⟨World.ownsRow.kept h.row hg ?_, fun c hc => (h.own c hc).kept hg (fun k hk e => (hr k e).2 c hc hk), h.ap, h.inj⟩
  cases hv : v.ownBlock with
  | none => exact .inl rfl
  | some k => exact .inr (fun e => (hr k e.symm).1 hv)
theorem OwT.young {w : World} {base : Nat} {v : Value} {ts : List (List Ac)} {vs : Nat → Value} (h : OwT w base v ts vs) {k : Nat} (hk : k < base) : v.ownBlock ≠ some k ∧ ∀ c, c < ts.length → (vs c).ownBlock ≠ some k :=
  ⟨fun e => by have := (World.ownsRow.lt h.row k e).1; omega, fun c hc e => by have := (World.ownsRow.lt (h.own c hc) k e).1; omega⟩
theorem OwT.old {w : World} {base : Nat} {v : Value} {ts : List (List Ac)} {vs : Nat → Value} (h : OwT w base v ts vs) {k : Nat} (hk : w.heap.size ≤ k) : v.ownBlock ≠ some k ∧ ∀ c, c < ts.length → (vs c).ownBlock ≠ some k :=
  ⟨fun e => by have := (World.ownsRow.lt h.row k e).2; omega, fun c hc e => by have := (World.ownsRow.lt (h.own c hc) k e).2; omega⟩

/-- the world while a test is drawn: its variable B, the result's -/
structure Lw (w wr : World) (g B : Nat) (v : Value) (ts : List (List Ac)) (vs : Nat → Value) : Prop where
  rd : Rdr wr g
  gr : w.grownBy wr (some g)
  res : wr.heap[w.heap.size]? = some (.cells #[.slice none 0 0] 26 (0, 0))
  bx : wr.heap[B]? = some (.cells #[v] 26 (0, 0))
  ot : OwT wr (w.heap.size + 1) v ts vs
  nB : v.ownBlock ≠ some B ∧ ∀ c, c < ts.length → (vs c).ownBlock ≠ some B
  lt : g < w.heap.size
  lB : w.heap.size < B
theorem Rdr.drewR {w : World} {g : Nat} (h : Rdr w g) : Rdr w.drew g := h.below ((Below.refl _ _).drew)
theorem Lw.drawn {w wr w' : World} {g B : Nat} {v : Value} {ts : List (List Ac)} {vs : Nat → Value} (h : Lw w wr g B v ts vs) (hr : Rdr w' g) (hg : wr.grownBy w' (some g)) : Lw w w' g B v ts vs := by
  have hl := h.lt
  have hB := h.lB
  have hb := lt_of_block h.bx
  exact ⟨hr, grown_trans h.gr hg, (hg.block _ (by omega) (fun e => by have := Option.some.inj e; omega)).trans h.res, (hg.block _ hb (fun e => by have := Option.some.inj e; omega)).trans h.bx, h.ot.keptG hg (fun k hk => by have := Option.some.inj hk; subst this; exact h.ot.young (by omega)), h.nB, hl, hB⟩
theorem Lw.drew {w wr : World} {g B : Nat} {v : Value} {ts : List (List Ac)} {vs : Nat → Value} (h : Lw w wr g B v ts vs) : Lw w wr.drew g B v ts vs := h.drawn h.rd.drewR (by have hb := (Below.refl wr.heap.size wr).drew; exact ⟨hb.os, hb.tape, hb.output, hb.size, fun k hk _ => hb.block k hk⟩)
theorem Lw.thread {w wr w' : World} {g B : Nat} {v v2 : Value} {ts : List (List Ac)} {vs : Nat → Value} {xa : List Ac} (h : Lw w wr g B v ts vs) (ht : Tw wr w' g v2 xa) : Lw w w' g B v ts vs := h.drawn ht.rd ht.gr
theorem Lw.cells {w wr : World} {g B : Nat} {v : Value} {ts : List (List Ac)} {vs : Nat → Value} (h : Lw w wr g B v ts vs) : wr.cell? ⟨B, 0, none⟩ = some v ∧ ∀ i, wr.frozen? ⟨B, i, none⟩ = false := ⟨(cell_of_row _ _ 0 _ _ _ h.bx).trans rfl, fun i => frozen_of_row _ _ i _ _ h.bx⟩
theorem Lw.push {w wr wx wy : World} {g B : Nat} {v v' v2 : Value} {ts : List (List Ac)} {vs : Nat → Value} {xa : List Ac} {o : Obj} (h : Lw w wr g B v ts vs) (h2 : Lw w wx g B v ts vs) (hs2 : wr.heap.size ≤ wx.heap.size) (ha : OwA wx wr.heap.size v2 xa)
    (ho : wy.ownsRow (w.heap.size + 1) 34 1 v' (ts.length + 1) ((List.range ts.length).map vs ++ [v2])) (hg : (wx.alloc o).grownBy wy v.ownBlock) (hat : v'.ownBlock = v.ownBlock ∨ v'.ownBlock = some (wx.alloc o).heap.size) :
    Lw w (wy.setCell ⟨B, 0, none⟩ v') g B v' (ts ++ [xa]) (fun c => if c = ts.length then v2 else vs c) ∧ wy.cell? ⟨B, 0, none⟩ = some v ∧ ∀ i, wy.frozen? ⟨B, i, none⟩ = false := by
  have hl := h.lt
  have hB := h.lB
  have hb1 := lt_of_block h.bx
  have hb2 := lt_of_block h2.bx
  have hz1 : w.heap.size + 1 ≤ wr.heap.size := by omega
  have hv := own_alloc h2.ot.row
  have hA := World.grownBy_alloc wx o none
  have hsz : wx.heap.size + 1 ≤ wy.heap.size := by have := hg.size; simpa using this
  have bxy : wy.heap[B]? = some (.cells #[v] 26 (0, 0)) := (hg.block B (by simp; omega) (fun e => h2.nB.1 e.symm)).trans ((hA.block B (by omega) (by simp)).trans h2.bx)
  have rsy : wy.heap[w.heap.size]? = some (.cells #[.slice none 0 0] 26 (0, 0)) := (hg.block _ (by simp; omega) (fun e => by have := (hv _ e.symm).1; omega)).trans ((hA.block _ (by omega) (by simp)).trans h2.res)
  have hv2 := own_alloc ha
  have nB' : v'.ownBlock ≠ some B ∧ ∀ c, c < (ts ++ [xa]).length → (if c = ts.length then v2 else vs c).ownBlock ≠ some B := by
    refine ⟨fun e => ?_, fun c hc e => ?_⟩
    · rcases hat with e1 | e1
      · rw [e1] at e; exact h.nB.1 e
      · rw [e1] at e
        have := Option.some.inj e
        simp at this
        omega
    · by_cases ec : c = ts.length
      · rw [if_pos ec] at e
        have := (hv2 B e).1
        omega
      · rw [if_neg ec] at e
        simp at hc
        exact h.nB.2 c (by omega) e
  have ot := OwT.push h.ot h2.ot hz1 hs2 ha ho hg hat
  refine ⟨⟨?_, ?_, ?_, ?_, ot.keptG (grown_setR wy B 0 v') (fun k hk => by have := Option.some.inj hk; subst this; exact nB'), nB', hl, hB⟩, (cell_of_row _ _ 0 _ _ _ bxy).trans rfl, fun i => frozen_of_row _ _ i _ _ bxy⟩
  · exact ((h2.rd.grown hA (fun k hk => by cases hk)).grown hg (fun k hk => by have := (hv k hk).1; omega)).grown (grown_setR wy B 0 v') (fun k hk => by have := Option.some.inj hk; omega)
  · exact gr_young (gr_young (grown_trans h2.gr (grown_alloc _ _ _)) hg (fun k hk => by have := (hv k hk).1; omega)) (grown_setR wy B 0 v') (fun k hk => by have := Option.some.inj hk; omega)
  · rw [heap_setCell_other _ _ _ _ (by show w.heap.size ≠ B; omega)]; exact rsy
  · have := heap_setCell_same wy B 0 _ _ v' bxy
    simpa using this

theorem Lw.fin {w wr : World} {g B : Nat} {u v : Value} {ts : List (List Ac)} {vs : Nat → Value} (h : Lw w wr g B v ts vs) : (wr.cell? ⟨w.heap.size, 0, none⟩ = some (.slice none 0 0) ∧ ∀ i, wr.frozen? ⟨w.heap.size, i, none⟩ = false) ∧ OwT (wr.setCell ⟨w.heap.size, 0, none⟩ u) w.heap.size v ts vs ∧ Rdr (wr.setCell ⟨w.heap.size, 0, none⟩ u) g ∧ w.grownBy (wr.setCell ⟨w.heap.size, 0, none⟩ u) (some g) := by
  have hl := h.lt
  exact ⟨⟨(cell_of_row _ _ 0 _ _ _ h.res).trans rfl, fun i => frozen_of_row _ _ i _ _ h.res⟩, (h.ot.set (by omega)).mono (by omega), h.rd.grown (grown_setR wr _ 0 u) (fun k hk => by have := Option.some.inj hk; omega), gr_young h.gr (grown_setR wr _ 0 u) (fun k hk => by have := Option.some.inj hk; omega)⟩

/-- what the reader's test is -/
def LiPost (g : Nat) (w : World) (e : Ending) (w' : World) : Prop := ∃ v ts vs, e = .returned (.agg #[v]) ∧ OwT w' w.heap.size v ts vs ∧ Rdr w' g ∧ w.grownBy w' (some g) ∧ (1 ≤ ts.length ∧ ts.length ≤ 2) ∧ ∀ xa ∈ ts, xa.length ≤ 3

set_option maxRecDepth 20000 in
set_option maxHeartbeats 4000000 in
theorem litmus_any (g : Nat) (w : World) (h : Rdr w g) : Calls Tryd.prog 24 #[.pointer (some ⟨g, 0, none⟩)] w (LiPost g w) := by
  obtain ⟨i0, hi, hz0, hz1, hz2⟩ := info_parts infoActs
  have hgl := h.lt
  have r0 : Rdr (w.alloc (.cells #[.slice none 0 0] 26)) g := h.grown (grown_alloc _ _ none) (fun k hk => by cases hk)
  have k0 := heap_alloc_new w (.cells #[.slice none 0 0] 26)
  go_enter Tryd.func24, Tryd.ntmps24
  go_wp2_with fail
  refine (thread_any g 0 _ r0).mono ?_
  rintro e w1 ⟨v0, xa0, rfl, tw0, hx0⟩
  obtain ⟨a0, c0, ev0⟩ := tw0.own.form
  have hz1' : w.heap.size + 1 ≤ w1.heap.size := by have := tw0.gr.size; simpa using this
  obtain ⟨S1, hS1⟩ : ∃ S1, S1 = w1.heap.size := ⟨_, rfl⟩
  obtain ⟨B, hB⟩ : ∃ B, B = w1.heap.size + 1 := ⟨_, rfl⟩
  have HL2 : Hid (Lw w ((w1.alloc (.cells #[v0] 34)).alloc (.cells #[.slice (some ⟨S1, 0, none⟩) 1 1] 26)) g B (.slice (some ⟨S1, 0, none⟩) 1 1) [xa0] (fun _ => v0)) := hide (by
    have hA1 := World.grownBy_alloc w1 (.cells #[v0] 34) none
    have hA2 := World.grownBy_alloc (w1.alloc (.cells #[v0] 34)) (.cells #[.slice (some ⟨S1, 0, none⟩) 1 1] 26) none
    have hrow : (w1.alloc (.cells #[v0] 34)).ownsRow (w.heap.size + 1) 34 1 (.slice (some ⟨S1, 0, none⟩) 1 1) 1 [v0] := by
      rw [hS1]
      exact World.ownsRow_lit w1 #[v0] 1 hz1' (by decide) rfl
    have hown : OwA w1 (w.heap.size + 1) v0 xa0 := by
      have := tw0.own
      simpa using this
    have hlt0 := own_alloc hown
    refine ⟨(tw0.rd.grown hA1 (fun k hk => by cases hk)).grown hA2 (fun k hk => by cases hk), ?_, ?_, ?_, ⟨World.ownsRow.alloc hrow _, fun c hc => ?_, fun c hc k hk e => ?_, fun c c' hc hcc => ?_⟩, ⟨fun e => ?_, fun c hc e => ?_⟩, hgl, by omega⟩
    · exact grown_trans (grown_trans (grown_trans (grown_alloc _ _ _) tw0.gr) (grown_alloc _ _ _)) (grown_alloc _ _ _)
    · exact (hA2.block _ (by simp; omega) (by simp)).trans ((hA1.block _ (by omega) (by simp)).trans ((tw0.gr.block _ (by simp) (fun e => by have := Option.some.inj e; omega)).trans k0))
    · rw [hB]
      have := heap_alloc_new (w1.alloc (.cells #[v0] 34)) (.cells #[.slice (some ⟨S1, 0, none⟩) 1 1] 26)
      simpa only [World.size_alloc] using this
    · simp at hc
      subst hc
      exact World.ownsRow.alloc (World.ownsRow.alloc hown _) _
    · have h1 := (hlt0 k hk).2
      simp [Value.ownBlock] at e
      omega
    · simp at hc
      omega
    · simp [Value.ownBlock] at e
      omega
    · have := (hlt0 B e).2
      omega)
  subst ev0
  have hW2 : (w1.alloc (.cells #[.slice a0 xa0.length c0] 34)).alloc (.cells #[.slice (some ⟨w1.heap.size, 0, none⟩) 1 1] 26) = (w1.alloc (.cells #[.slice a0 xa0.length c0] 34)).alloc (.cells #[.slice (some ⟨S1, 0, none⟩) 1 1] 26) := by rw [hS1]
  obtain ⟨W2, hE2⟩ : ∃ W2, (w1.alloc (.cells #[.slice a0 xa0.length c0] 34)).alloc (.cells #[.slice (some ⟨S1, 0, none⟩) 1 1] 26) = W2 := ⟨_, rfl⟩
  rw [hE2] at HL2 hW2
  have HB := hide hB
  clear tw0 r0 k0 hE2 h
  go_wp2_with fail
  refine (once_any g 6 _ HL2.out.rd (by decide) (by decide)).mono ?_
  rintro e w3 ⟨t, rfl, hr, hg⟩
  have HL3 := hide (HL2.out.drawn hr hg)
  clear hr hg HL2 hW2 W2 HB
  subst hB hS1
  obtain ⟨cb, fb⟩ := HL3.out.cells
  cases t with
  | true =>
    have HF := hide (HL3.out.fin (u := .slice (some ⟨w1.heap.size, 0, none⟩) 1 1))
    obtain ⟨⟨c9, f9⟩, _⟩ := HF.out
    go_wp2
    refine bodyPost_ret (v := .agg #[.slice (some ⟨w1.heap.size, 0, none⟩) 1 1]) (by simp [results, Tryd.results24, go_sem, Act.put, c9]) rfl ⟨_, [xa0], _, rfl, HF.out.2.1, HF.out.2.2.1, HF.out.2.2.2, by simp, fun xa hx => by simp at hx; subst hx; exact hx0⟩
  | false =>
    go_wp2
    refine wp_region_but (z := 7) (S := fun W => W.cell? ⟨w1.heap.size + 1, 0, none⟩ = some (.slice (some ⟨w1.heap.size, 0, none⟩) 1 1)) (by kernel_rfl) cb (fun hHeld => ?_)
    refine wpAnyK_take (i := 0) (v := .pointer (some ⟨w1.heap.size + 1, 0, none⟩)) rfl (by kernel_rfl) (by kernel_rfl) (by kernel_rfl) (by kernel_rfl) (fun _ _ _ h => h) (Or.inl ⟨by rfl, fun w' hSw => ?_⟩) (by assumption) ?_
    · (try dsimp only at hSw); go_simp
    try simp only [Act.put, List.getElem_toArray, List.getElem_cons_zero, List.getElem_cons_succ, List.setIfInBounds_toArray, List.set_cons_zero, List.set_cons_succ]
    refine wpAnyK_take (i := 1) (v := .slice (some ⟨w1.heap.size, 0, none⟩) 1 1) rfl (by kernel_rfl) (by kernel_rfl) (by kernel_rfl) (by kernel_rfl) (fun _ _ _ h => h) (Or.inl ⟨by rfl, fun w' hSw => ?_⟩) (by assumption) ?_
    · (try dsimp only at hSw); go_simp
    try simp only [Act.put, List.getElem_toArray, List.getElem_cons_zero, List.getElem_cons_succ, List.setIfInBounds_toArray, List.set_cons_zero, List.set_cons_succ]
    refine wpAnyK_take (i := 2) (v := .pointer (some ⟨g, 0, none⟩)) rfl (by kernel_rfl) (by kernel_rfl) (by kernel_rfl) (by kernel_rfl) (fun _ _ _ h => h) (Or.inl ⟨by rfl, fun w' hSw => ?_⟩) (by assumption) ?_
    · (try dsimp only at hSw); go_simp
    try simp only [Act.put, List.getElem_toArray, List.getElem_cons_zero, List.getElem_cons_succ, List.setIfInBounds_toArray, List.set_cons_zero, List.set_cons_succ]
    refine wpAnyK_one (i := 3) (by kernel_rfl) rfl (fun K hK => ?_)
    go_simp
    refine (thread_any g 1 _ HL3.out.rd.drewR).mono ?_
    rintro e w5 ⟨v5, xa5, rfl, tw5, hx5⟩
    obtain ⟨a5, c5, ev5⟩ := tw5.own.form
    subst ev5
    have HL5 := hide (HL3.out.drew.thread tw5)
    have HO5 := hide tw5.own
    have HS5 := hide tw5.gr.size
    obtain ⟨cb5, fb5⟩ := HL5.out.cells
    clear tw5
    refine hK.out _ _ (fun _ => cb5) (fun hH => ?_)
    clear hK K hHeld
    have hHeld := hH (by decide)
    clear hH
    try simp only [Act.put, List.getElem_toArray, List.getElem_cons_zero, List.getElem_cons_succ, List.setIfInBounds_toArray, List.set_cons_zero, List.set_cons_succ]
    refine wpAnyK_one (i := 4) (by kernel_rfl) rfl (fun K hK => ?_)
    go_simp
    have hA5 : Below w5.heap.size w5 (w5.alloc (.cells #[.slice a5 xa5.length c5] 34)) := (Below.refl _ _).alloc (Nat.le_refl _) _
    refine hK.out _ _ (fun _ => keepc hA5 cb5) (fun hH => ?_)
    clear hK K hHeld
    have hHeld := hH (by decide)
    clear hH
    try simp only [Act.put, List.getElem_toArray, List.getElem_cons_zero, List.getElem_cons_succ, List.setIfInBounds_toArray, List.set_cons_zero, List.set_cons_succ]
    refine wpAnyK_one (i := 5) (by kernel_rfl) rfl (fun K hK => ?_)
    refine step_append_lies _ (by rfl) _ _ 24 (by rfl) (w.heap.size + 1) 34 i0 _ 1 24 Tryd.underlying24 hi hz0 hz1 hz2 rfl (by omega) (.slice (some ⟨w1.heap.size, 0, none⟩) 1 1) 1 ((List.range 1).map fun _ => .slice a0 xa0.length c0) (by rfl) (World.ownsRow.alloc HL5.out.ot.row _) ⟨w5.heap.size, 0, none⟩ 1 1 [.slice a5 xa5.length c5] (by rfl) (by rfl) (World.news_of_block (cs := #[.slice a5 xa5.length c5]) (t := 34) (fr := (0, 0)) (heap_alloc_new _ _)) (by intro x hx; simp at hx; subst hx; rfl) (by omega) (by unfold maxLen; omega) (by omega) (by have := HL5.out.gr.size; simp; omega) _ rfl ?_
    intro g6 cap6 w6 hown hgrow hat hlt
    obtain ⟨hP, c6, f6⟩ := HL3.out.drew.push HL5.out HS5.out HO5.out hown hgrow (by simp only [Value.ownBlock, World.size_alloc, Option.some.injEq] at hat ⊢; exact hat.imp Eq.symm id)
    refine hK.out _ _ (fun _ => c6) (fun hH => ?_)
    clear hK K hHeld hown hgrow hat
    have hHeld := hH (by decide)
    clear hH
    try simp only [Act.put, List.getElem_toArray, List.getElem_cons_zero, List.getElem_cons_succ, List.setIfInBounds_toArray, List.set_cons_zero, List.set_cons_succ]
    refine wpAnyK_take (i := 6) (v := .pointer (some ⟨w1.heap.size + 1, 0, none⟩)) rfl (by kernel_rfl) (by kernel_rfl) (by kernel_rfl) (by kernel_rfl) (fun _ _ _ h => h) (Or.inl ⟨by rfl, fun w' hSw => ?_⟩) (by assumption) ?_
    · (try dsimp only at hSw); go_simp
    try simp only [Act.put, List.getElem_toArray, List.getElem_cons_zero, List.getElem_cons_succ, List.setIfInBounds_toArray, List.set_cons_zero, List.set_cons_succ]
    refine wpAnyK_one (i := 7) (by kernel_rfl) rfl (fun K hK => ?_)
    go_simp
    refine hK.out _ _ (fun h => absurd rfl h) (fun _ => ?_)
    clear hK K
    try simp only [Act.put, List.getElem_toArray, List.getElem_cons_zero, List.getElem_cons_succ, List.setIfInBounds_toArray, List.set_cons_zero, List.set_cons_succ]
    refine wpAnyK_done (by kernel_rfl) ?_
    have HF := hide (hP.fin (u := .slice (some ⟨g6, 0, none⟩) (1 + 1) cap6))
    obtain ⟨⟨c9, f9⟩, _⟩ := HF.out
    obtain ⟨d9, e9⟩ := hP.cells
    obtain ⟨W7, hE7⟩ : ∃ W7, w6.setCell ⟨w1.heap.size + 1, 0, none⟩ (.slice (some ⟨g6, 0, none⟩) (1 + 1) cap6) = W7 := ⟨_, rfl⟩
    rw [hE7] at hP HF c9 f9 d9 e9
    clear hP hHeld c6 f6 cb5 fb5 HL5 HO5 HS5 hA5 HL3
    go_wp2
    refine bodyPost_ret (v := .agg #[.slice (some ⟨g6, 0, none⟩) (1 + 1) cap6]) (by simp [results, Tryd.results24, go_sem, Act.put, c9]) rfl ⟨_, [xa0] ++ [xa5], _, rfl, HF.out.2.1, HF.out.2.2.1, HF.out.2.2.2, by simp, fun xa hx => by simp at hx; rcases hx with rfl | rfl; exact hx0; exact hx5⟩

end Go.Proofs.YtokekgfompbdiaaDoor
