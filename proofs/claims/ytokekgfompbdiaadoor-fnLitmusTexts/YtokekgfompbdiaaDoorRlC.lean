/- a test that is being built, thread by thread -/
import Derived.Test.YtokekgfompbdiaaDoorRlB
import Derived.Maps.AppendAt
namespace Go.Proofs.YtokekgfompbdiaaDoor
open Go.RowKit
set_option linter.unusedVariables false
set_option linter.unusedSimpArgs false

/-- rows of acts of the call's own, each in a block of its own -/
structure OwT (w : World) (base : Nat) (v : Value) (ts : List (List Ac)) (vs : Nat → Value) : Prop where
  row : w.ownsRow base 34 1 v ts.length ((List.range ts.length).map vs)
  own : ∀ c, c < ts.length → OwA w base (vs c) (ts.getD c [])
  ap : ∀ c, c < ts.length → ∀ g, (vs c).ownBlock = some g → v.ownBlock ≠ some g
  inj : ∀ c c', c < ts.length → c' < c → ∀ g, (vs c).ownBlock = some g → (vs c').ownBlock ≠ some g
theorem OwA.kept {w w' : World} {base : Nat} {v : Value} {xa : List Ac} {row : Option Nat} (h : OwA w base v xa) (hg : w.grownBy w' row) (hne : ∀ g, v.ownBlock = some g → row ≠ some g) : OwA w' base v xa := by
  refine World.ownsRow.kept h hg ?_
  cases hv : v.ownBlock with
  | none => exact .inl rfl
  | some k => exact .inr (fun e => hne k hv e.symm)
theorem OwT.nil (w : World) (base : Nat) : OwT w base (.slice none 0 0) [] (fun _ => .slice none 0 0) := ⟨World.ownsRow_nil _ _ _ _, fun c hc => by simp at hc, fun c hc => by simp at hc, fun c _ hc => by simp at hc⟩
theorem OwT.below {w w' : World} {base : Nat} {v : Value} {ts : List (List Ac)} {vs : Nat → Value} (h : OwT w base v ts vs) (hb : Below w.heap.size w w') : OwT w' base v ts vs := by
  refine ⟨World.ownsRow.kept h.row (grown_of_below hb) ?_, fun c hc => (h.own c hc).below hb, h.ap, h.inj⟩
  cases hv : v.ownBlock with
  | none => exact .inl rfl
  | some k => exact .inr (by simp)
theorem grown_setR (w : World) (B i : Nat) (v : Value) : w.grownBy (w.setCell ⟨B, i, none⟩ v) (some B) := by
  have hb : Below 0 w (w.setCell ⟨B, i, none⟩ v) := (Below.refl 0 w).setCell (Nat.zero_le _) v
  exact ⟨hb.os, hb.tape, hb.output, hb.size, fun j hj hne => heap_setCell_other _ _ _ _ (fun e => hne (by rw [e]))⟩
theorem OwT.set {w : World} {base B i : Nat} {u v : Value} {ts : List (List Ac)} {vs : Nat → Value} (h : OwT w base v ts vs) (hB : B < base) : OwT (w.setCell ⟨B, i, none⟩ u) base v ts vs := by
  refine ⟨World.ownsRow.kept h.row (grown_setR w B i u) ?_, fun c hc => (h.own c hc).kept (grown_setR w B i u) (fun g hg e => ?_), h.ap, h.inj⟩
  · cases hv : v.ownBlock with
    | none => exact .inl rfl
    | some k => exact .inr (fun e => by have := (World.ownsRow.lt h.row k hv).1; have := Option.some.inj e; omega)
  · have := (World.ownsRow.lt (h.own c hc) g hg).1
    have := Option.some.inj e
    omega
theorem range_at {vs : Nat → Value} {n c : Nat} (h : c < n) : ((List.range n).map vs)[c]? = some (vs c) := by simp [h]
theorem OwA.form {w : World} {base : Nat} {v : Value} {xa : List Ac} (h : OwA w base v xa) : ∃ ad cap, v = .slice ad xa.length cap := by
  rcases h.2 with ⟨h', hn⟩ | ⟨g, cap, cur, h', _⟩
  · exact ⟨none, 0, by rw [hn]; exact h'⟩
  · exact ⟨_, _, h'⟩
/-- a built test is read -/
theorem OwT.sa {w : World} {base : Nat} {v : Value} {ts : List (List Ac)} {vs : Nat → Value} (h : OwT w base v ts vs) : Sa w v ts.length (Lf ts) (Ff ts) := by
  rcases h.row.2 with ⟨h', hn⟩ | ⟨g, cap, cur, h', hb, hg, hnc, hcm, hcs, htake⟩
  · exact ⟨none, 0, by rw [hn]; exact h', fun hp => by omega⟩
  · have hh : w.ownsRow base 34 1 (.slice (some ⟨g, 0, none⟩) ts.length cap) ts.length ((List.range ts.length).map vs) := h' ▸ h.row
    refine ⟨_, cap, h', fun _ => ⟨g, 0, rfl, fun c hc => ?_⟩⟩
    have hs := (h.own c hc).sr
    obtain ⟨ad, k, e⟩ := (h.own c hc).form
    refine ⟨ad, k, ?_, ?_⟩
    · rw [Nat.zero_add, hh.cellAt c (by omega), range_at hc, e]
      rfl
    · rw [e] at hs
      exact hs

/-- the test in its variable B -/
structure Rw (w1 wr : World) (B : Nat) (v : Value) (ts : List (List Ac)) (vs : Nat → Value) : Prop where
  gr : w1.grownBy wr (some B)
  bx : wr.heap[B]? = some (.cells #[v] 26 (0, 0))
  ot : OwT wr w1.heap.size v ts vs
  lt : B < w1.heap.size
theorem Rw.call {w1 wr w' : World} {B : Nat} {v : Value} {ts : List (List Ac)} {vs : Nat → Value} (h : Rw w1 wr B v ts vs) (hb : Below wr.heap.size wr w') : Rw w1 w' B v ts vs := by
  have hs := h.gr.size
  have hl := h.lt
  refine ⟨⟨hb.os.trans h.gr.os, hb.tape.trans h.gr.tape, hb.output.trans h.gr.output, Nat.le_trans hs hb.size, fun k hk hne => (hb.block k (by omega)).trans (h.gr.block k hk hne)⟩, (hb.block B (by omega)).trans h.bx, h.ot.below hb, h.lt⟩
theorem Rw.cells {w1 wr : World} {B : Nat} {v : Value} {ts : List (List Ac)} {vs : Nat → Value} (h : Rw w1 wr B v ts vs) : wr.cell? ⟨B, 0, none⟩ = some v ∧ ∀ i, wr.frozen? ⟨B, i, none⟩ = false := ⟨(cell_of_row _ _ 0 _ _ _ h.bx).trans rfl, fun i => frozen_of_row _ _ i _ _ h.bx⟩
theorem Rw.keep {w1 wr : World} {B : Nat} {v : Value} {ts : List (List Ac)} {vs : Nat → Value} (h : Rw w1 wr B v ts vs) {a : Addr} {u : Value} (hc : w1.cell? a = some u) (hne : a.block ≠ B) : wr.cell? a = some u := by
  rw [World.cell?_of_block (h.gr.block a.block (World.block_lt_of_cell? w1 _ hc) (fun e => hne (Option.some.inj e)))]
  exact hc
theorem own_alloc {w : World} {v : Value} {base : Nat} {T : TypeId} {m n : Nat} {xs : List Value} (h : w.ownsRow base T m v n xs) : ∀ g, v.ownBlock = some g → base ≤ g ∧ g < w.heap.size := fun g hg => World.ownsRow.lt h g hg

theorem Rw.push {w1 wr wx wy : World} {B : Nat} {v v' v2 : Value} {ts : List (List Ac)} {vs : Nat → Value} {xa : List Ac} {o : Obj} (h : Rw w1 wr B v ts vs) (hb : Below wr.heap.size wr wx) (ha : OwA wx wr.heap.size v2 xa)
    (ho : wy.ownsRow w1.heap.size 34 1 v' (ts.length + 1) ((List.range ts.length).map vs ++ [v2])) (hg : (wx.alloc o).grownBy wy v.ownBlock) (hat : v'.ownBlock = v.ownBlock ∨ v'.ownBlock = some (wx.alloc o).heap.size) :
    Rw w1 (wy.setCell ⟨B, 0, none⟩ v') B v' (ts ++ [xa]) (fun c => if c = ts.length then v2 else vs c) ∧ (wy.cell? ⟨B, 0, none⟩ = some v ∧ ∀ i, wy.frozen? ⟨B, i, none⟩ = false) := by
  have h2 := h.call hb
  have hs := h.gr.size
  have hs2 := hb.size
  have hl := h.lt
  have hvb := own_alloc h.ot.row
  have hsa : wx.heap.size + 1 ≤ wy.heap.size := by have := hg.size; simpa using this
  have hgA : wx.grownBy (wx.alloc o) none := World.grownBy_alloc wx o none
  have hBv : some B ≠ v.ownBlock := fun e => by have := (hvb B e.symm).1; omega
  have bxy : wy.heap[B]? = some (.cells #[v] 26 (0, 0)) := (hg.block B (by simp; omega) hBv).trans ((hgA.block B (by omega) (by simp)).trans h2.bx)
  -- a row of the call's own, apart from the outer row, is kept
  have keep : ∀ {base : Nat} {u : Value} {ya : List Ac}, OwA wx base u ya → (∀ g, u.ownBlock = some g → v.ownBlock ≠ some g) → OwA wy base u ya := fun {base u ya} hu hne => OwA.kept (World.ownsRow.alloc hu o : OwA (wx.alloc o) base u ya) hg (fun g hg' => hne g hg')
  have hlen : (ts ++ [xa]).length = ts.length + 1 := by simp
  have hget : ∀ c, c < ts.length → (ts ++ [xa]).getD c [] = ts.getD c [] := fun c hc => by simp [List.getElem?_append_left hc]
  have hlast : (ts ++ [xa]).getD ts.length [] = xa := by simp
  have hv2 := own_alloc ha
  have hvc := fun c hc => own_alloc (h.ot.own c hc)
  have hrow : (List.range (ts.length + 1)).map (fun c => if c = ts.length then v2 else vs c) = (List.range ts.length).map vs ++ [v2] := by
    rw [List.range_succ, List.map_append]
    congr 1
    · apply List.map_congr_left
      intro c hc
      rw [List.mem_range] at hc
      rw [if_neg (by omega)]
    · simp
  have ot : OwT wy w1.heap.size v' (ts ++ [xa]) (fun c => if c = ts.length then v2 else vs c) := by
    refine ⟨by rw [hlen, hrow]; exact ho, fun c hc => ?_, fun c hc g hg' => ?_, fun c c' hc hcc g hg' => ?_⟩
    · rw [hlen] at hc
      by_cases e : c = ts.length
      · subst e
        simp only [if_true, hlast]
        exact (keep ha (fun g hg' e => by have := (hv2 g hg').1; have := (hvb g e).2; omega)).mono hs
      · simp only [if_neg e, hget c (by omega)]
        exact keep ((h2.ot.own c (by omega))) (h2.ot.ap c (by omega))
    · rw [hlen] at hc
      intro e
      by_cases ec : c = ts.length
      · simp only [if_pos ec] at hg'
        have q := hv2 g hg'
        rcases hat with e1 | e1
        · rw [e1] at e
          have := (hvb g e).2
          omega
        · rw [e1] at e
          have := Option.some.inj e
          simp at this
          omega
      · simp only [if_neg ec] at hg'
        rcases hat with e1 | e1
        · rw [e1] at e
          exact h.ot.ap c (by omega) g hg' e
        · rw [e1] at e
          have := Option.some.inj e
          have q := (hvc c (by omega) g hg').2
          simp at this
          omega
    · rw [hlen] at hc
      simp only [if_neg (show c' ≠ ts.length by omega)]
      by_cases ec : c = ts.length
      · simp only [if_pos ec] at hg'
        intro e
        have q := (hv2 g hg').1
        have q2 := (hvc c' (by omega) g e).2
        omega
      · simp only [if_neg ec] at hg'
        exact h.ot.inj c c' (by omega) hcc g hg'
  refine ⟨⟨?_, ?_, ot.set hl, hl⟩, (cell_of_row _ _ 0 _ _ _ bxy).trans rfl, fun i => frozen_of_row _ _ i _ _ bxy⟩
  · have q := grown_setR wy B 0 v'
    refine ⟨q.os.trans (hg.os.trans (hgA.os.trans h2.gr.os)), q.tape.trans (hg.tape.trans (hgA.tape.trans h2.gr.tape)), q.output.trans (hg.output.trans (hgA.output.trans h2.gr.output)), by have := q.size; have := h2.gr.size; omega, fun k hk hne => ?_⟩
    rw [q.block k (by omega) hne, hg.block k (by simp; omega) (fun e => by have := (hvb k e.symm).1; omega), hgA.block k (by omega) (by simp), h2.gr.block k hk hne]
  · have := heap_setCell_same wy B 0 _ _ v' bxy
    simpa using this

theorem rdTs_app : ∀ (i : Nat) (xs ys : List By), rdTs i (xs ++ ys) = match rdTs i xs, rdTs (i + xs.length) ys with
    | some a, some b => some (a ++ b)
    | _, _ => none
  | i, [], ys => by simp [rdTs]; cases rdTs i ys <;> rfl
  | i, x :: xs, ys => by
    rw [List.cons_append, rdTs, rdTs_app (i + 1) xs ys, rdTs, List.length_cons, show i + 1 + xs.length = i + (xs.length + 1) by omega]
    cases rdT i x <;> cases rdTs (i + 1) xs <;> cases rdTs (i + (xs.length + 1)) ys <;> rfl
theorem rdTs_step {xs : List By} {k : Nat} {ts : List (List Ac)} (hk : k < xs.length) (h : rdTs 0 (xs.take k) = some ts) {xa : List Ac} (hb : rdT k (xs.getD k []) = some xa) : rdTs 0 (xs.take (k + 1)) = some (ts ++ [xa]) := by
  have e : xs.take (k + 1) = xs.take k ++ [xs.getD k []] := by
    rw [List.take_add_one]; simp [List.getElem?_eq_getElem hk]
  have hl : (xs.take k).length = k := by simp; omega
  rw [e, rdTs_app, h, hl, Nat.zero_add, rdTs, hb, rdTs]
theorem rdTs_stop {xs : List By} {k : Nat} (hk : k < xs.length) (hb : rdT k (xs.getD k []) = none) : rdTs 0 xs = none := by
  have e : xs = xs.take k ++ (xs.getD k [] :: xs.drop (k + 1)) := by
    have : xs.getD k [] :: xs.drop (k + 1) = xs.drop k := by
      rw [List.drop_eq_getElem_cons hk]; simp [List.getElem?_eq_getElem hk]
    rw [this, List.take_append_drop]
  have hl : (xs.take k).length = k := by simp; omega
  rw [e, rdTs_app, hl, Nat.zero_add, rdTs, hb]
  cases rdTs 0 (xs.take k) <;> rfl
theorem news1 (W : World) (v : Value) (T : TypeId) : ∀ j x, ([v] : List Value)[j]? = some x → (W.alloc (.cells #[v] T)).cell? ((⟨W.heap.size, 0, none⟩ : Addr).add j) = some x := World.news_of_block (cs := #[v]) (heap_alloc_new _ _)

/-- what a reader of tests answers: C -/
def RlPost (r : Option (List (List Ac))) (w : World) (e : Ending) (w' : World) : Prop :=
  Below w.heap.size w w' ∧ ((r = none ∧ e = .returned (.tuple #[.agg #[.slice none 0 0], .bool false])) ∨ ∃ ts v vs, r = some ts ∧ e = .returned (.tuple #[.agg #[v], .bool true]) ∧ OwT w' w.heap.size v ts vs)
theorem OwT.mono {w : World} {base base' : Nat} {v : Value} {ts : List (List Ac)} {vs : Nat → Value} (h : OwT w base v ts vs) (hb : base' ≤ base) : OwT w base' v ts vs := by
  refine ⟨⟨h.row.1, ?_⟩, fun c hc => (h.own c hc).mono hb, h.ap, h.inj⟩
  rcases h.row.2 with q | ⟨g, cap, cur, q, q1, q2⟩
  · exact .inl q
  · exact .inr ⟨g, cap, cur, q, by omega, q2⟩

end Go.Proofs.YtokekgfompbdiaaDoor
