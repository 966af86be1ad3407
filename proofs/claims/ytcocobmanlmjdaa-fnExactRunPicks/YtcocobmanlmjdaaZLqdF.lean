/- a pick: a thread's next act -/
import Derived.Test.YtcocobmanlmjdaaZa
import Derived.Deep.DeepCutAuto
namespace Go.Proofs.Ytcocobmanlmjdaa
open Go.RowKit
set_option linter.unusedVariables false
set_option linter.unusedSimpArgs false

theorem row6_set {V : World} {B : Nat} {T : TypeId} {c : Array Value} {i : Nat} {v : Value} (h : V.heap[B]? = some (.cells c T (0, 0))) : (V.setCell ⟨B, i, none⟩ v).heap[B]? = some (.cells (c.setIfInBounds i v) T (0, 0)) := by
  have hlt := lt_of_block h
  have h' : V.heap[B] = .cells c T (0, 0) := by simpa [Array.getElem?_eq_getElem hlt] using h
  show (V.heap.modify B _)[B]? = _
  rw [Array.getElem?_eq_getElem (by simpa using hlt), Array.getElem_modify_self, h']
  rfl
theorem six_row {V : World} {B : Nat} {T : TypeId} {u0 u1 u2 u3 u4 u5 v0 v1 v2 v3 v4 v5 : Value} (h : V.heap[B]? = some (.cells #[u0, u1, u2, u3, u4, u5] T (0, 0))) : ((((((V.setCell ⟨B, 0, none⟩ (v0)).setCell ⟨B, 1, none⟩ (v1)).setCell ⟨B, 2, none⟩ (v2)).setCell ⟨B, 3, none⟩ (v3)).setCell ⟨B, 4, none⟩ (v4)).setCell ⟨B, 5, none⟩ (v5)).heap[B]? = some (.cells #[v0, v1, v2, v3, v4, v5] T (0, 0)) := by
  have h5 := row6_set (i := 5) (v := v5) (row6_set (i := 4) (v := v4) (row6_set (i := 3) (v := v3) (row6_set (i := 2) (v := v2) (row6_set (i := 1) (v := v1) (row6_set (i := 0) (v := v0) h)))))
  rw [h5]
  rfl
theorem six_heap {V : World} {B c : Nat} {v0 v1 v2 v3 v4 v5 : Value} {o : Obj} (h : V.heap[c]? = some o) (hne : c ≠ B) : ((((((V.setCell ⟨B, 0, none⟩ (v0)).setCell ⟨B, 1, none⟩ (v1)).setCell ⟨B, 2, none⟩ (v2)).setCell ⟨B, 3, none⟩ (v3)).setCell ⟨B, 4, none⟩ (v4)).setCell ⟨B, 5, none⟩ (v5)).heap[c]? = some o := by
  rw [Below.heap_setCell _ _ _ _ hne, Below.heap_setCell _ _ _ _ hne, Below.heap_setCell _ _ _ _ hne, Below.heap_setCell _ _ _ _ hne, Below.heap_setCell _ _ _ _ hne, Below.heap_setCell _ _ _ _ hne]; exact h

/-- behind the act: the new run in a variable of its own -/
structure Pd (w wc : World) (b6 : Nat) (c : Array Value) : Prop where
  bel : Below w.heap.size w wc
  ans : wc.heap[w.heap.size + 1]? = some (.cells #[nil3, .int .i64 0, .int .i64 0, nil3, nil3, nil3] 67 (0, 0))
  row : wc.heap[b6]? = some (.cells c 67 (0, 0))
  lo : w.heap.size + 1 + 1 ≤ b6

theorem S12.keep {V V' : World} {B0 b b2 o6 o7 o8 o9 o10 o11 : Nat} {v0 v1 v2 v3 v4 v5 v6 v7 v8 v9 v10 v11 : Value} (h : V.cell? ⟨B0, 0, none⟩ = some v0 ∧ V.cell? ⟨B0, 1, none⟩ = some v1 ∧ V.cell? ⟨B0, 2, none⟩ = some v2 ∧ V.cell? ⟨B0, 3, none⟩ = some v3 ∧ V.cell? ⟨B0, 4, none⟩ = some v4 ∧ V.cell? ⟨B0, 5, none⟩ = some v5 ∧ V.cell? ⟨b, o6, none⟩ = some v6 ∧ V.cell? ⟨b2, o7, none⟩ = some v7 ∧ V.cell? ⟨b2, o8, none⟩ = some v8 ∧ V.cell? ⟨b2, o9, none⟩ = some v9 ∧ V.cell? ⟨b2, o10, none⟩ = some v10 ∧ V.cell? ⟨b2, o11, none⟩ = some v11) (hb : Below V.heap.size V V') : V'.cell? ⟨B0, 0, none⟩ = some v0 ∧ V'.cell? ⟨B0, 1, none⟩ = some v1 ∧ V'.cell? ⟨B0, 2, none⟩ = some v2 ∧ V'.cell? ⟨B0, 3, none⟩ = some v3 ∧ V'.cell? ⟨B0, 4, none⟩ = some v4 ∧ V'.cell? ⟨B0, 5, none⟩ = some v5 ∧ V'.cell? ⟨b, o6, none⟩ = some v6 ∧ V'.cell? ⟨b2, o7, none⟩ = some v7 ∧ V'.cell? ⟨b2, o8, none⟩ = some v8 ∧ V'.cell? ⟨b2, o9, none⟩ = some v9 ∧ V'.cell? ⟨b2, o10, none⟩ = some v10 ∧ V'.cell? ⟨b2, o11, none⟩ = some v11 := ⟨keepc hb h.1, keepc hb h.2.1, keepc hb h.2.2.1, keepc hb h.2.2.2.1, keepc hb h.2.2.2.2.1, keepc hb h.2.2.2.2.2.1, keepc hb h.2.2.2.2.2.2.1, keepc hb h.2.2.2.2.2.2.2.1, keepc hb h.2.2.2.2.2.2.2.2.1, keepc hb h.2.2.2.2.2.2.2.2.2.1, keepc hb h.2.2.2.2.2.2.2.2.2.2.1, keepc hb h.2.2.2.2.2.2.2.2.2.2.2⟩
theorem S12.six {V : World} {B B0 b b2 o6 o7 o8 o9 o10 o11 : Nat} {v0 v1 v2 v3 v4 v5 v6 v7 v8 v9 v10 v11 u0 u1 u2 u3 u4 u5 : Value} (h : V.cell? ⟨B0, 0, none⟩ = some v0 ∧ V.cell? ⟨B0, 1, none⟩ = some v1 ∧ V.cell? ⟨B0, 2, none⟩ = some v2 ∧ V.cell? ⟨B0, 3, none⟩ = some v3 ∧ V.cell? ⟨B0, 4, none⟩ = some v4 ∧ V.cell? ⟨B0, 5, none⟩ = some v5 ∧ V.cell? ⟨b, o6, none⟩ = some v6 ∧ V.cell? ⟨b2, o7, none⟩ = some v7 ∧ V.cell? ⟨b2, o8, none⟩ = some v8 ∧ V.cell? ⟨b2, o9, none⟩ = some v9 ∧ V.cell? ⟨b2, o10, none⟩ = some v10 ∧ V.cell? ⟨b2, o11, none⟩ = some v11) (h1 : B0 ≠ B) (h2 : b ≠ B) (h3 : b2 ≠ B) : ((((((V.setCell ⟨B, 0, none⟩ (u0)).setCell ⟨B, 1, none⟩ (u1)).setCell ⟨B, 2, none⟩ (u2)).setCell ⟨B, 3, none⟩ (u3)).setCell ⟨B, 4, none⟩ (u4)).setCell ⟨B, 5, none⟩ (u5)).cell? ⟨B0, 0, none⟩ = some v0 ∧ ((((((V.setCell ⟨B, 0, none⟩ (u0)).setCell ⟨B, 1, none⟩ (u1)).setCell ⟨B, 2, none⟩ (u2)).setCell ⟨B, 3, none⟩ (u3)).setCell ⟨B, 4, none⟩ (u4)).setCell ⟨B, 5, none⟩ (u5)).cell? ⟨B0, 1, none⟩ = some v1 ∧ ((((((V.setCell ⟨B, 0, none⟩ (u0)).setCell ⟨B, 1, none⟩ (u1)).setCell ⟨B, 2, none⟩ (u2)).setCell ⟨B, 3, none⟩ (u3)).setCell ⟨B, 4, none⟩ (u4)).setCell ⟨B, 5, none⟩ (u5)).cell? ⟨B0, 2, none⟩ = some v2 ∧ ((((((V.setCell ⟨B, 0, none⟩ (u0)).setCell ⟨B, 1, none⟩ (u1)).setCell ⟨B, 2, none⟩ (u2)).setCell ⟨B, 3, none⟩ (u3)).setCell ⟨B, 4, none⟩ (u4)).setCell ⟨B, 5, none⟩ (u5)).cell? ⟨B0, 3, none⟩ = some v3 ∧ ((((((V.setCell ⟨B, 0, none⟩ (u0)).setCell ⟨B, 1, none⟩ (u1)).setCell ⟨B, 2, none⟩ (u2)).setCell ⟨B, 3, none⟩ (u3)).setCell ⟨B, 4, none⟩ (u4)).setCell ⟨B, 5, none⟩ (u5)).cell? ⟨B0, 4, none⟩ = some v4 ∧ ((((((V.setCell ⟨B, 0, none⟩ (u0)).setCell ⟨B, 1, none⟩ (u1)).setCell ⟨B, 2, none⟩ (u2)).setCell ⟨B, 3, none⟩ (u3)).setCell ⟨B, 4, none⟩ (u4)).setCell ⟨B, 5, none⟩ (u5)).cell? ⟨B0, 5, none⟩ = some v5 ∧ ((((((V.setCell ⟨B, 0, none⟩ (u0)).setCell ⟨B, 1, none⟩ (u1)).setCell ⟨B, 2, none⟩ (u2)).setCell ⟨B, 3, none⟩ (u3)).setCell ⟨B, 4, none⟩ (u4)).setCell ⟨B, 5, none⟩ (u5)).cell? ⟨b, o6, none⟩ = some v6 ∧ ((((((V.setCell ⟨B, 0, none⟩ (u0)).setCell ⟨B, 1, none⟩ (u1)).setCell ⟨B, 2, none⟩ (u2)).setCell ⟨B, 3, none⟩ (u3)).setCell ⟨B, 4, none⟩ (u4)).setCell ⟨B, 5, none⟩ (u5)).cell? ⟨b2, o7, none⟩ = some v7 ∧ ((((((V.setCell ⟨B, 0, none⟩ (u0)).setCell ⟨B, 1, none⟩ (u1)).setCell ⟨B, 2, none⟩ (u2)).setCell ⟨B, 3, none⟩ (u3)).setCell ⟨B, 4, none⟩ (u4)).setCell ⟨B, 5, none⟩ (u5)).cell? ⟨b2, o8, none⟩ = some v8 ∧ ((((((V.setCell ⟨B, 0, none⟩ (u0)).setCell ⟨B, 1, none⟩ (u1)).setCell ⟨B, 2, none⟩ (u2)).setCell ⟨B, 3, none⟩ (u3)).setCell ⟨B, 4, none⟩ (u4)).setCell ⟨B, 5, none⟩ (u5)).cell? ⟨b2, o9, none⟩ = some v9 ∧ ((((((V.setCell ⟨B, 0, none⟩ (u0)).setCell ⟨B, 1, none⟩ (u1)).setCell ⟨B, 2, none⟩ (u2)).setCell ⟨B, 3, none⟩ (u3)).setCell ⟨B, 4, none⟩ (u4)).setCell ⟨B, 5, none⟩ (u5)).cell? ⟨b2, o10, none⟩ = some v10 ∧ ((((((V.setCell ⟨B, 0, none⟩ (u0)).setCell ⟨B, 1, none⟩ (u1)).setCell ⟨B, 2, none⟩ (u2)).setCell ⟨B, 3, none⟩ (u3)).setCell ⟨B, 4, none⟩ (u4)).setCell ⟨B, 5, none⟩ (u5)).cell? ⟨b2, o11, none⟩ = some v11 := ⟨six_far (h.1) h1, six_far (h.2.1) h1, six_far (h.2.2.1) h1, six_far (h.2.2.2.1) h1, six_far (h.2.2.2.2.1) h1, six_far (h.2.2.2.2.2.1) h1, six_far (h.2.2.2.2.2.2.1) h2, six_far (h.2.2.2.2.2.2.2.1) h3, six_far (h.2.2.2.2.2.2.2.2.1) h3, six_far (h.2.2.2.2.2.2.2.2.2.1) h3, six_far (h.2.2.2.2.2.2.2.2.2.2.1) h3, six_far (h.2.2.2.2.2.2.2.2.2.2.2) h3⟩
theorem blk_of_cell {w : World} {b i : Nat} {v : Value} (h : w.cell? ⟨b, i, none⟩ = some v) : b < w.heap.size := by
  rcases Nat.lt_or_ge b w.heap.size with q | q
  · exact q
  · simp [World.cell?, Array.getElem?_eq_none q] at h


set_option maxHeartbeats 1600000 in
set_option maxRecDepth 20000 in
theorem picked_did0 (ta : Option Addr) (tn tc : Nat) (L : Nat → Nat) (F : Nat → Nat → Nat → Int) (j : Nat) (a1 : Int) (mv bv rv : Value) (d : Td) (ok : Bool) (w : World) (hs : Sa w (.slice ta tn tc) tn L F) (h : Tv w mv bv rv d.zs tn d.L d.F tn d.Z) (ht : tokD d tn = true) (hp : 0 < tn) (htn : tn ≤ 2) (hj : j < L 0) (hL : L 0 < 100) (hok : decide (okc d tn (F 0 j 0) (F 0 j 1) (F 0 j 2) (F 0 j 3) (F 0 j 4) = 0) = ok) :
    Calls Try.prog 32 #[.agg (run6 (.slice ta tn tc) (j : Int) a1 mv bv rv), .int .i64 0] w (DidQ w (.slice ta tn tc) (bif ok then (j : Int) + 1 else (j : Int)) a1 mv bv rv (nxt d tn (F 0 j 0) (F 0 j 1) (F 0 j 2) (F 0 j 3) (F 0 j 4)) tn ok) := by
  obtain ⟨⟨ma, mc, rfl⟩, ⟨ba, bc, rfl⟩, ⟨ra, rc, rfl⟩⟩ := three_of h
  have HT := hide h
  clear h
  have HS := hide hs
  obtain ⟨ad, cap, e, hs⟩ := hs
  obtain ⟨rfl, rfl⟩ : ta = ad ∧ tc = cap := by simp at e; exact e
  clear e
  obtain ⟨b, off, rfl, hcc⟩ := hs (by omega)
  obtain ⟨ia, ic, q', hr⟩ := hcc 0 hp
  obtain ⟨ad2, cap2, e2, hr⟩ := hr
  obtain ⟨rfl, rfl⟩ : ia = ad2 ∧ ic = cap2 := by simp at e2; exact e2
  clear e2
  obtain ⟨b2, off2, rfl, hc2⟩ := hr (by omega)
  have HQ : Hid (w.cell? ⟨b, off, none⟩ = some (.slice (some ⟨b2, off2, none⟩) (L 0) ic) ∧ w.cell? ⟨b2, off2 + j * 5, none⟩ = some (.int .i64 (F 0 j 0)) ∧ w.cell? ⟨b2, off2 + j * 5 + 1, none⟩ = some (.int .i64 (F 0 j 1)) ∧ w.cell? ⟨b2, off2 + j * 5 + 2, none⟩ = some (.int .i64 (F 0 j 2)) ∧ w.cell? ⟨b2, off2 + j * 5 + 3, none⟩ = some (.int .i64 (F 0 j 3)) ∧ w.cell? ⟨b2, off2 + j * 5 + 4, none⟩ = some (.int .i64 (F 0 j 4))) := hide ⟨by simpa using q', by simpa using hc2 j hj 0 (by decide), hc2 j hj 1 (by decide), hc2 j hj 2 (by decide), hc2 j hj 3 (by decide), hc2 j hj 4 (by decide)⟩
  have hbl : b < w.heap.size := blk_of_cell q'
  have hbl2 : b2 < w.heap.size := blk_of_cell (hc2 j hj 0 (by decide))
  clear hs hcc q' hr hc2
  have HX := hide (Pbx.start w (run6 (.slice (some ⟨b, off, none⟩) tn tc) (j : Int) a1 (.slice ma d.zs.length mc) (.slice ba tn bc) (.slice ra tn rc)))
  obtain ⟨_, x0, x1, x2, x3, x4, x5⟩ := row6_facts HX.out.box
  have hth := fun W => threads_any (some ⟨b, off, none⟩) tn tc W
  have hen : ∀ W, Sa W (.slice (some ⟨b, off, none⟩) tn tc) tn L F → Calls Try.prog 54 #[.agg (run6 (.slice (some ⟨b, off, none⟩) tn tc) (j : Int) a1 (.slice ma d.zs.length mc) (.slice ba tn bc) (.slice ra tn rc)), .int .i64 0] W (fun e w' => e = .returned (.bool false) ∧ Below W.heap.size W w') := fun W h => by
    have := hasEnded_any (some ⟨b, off, none⟩) tn tc L F (j : Int) a1 ma ba ra d.zs.length mc tn bc tn rc 0 W h (by omega) hp
    rw [decide_eq_false (show ¬ ac (j : Int) a1 0 = (L 0 : Int) by simp [ac]; omega)] at this
    exact this
  have hdi := fun W h => did_u (some ⟨b, off, none⟩) tn tc (j : Int) a1 (.slice ma d.zs.length mc) (.slice ba tn bc) (.slice ra tn rc) d tn (F 0 j 0) (F 0 j 1) (F 0 j 2) (F 0 j 3) (F 0 j 4) W h ht
  rw [hok] at hdi
  generalize hnx : nxt d tn (F 0 j 0) (F 0 j 1) (F 0 j 2) (F 0 j 3) (F 0 j 4) = d' at *
  have hge : decide ((tn : Int) ≤ 0) = false := by simp; omega
  have hi0 : (0 : Int) < (tn : Int) := by omega
  have hi1 : (j : Int) < (L 0 : Int) := by omega
  have hi2 : (0 : Int) ≤ (j : Int) := by omega
  clear hok
  go_enter Try.func32, Try.ntmps32
  go_wp2_with fail
  refine (hth _).mono ?_
  rintro e w1 ⟨rfl, hb1⟩
  have HX1 := hide (HX.out.next hb1)
  clear x0 x1 x2 x3 x4 x5 hb1 HX
  obtain ⟨_, x0, x1, x2, x3, x4, x5⟩ := row6_facts HX1.out.box
  go_wp2_with fail
  refine (hen _ (HS.out.below HX1.out.bel)).mono ?_
  rintro e w2 ⟨rfl, hb2⟩
  have HX2 := hide (HX1.out.next hb2)
  clear x0 x1 x2 x3 x4 x5 hb2 HX1
  obtain ⟨_, x0, x1, x2, x3, x4, x5⟩ := row6_facts HX2.out.box
  have y := HQ.out
  have y0 := Below.keep HX2.out.bel _ _ HQ.out.1
  have y1 := Below.keep HX2.out.bel _ _ HQ.out.2.1
  have y2 := Below.keep HX2.out.bel _ _ HQ.out.2.2.1
  have y3 := Below.keep HX2.out.bel _ _ HQ.out.2.2.2.1
  have y4 := Below.keep HX2.out.bel _ _ HQ.out.2.2.2.2.1
  have y5 := Below.keep HX2.out.bel _ _ HQ.out.2.2.2.2.2
  have hz2 : w.heap.size + 1 + 1 ≤ w2.heap.size := HX2.out.size
  clear y HQ
  go_wp2
  go_cut [6, 7] (fun pp hb wc => ∃ b6 ma1 mn1 mc1 ba1 bc1 ra1 rc1, pp = .pointer (some ⟨b6, 0, none⟩) ∧ hb = .bool ok ∧ Hid (Pd w wc b6 (run6 (.slice (some ⟨b, off, none⟩) tn tc) (j : Int) a1 (.slice ma1 mn1 mc1) (.slice ba1 tn bc1) (.slice ra1 tn rc1)) ∧ ∃ lo hi, DidP wc lo hi (.slice ma d.zs.length mc) (.slice ba tn bc) (.slice ra tn rc) d' tn ok (.slice ma1 mn1 mc1) (.slice ba1 tn bc1) (.slice ra1 tn rc1) ∧ w.heap.size + 1 + 1 ≤ lo ∧ hi ≤ wc.heap.size ∧ (b6 < lo ∨ hi ≤ b6)))
  case first =>
    refine wp_region_held_drew (S := fun w' => Below w2.heap.size w2 w') (by kernel_rfl) ((Below.refl _ _).drew) (fun hHeld => ?_)
    refine wpAnyH_take (i := 0) (v := .agg (run6 (.slice (some ⟨b, off, none⟩) tn tc) (j : Int) a1 (.slice ma d.zs.length mc) (.slice ba tn bc) (.slice ra tn rc))) rfl (by kernel_rfl) (by kernel_rfl) (by kernel_rfl) (fun _ _ _ h => h) (Or.inl ⟨by rfl, fun w' hSw => ?_⟩) (by assumption) ?_
    · (try dsimp only at hSw); have x0 := keepc hSw x0; have x1 := keepc hSw x1; have x2 := keepc hSw x2; have x3 := keepc hSw x3; have x4 := keepc hSw x4; have x5 := keepc hSw x5; go_simp
    try simp only [Act.put, List.getElem_toArray, List.getElem_cons_zero, List.getElem_cons_succ, List.setIfInBounds_toArray, List.set_cons_zero, List.set_cons_succ]
    refine wpAnyH_take (i := 1) (v := .pointer (some ⟨w.heap.size, 0, none⟩)) rfl (by kernel_rfl) (by kernel_rfl) (by kernel_rfl) (fun _ _ _ h => h) (Or.inl ⟨by rfl, fun w' hSw => ?_⟩) (by assumption) ?_
    · (try dsimp only at hSw); skip; go_simp
    try simp only [Act.put, List.getElem_toArray, List.getElem_cons_zero, List.getElem_cons_succ, List.setIfInBounds_toArray, List.set_cons_zero, List.set_cons_succ]
    refine wpAnyH_take (i := 2) (v := .pointer (some ⟨w.heap.size, 0, none⟩)) rfl (by kernel_rfl) (by kernel_rfl) (by kernel_rfl) (fun _ _ _ h => h) (Or.inl ⟨by rfl, fun w' hSw => ?_⟩) (by assumption) ?_
    · (try dsimp only at hSw); skip; go_simp
    try simp only [Act.put, List.getElem_toArray, List.getElem_cons_zero, List.getElem_cons_succ, List.setIfInBounds_toArray, List.set_cons_zero, List.set_cons_succ]
    refine wpAnyH_take (i := 3) (v := .slice (some ⟨b, off, none⟩) tn tc) rfl (by kernel_rfl) (by kernel_rfl) (by kernel_rfl) (fun _ _ _ h => h) (Or.inl ⟨by rfl, fun w' hSw => ?_⟩) (by assumption) ?_
    · (try dsimp only at hSw); have x0 := keepc hSw x0; go_simp
    try simp only [Act.put, List.getElem_toArray, List.getElem_cons_zero, List.getElem_cons_succ, List.setIfInBounds_toArray, List.set_cons_zero, List.set_cons_succ]
    refine wpAnyH_take (i := 4) (v := .int .i64 0) rfl (by kernel_rfl) (by kernel_rfl) (by kernel_rfl) (fun _ _ _ h => h) (Or.inl ⟨by rfl, fun w' hSw => ?_⟩) (by assumption) ?_
    · (try dsimp only at hSw); skip; go_simp
    try simp only [Act.put, List.getElem_toArray, List.getElem_cons_zero, List.getElem_cons_succ, List.setIfInBounds_toArray, List.set_cons_zero, List.set_cons_succ]
    refine wpAnyH_take (i := 5) (v := .pointer (some ⟨b, off, none⟩)) rfl (by kernel_rfl) (by kernel_rfl) (by kernel_rfl) (fun _ _ _ h => h) (Or.inl ⟨by rfl, fun w' hSw => ?_⟩) (by assumption) ?_
    · (try dsimp only at hSw); skip; go_simp
    try simp only [Act.put, List.getElem_toArray, List.getElem_cons_zero, List.getElem_cons_succ, List.setIfInBounds_toArray, List.set_cons_zero, List.set_cons_succ]
    refine wpAnyH_take (i := 6) (v := .slice (some ⟨b2, off2, none⟩) (L 0) ic) rfl (by kernel_rfl) (by kernel_rfl) (by kernel_rfl) (fun _ _ _ h => h) (Or.inl ⟨by rfl, fun w' hSw => ?_⟩) (by assumption) ?_
    · (try dsimp only at hSw); have y0 := keepc hSw y0; go_simp
    try simp only [Act.put, List.getElem_toArray, List.getElem_cons_zero, List.getElem_cons_succ, List.setIfInBounds_toArray, List.set_cons_zero, List.set_cons_succ]
    refine wpAnyH_take (i := 7) (v := .int .i64 0) rfl (by kernel_rfl) (by kernel_rfl) (by kernel_rfl) (fun _ _ _ h => h) (Or.inl ⟨by rfl, fun w' hSw => ?_⟩) (by assumption) ?_
    · (try dsimp only at hSw); skip; go_simp
    try simp only [Act.put, List.getElem_toArray, List.getElem_cons_zero, List.getElem_cons_succ, List.setIfInBounds_toArray, List.set_cons_zero, List.set_cons_succ]
    refine wpAnyH_take (i := 8) (v := .pointer (some ⟨w.heap.size, 1, none⟩)) rfl (by kernel_rfl) (by kernel_rfl) (by kernel_rfl) (fun _ _ _ h => h) (Or.inl ⟨by rfl, fun w' hSw => ?_⟩) (by assumption) ?_
    · (try dsimp only at hSw); skip; go_simp
    try simp only [Act.put, List.getElem_toArray, List.getElem_cons_zero, List.getElem_cons_succ, List.setIfInBounds_toArray, List.set_cons_zero, List.set_cons_succ]
    refine wpAnyH_take (i := 9) (v := .pointer (some ⟨w.heap.size, 1, none⟩)) rfl (by kernel_rfl) (by kernel_rfl) (by kernel_rfl) (fun _ _ _ h => h) (Or.inl ⟨by rfl, fun w' hSw => ?_⟩) (by assumption) ?_
    · (try dsimp only at hSw); skip; go_simp
    try simp only [Act.put, List.getElem_toArray, List.getElem_cons_zero, List.getElem_cons_succ, List.setIfInBounds_toArray, List.set_cons_zero, List.set_cons_succ]
    refine wpAnyH_take (i := 10) (v := .int .i64 (j : Int)) rfl (by kernel_rfl) (by kernel_rfl) (by kernel_rfl) (fun _ _ _ h => h) (Or.inl ⟨by rfl, fun w' hSw => ?_⟩) (by assumption) ?_
    · (try dsimp only at hSw); have x1 := keepc hSw x1; go_simp
    try simp only [Act.put, List.getElem_toArray, List.getElem_cons_zero, List.getElem_cons_succ, List.setIfInBounds_toArray, List.set_cons_zero, List.set_cons_succ]
    refine wpAnyH_take (i := 11) (v := .pointer (some ⟨b2, off2 + j * 5, none⟩)) rfl (by kernel_rfl) (by kernel_rfl) (by kernel_rfl) (fun _ _ _ h => h) (Or.inl ⟨by rfl, fun w' hSw => ?_⟩) (by assumption) ?_
    · (try dsimp only at hSw); skip; go_simp
    try simp only [Act.put, List.getElem_toArray, List.getElem_cons_zero, List.getElem_cons_succ, List.setIfInBounds_toArray, List.set_cons_zero, List.set_cons_succ]
    refine wpAnyH_take (i := 12) (v := .agg (five (F 0 j 0) (F 0 j 1) (F 0 j 2) (F 0 j 3) (F 0 j 4))) rfl (by kernel_rfl) (by kernel_rfl) (by kernel_rfl) (fun _ _ _ h => h) (Or.inl ⟨by rfl, fun w' hSw => ?_⟩) (by assumption) ?_
    · (try dsimp only at hSw); have y1 := keepc hSw y1; have y2 := keepc hSw y2; have y3 := keepc hSw y3; have y4 := keepc hSw y4; have y5 := keepc hSw y5; go_simp
    try simp only [Act.put, List.getElem_toArray, List.getElem_cons_zero, List.getElem_cons_succ, List.setIfInBounds_toArray, List.set_cons_zero, List.set_cons_succ]
    obtain ⟨V0, hV0⟩ : ∃ V, w2.drew = V := ⟨_, rfl⟩
    rw [hV0] at hHeld ⊢
    clear hV0 x0 x1 x2 x3 x4 x5 y0 y1 y2 y3 y4 y5
    have sz0 := hHeld.size
    refine wpAnyH_ready (rs := [13, 17]) (by kernel_rfl) (by simp) ?_
    refine AllReadyH.cons rfl (fun K hK => ?_) (AllReadyH.cons rfl (fun K hK => ?_) AllReadyH.nil)
    · go_simp
      refine (hdi _ (HT.out.below (HX2.out.bel.trans (hHeld.mono HX2.out.bel.size)))).mono ?_
      rintro e w3 ⟨ma1, mn1, mc1, ba1, bc1, ra1, rc1, rfl, hb3, hp3⟩
      have hHe2 := hHeld.trans (hb3.mono hHeld.size)
      refine hK.out _ _ hHe2 (fun hHeld => ?_)
      clear hK K
      try simp only [Act.put, List.getElem_toArray, List.getElem_cons_zero, List.getElem_cons_succ, List.setIfInBounds_toArray, List.set_cons_zero, List.set_cons_succ]
      refine wpAnyH_take (i := 14) (v := .tuple #[.agg (run6 (.slice (some ⟨b, off, none⟩) tn tc) (j : Int) a1 (.slice ma1 mn1 mc1) (.slice ba1 tn bc1) (.slice ra1 tn rc1)), .bool ok]) rfl (by kernel_rfl) (by kernel_rfl) (by kernel_rfl) (fun _ _ _ h => h) (Or.inl ⟨by rfl, fun w' hSw => ?_⟩) (by assumption) ?_
      · (try dsimp only at hSw); skip; go_simp
      try simp only [Act.put, List.getElem_toArray, List.getElem_cons_zero, List.getElem_cons_succ, List.setIfInBounds_toArray, List.set_cons_zero, List.set_cons_succ]
      refine wpAnyH_take (i := 15) (v := .agg (run6 (.slice (some ⟨b, off, none⟩) tn tc) (j : Int) a1 (.slice ma1 mn1 mc1) (.slice ba1 tn bc1) (.slice ra1 tn rc1))) rfl (by kernel_rfl) (by kernel_rfl) (by kernel_rfl) (fun _ _ _ h => h) (Or.inl ⟨by rfl, fun w' hSw => ?_⟩) (by assumption) ?_
      · (try dsimp only at hSw); skip; go_simp
      try simp only [Act.put, List.getElem_toArray, List.getElem_cons_zero, List.getElem_cons_succ, List.setIfInBounds_toArray, List.set_cons_zero, List.set_cons_succ]
      refine wpAnyH_take (i := 16) (v := .bool ok) rfl (by kernel_rfl) (by kernel_rfl) (by kernel_rfl) (fun _ _ _ h => h) (Or.inl ⟨by rfl, fun w' hSw => ?_⟩) (by assumption) ?_
      · (try dsimp only at hSw); skip; go_simp
      try simp only [Act.put, List.getElem_toArray, List.getElem_cons_zero, List.getElem_cons_succ, List.setIfInBounds_toArray, List.set_cons_zero, List.set_cons_succ]
      refine wpAnyH_ready (rs := [17]) (by kernel_rfl) (by simp) ?_
      refine AllReadyH.cons rfl (fun K hK => ?_) AllReadyH.nil
      go_simp
      have hA9 : Below w3.heap.size w3 (w3.alloc (.cells #[.slice none 0 0, .int .i64 0, .int .i64 0, .slice none 0 0, .slice none 0 0, .slice none 0 0] 67)) := (Below.refl _ _).alloc (Nat.le_refl _) _
      refine hK.out _ _ (hHeld.trans (hA9.mono hHeld.size)) (fun hHeld => ?_)
      clear hK K
      try simp only [Act.put, List.getElem_toArray, List.getElem_cons_zero, List.getElem_cons_succ, List.setIfInBounds_toArray, List.set_cons_zero, List.set_cons_succ]
      have hA6 : Below w3.heap.size w3 (w3.alloc (.cells (run6 (.slice (some ⟨b, off, none⟩) tn tc) (j : Int) a1 (.slice ma1 mn1 mc1) (.slice ba1 tn bc1) (.slice ra1 tn rc1)) 67)) := (Below.refl _ _).alloc (Nat.le_refl _) _
      have hb6 := hHe2.trans (hA6.mono hHe2.size)
      have hsz3 := hHe2.size
      have HZ := hide (And.intro (show Pd w (w3.alloc (.cells (run6 (.slice (some ⟨b, off, none⟩) tn tc) (j : Int) a1 (.slice ma1 mn1 mc1) (.slice ba1 tn bc1) (.slice ra1 tn rc1)) 67)) w3.heap.size (run6 (.slice (some ⟨b, off, none⟩) tn tc) (j : Int) a1 (.slice ma1 mn1 mc1) (.slice ba1 tn bc1) (.slice ra1 tn rc1)) from ⟨HX2.out.bel.trans (hb6.mono HX2.out.bel.size), heap_b HX2.out.ans hb6, heap_alloc_new _ _, by omega⟩) (⟨V0.heap.size, w3.heap.size, hp3.below hA6, by omega, by simp, .inr (Nat.le_refl _)⟩ : ∃ lo hi, DidP (w3.alloc (.cells (run6 (.slice (some ⟨b, off, none⟩) tn tc) (j : Int) a1 (.slice ma1 mn1 mc1) (.slice ba1 tn bc1) (.slice ra1 tn rc1)) 67)) lo hi (.slice ma d.zs.length mc) (.slice ba tn bc) (.slice ra tn rc) d' tn ok (.slice ma1 mn1 mc1) (.slice ba1 tn bc1) (.slice ra1 tn rc1) ∧ w.heap.size + 1 + 1 ≤ lo ∧ hi ≤ (w3.alloc (.cells (run6 (.slice (some ⟨b, off, none⟩) tn tc) (j : Int) a1 (.slice ma1 mn1 mc1) (.slice ba1 tn bc1) (.slice ra1 tn rc1)) 67)).heap.size ∧ (w3.heap.size < lo ∨ hi ≤ w3.heap.size)))
      clear hp3 hb3 hA6 hHe2 hA9
      refine wpAnyH_ready (rs := [18]) (by kernel_rfl) (by simp) ?_
      refine AllReadyH.cons rfl (fun K hK => ?_) AllReadyH.nil
      go_simp
      refine hK.out _ _ hb6 (fun hHeld => ?_)
      clear hK K
      try simp only [Act.put, List.getElem_toArray, List.getElem_cons_zero, List.getElem_cons_succ, List.setIfInBounds_toArray, List.set_cons_zero, List.set_cons_succ]
      refine wpAnyH_ready (rs := [19]) (by kernel_rfl) (by simp) ?_
      refine AllReadyH.cons rfl (fun K hK => ?_) AllReadyH.nil
      go_simp
      refine hK.out _ _ hHeld (fun hHeld => ?_)
      clear hK K hHeld
      try simp only [Act.put, List.getElem_toArray, List.getElem_cons_zero, List.getElem_cons_succ, List.setIfInBounds_toArray, List.set_cons_zero, List.set_cons_succ]
      refine wpAnyH_done (by kernel_rfl) ?_ _
      try go_wp2_with fail
      go_meet
      exact ⟨_, _, _, _, _, _, _, _, rfl, rfl, HZ⟩
    · go_simp
      have hA9 : Below V0.heap.size V0 (V0.alloc (.cells #[.slice none 0 0, .int .i64 0, .int .i64 0, .slice none 0 0, .slice none 0 0, .slice none 0 0] 67)) := (Below.refl _ _).alloc (Nat.le_refl _) _
      have qB9 : (V0.alloc (.cells #[.slice none 0 0, .int .i64 0, .int .i64 0, .slice none 0 0, .slice none 0 0, .slice none 0 0] 67)).heap[V0.heap.size]? = some (.cells #[.slice none 0 0, .int .i64 0, .int .i64 0, .slice none 0 0, .slice none 0 0, .slice none 0 0] 67 (0, 0)) := heap_alloc_new _ _
      refine hK.out _ _ (hHeld.trans (hA9.mono hHeld.size)) (fun hHeld => ?_)
      clear hK K
      try simp only [Act.put, List.getElem_toArray, List.getElem_cons_zero, List.getElem_cons_succ, List.setIfInBounds_toArray, List.set_cons_zero, List.set_cons_succ]
      refine wpAnyH_ready (rs := [13]) (by kernel_rfl) (by simp) ?_
      refine AllReadyH.cons rfl (fun K hK => ?_) AllReadyH.nil
      go_simp
      refine (hdi _ (HT.out.below (HX2.out.bel.trans (hHeld.mono HX2.out.bel.size)))).mono ?_
      rintro e w3 ⟨ma1, mn1, mc1, ba1, bc1, ra1, rc1, rfl, hb3, hp3⟩
      have hHe2 := hHeld.trans (hb3.mono hHeld.size)
      have qB5 := heap_b qB9 hb3
      obtain ⟨fz9, c90, c91, c92, c93, c94, c95⟩ := row6_facts qB5
      refine hK.out _ _ hHe2 (fun hHeld => ?_)
      clear hK K
      try simp only [Act.put, List.getElem_toArray, List.getElem_cons_zero, List.getElem_cons_succ, List.setIfInBounds_toArray, List.set_cons_zero, List.set_cons_succ]
      refine wpAnyH_take (i := 14) (v := .tuple #[.agg (run6 (.slice (some ⟨b, off, none⟩) tn tc) (j : Int) a1 (.slice ma1 mn1 mc1) (.slice ba1 tn bc1) (.slice ra1 tn rc1)), .bool ok]) rfl (by kernel_rfl) (by kernel_rfl) (by kernel_rfl) (fun _ _ _ h => h) (Or.inl ⟨by rfl, fun w' hSw => ?_⟩) (by assumption) ?_
      · (try dsimp only at hSw); skip; go_simp
      try simp only [Act.put, List.getElem_toArray, List.getElem_cons_zero, List.getElem_cons_succ, List.setIfInBounds_toArray, List.set_cons_zero, List.set_cons_succ]
      refine wpAnyH_take (i := 15) (v := .agg (run6 (.slice (some ⟨b, off, none⟩) tn tc) (j : Int) a1 (.slice ma1 mn1 mc1) (.slice ba1 tn bc1) (.slice ra1 tn rc1))) rfl (by kernel_rfl) (by kernel_rfl) (by kernel_rfl) (fun _ _ _ h => h) (Or.inl ⟨by rfl, fun w' hSw => ?_⟩) (by assumption) ?_
      · (try dsimp only at hSw); skip; go_simp
      try simp only [Act.put, List.getElem_toArray, List.getElem_cons_zero, List.getElem_cons_succ, List.setIfInBounds_toArray, List.set_cons_zero, List.set_cons_succ]
      refine wpAnyH_take (i := 16) (v := .bool ok) rfl (by kernel_rfl) (by kernel_rfl) (by kernel_rfl) (fun _ _ _ h => h) (Or.inl ⟨by rfl, fun w' hSw => ?_⟩) (by assumption) ?_
      · (try dsimp only at hSw); skip; go_simp
      try simp only [Act.put, List.getElem_toArray, List.getElem_cons_zero, List.getElem_cons_succ, List.setIfInBounds_toArray, List.set_cons_zero, List.set_cons_succ]
      have hbw := HX2.out.bel.trans (hHe2.mono HX2.out.bel.size)
      have hwz := HX2.out.bel.size
      have hb6 : Below w2.heap.size w2 ((((((w3.setCell ⟨V0.heap.size, 0, none⟩ (.slice (some ⟨b, off, none⟩) tn tc)).setCell ⟨V0.heap.size, 1, none⟩ (.int .i64 (j : Int))).setCell ⟨V0.heap.size, 2, none⟩ (.int .i64 a1)).setCell ⟨V0.heap.size, 3, none⟩ (.slice ma1 mn1 mc1)).setCell ⟨V0.heap.size, 4, none⟩ (.slice ba1 tn bc1)).setCell ⟨V0.heap.size, 5, none⟩ (.slice ra1 tn rc1)) := six_below hHe2 sz0
      have hsz3 := hb3.size
      simp only [World.size_alloc] at hsz3 hp3
      have HZ := hide (And.intro (show Pd w ((((((w3.setCell ⟨V0.heap.size, 0, none⟩ (.slice (some ⟨b, off, none⟩) tn tc)).setCell ⟨V0.heap.size, 1, none⟩ (.int .i64 (j : Int))).setCell ⟨V0.heap.size, 2, none⟩ (.int .i64 a1)).setCell ⟨V0.heap.size, 3, none⟩ (.slice ma1 mn1 mc1)).setCell ⟨V0.heap.size, 4, none⟩ (.slice ba1 tn bc1)).setCell ⟨V0.heap.size, 5, none⟩ (.slice ra1 tn rc1)) V0.heap.size (run6 (.slice (some ⟨b, off, none⟩) tn tc) (j : Int) a1 (.slice ma1 mn1 mc1) (.slice ba1 tn bc1) (.slice ra1 tn rc1)) from ⟨six_below hbw (by omega), six_heap (heap_b HX2.out.ans hHe2) (by omega), six_row qB5, by omega⟩) (⟨V0.heap.size + 1, w3.heap.size, hp3.six (by omega) (.inl (by omega)), by omega, by rw [six_size]; omega, .inl (by omega)⟩ : ∃ lo hi, DidP ((((((w3.setCell ⟨V0.heap.size, 0, none⟩ (.slice (some ⟨b, off, none⟩) tn tc)).setCell ⟨V0.heap.size, 1, none⟩ (.int .i64 (j : Int))).setCell ⟨V0.heap.size, 2, none⟩ (.int .i64 a1)).setCell ⟨V0.heap.size, 3, none⟩ (.slice ma1 mn1 mc1)).setCell ⟨V0.heap.size, 4, none⟩ (.slice ba1 tn bc1)).setCell ⟨V0.heap.size, 5, none⟩ (.slice ra1 tn rc1)) lo hi (.slice ma d.zs.length mc) (.slice ba tn bc) (.slice ra tn rc) d' tn ok (.slice ma1 mn1 mc1) (.slice ba1 tn bc1) (.slice ra1 tn rc1) ∧ w.heap.size + 1 + 1 ≤ lo ∧ hi ≤ ((((((w3.setCell ⟨V0.heap.size, 0, none⟩ (.slice (some ⟨b, off, none⟩) tn tc)).setCell ⟨V0.heap.size, 1, none⟩ (.int .i64 (j : Int))).setCell ⟨V0.heap.size, 2, none⟩ (.int .i64 a1)).setCell ⟨V0.heap.size, 3, none⟩ (.slice ma1 mn1 mc1)).setCell ⟨V0.heap.size, 4, none⟩ (.slice ba1 tn bc1)).setCell ⟨V0.heap.size, 5, none⟩ (.slice ra1 tn rc1)).heap.size ∧ (V0.heap.size < lo ∨ hi ≤ V0.heap.size)))
      clear hp3 hb3 hHe2 hA9 qB9 qB5 hbw hwz
      refine wpAnyH_ready (rs := [18]) (by kernel_rfl) (by simp) ?_
      refine AllReadyH.cons rfl (fun K hK => ?_) AllReadyH.nil
      go_simp
      refine hK.out _ _ hb6 (fun hHeld => ?_)
      clear hK K
      try simp only [Act.put, List.getElem_toArray, List.getElem_cons_zero, List.getElem_cons_succ, List.setIfInBounds_toArray, List.set_cons_zero, List.set_cons_succ]
      refine wpAnyH_ready (rs := [19]) (by kernel_rfl) (by simp) ?_
      refine AllReadyH.cons rfl (fun K hK => ?_) AllReadyH.nil
      go_simp
      refine hK.out _ _ hHeld (fun hHeld => ?_)
      clear hK K hHeld
      try simp only [Act.put, List.getElem_toArray, List.getElem_cons_zero, List.getElem_cons_succ, List.setIfInBounds_toArray, List.set_cons_zero, List.set_cons_succ]
      refine wpAnyH_done (by kernel_rfl) ?_ _
      try go_wp2_with fail
      go_meet
      exact ⟨_, _, _, _, _, _, _, _, rfl, rfl, HZ⟩
  case rest =>
    obtain ⟨b6, ma1, mn1, mc1, ba1, bc1, ra1, rc1, rfl, rfl, HZ⟩ := hcut
    obtain ⟨pd, lo, hi, hdp, hlo, hhi, hb6⟩ := HZ.out
    obtain ⟨f6, d60, d61, d62, d63, d64, d65⟩ := row6_facts pd.row
    obtain ⟨fa, z0, z1, z2, z3, z4, z5⟩ := row6_facts pd.ans
    have hpl := pd.lo
    have hw1 : wrap64 ((j : Int) + 1) = (j : Int) + 1 := Go.IntWalk.wrap64_in _ (by omega)
    have HPB := hide pd.bel
    have hls := pd.bel.size
    clear HZ pd x0 x1 x2 x3 x4 x5 y0 y1 y2 y3 y4 y5
    have hne6 : b6 ≠ w.heap.size + 1 := by omega
    cases ok
    · have HD := hide (And.intro hdp (And.intro hlo (And.intro hhi hb6)))
      clear hdp hb6 hhi
      go_wp2
      refine bodyPost_ret (v := .tuple #[.agg (run6 (.slice (some ⟨b, off, none⟩) tn tc) (j : Int) a1 (.slice ma1 mn1 mc1) (.slice ba1 tn bc1) (.slice ra1 tn rc1)), .bool false]) (by simp [results, Try.results32, go_sem, z0, z1, z2, z3, z4, z5]) rfl ?_
      refine ⟨_, _, _, _, _, _, _, rfl, six_below HPB.out (by omega), ?_⟩
      rw [six_size]
      exact (HD.out.1.six (by omega) (.inl (by omega))).mono (by omega) HD.out.2.2.1
    · have HD := hide (And.intro hdp (And.intro hlo (And.intro hhi hb6)))
      clear hdp hb6 hhi
      go_wp2
      refine bodyPost_ret (v := .tuple #[.agg (run6 (.slice (some ⟨b, off, none⟩) tn tc) ((j : Int) + 1) a1 (.slice ma1 mn1 mc1) (.slice ba1 tn bc1) (.slice ra1 tn rc1)), .bool true]) (by simp [results, Try.results32, go_sem, z0, z1, z2, z3, z4, z5]) rfl ?_
      refine ⟨_, _, _, _, _, _, _, rfl, six_below (HPB.out.setCell (p := ⟨b6, 1, none⟩) (by show w.heap.size ≤ b6; omega) _) (by omega), ?_⟩
      rw [six_size]
      exact ((HD.out.1.set (by omega) HD.out.2.2.2).six (by omega) (.inl (by omega))).mono (by omega) (by have := HD.out.2.2.1; simpa using this)


set_option maxHeartbeats 1600000 in
set_option maxRecDepth 20000 in
theorem picked_did1 (ta : Option Addr) (tn tc : Nat) (L : Nat → Nat) (F : Nat → Nat → Nat → Int) (j : Nat) (a0 : Int) (mv bv rv : Value) (d : Td) (ok : Bool) (w : World) (hs : Sa w (.slice ta tn tc) tn L F) (h : Tv w mv bv rv d.zs tn d.L d.F tn d.Z) (ht : tokD d tn = true) (hp : 1 < tn) (htn : tn ≤ 2) (hj : j < L 1) (hL : L 1 < 100) (hok : decide (okc d tn (F 1 j 0) (F 1 j 1) (F 1 j 2) (F 1 j 3) (F 1 j 4) = 0) = ok) :
    Calls Try.prog 32 #[.agg (run6 (.slice ta tn tc) a0 (j : Int) mv bv rv), .int .i64 1] w (DidQ w (.slice ta tn tc) a0 (bif ok then (j : Int) + 1 else (j : Int)) mv bv rv (nxt d tn (F 1 j 0) (F 1 j 1) (F 1 j 2) (F 1 j 3) (F 1 j 4)) tn ok) := by
  obtain ⟨⟨ma, mc, rfl⟩, ⟨ba, bc, rfl⟩, ⟨ra, rc, rfl⟩⟩ := three_of h
  have HT := hide h
  clear h
  have HS := hide hs
  obtain ⟨ad, cap, e, hs⟩ := hs
  obtain ⟨rfl, rfl⟩ : ta = ad ∧ tc = cap := by simp at e; exact e
  clear e
  obtain ⟨b, off, rfl, hcc⟩ := hs (by omega)
  obtain ⟨ia, ic, q', hr⟩ := hcc 1 hp
  obtain ⟨ad2, cap2, e2, hr⟩ := hr
  obtain ⟨rfl, rfl⟩ : ia = ad2 ∧ ic = cap2 := by simp at e2; exact e2
  clear e2
  obtain ⟨b2, off2, rfl, hc2⟩ := hr (by omega)
  have HQ : Hid (w.cell? ⟨b, off + 1, none⟩ = some (.slice (some ⟨b2, off2, none⟩) (L 1) ic) ∧ w.cell? ⟨b2, off2 + j * 5, none⟩ = some (.int .i64 (F 1 j 0)) ∧ w.cell? ⟨b2, off2 + j * 5 + 1, none⟩ = some (.int .i64 (F 1 j 1)) ∧ w.cell? ⟨b2, off2 + j * 5 + 2, none⟩ = some (.int .i64 (F 1 j 2)) ∧ w.cell? ⟨b2, off2 + j * 5 + 3, none⟩ = some (.int .i64 (F 1 j 3)) ∧ w.cell? ⟨b2, off2 + j * 5 + 4, none⟩ = some (.int .i64 (F 1 j 4))) := hide ⟨by simpa using q', by simpa using hc2 j hj 0 (by decide), hc2 j hj 1 (by decide), hc2 j hj 2 (by decide), hc2 j hj 3 (by decide), hc2 j hj 4 (by decide)⟩
  have hbl : b < w.heap.size := blk_of_cell q'
  have hbl2 : b2 < w.heap.size := blk_of_cell (hc2 j hj 0 (by decide))
  clear hs hcc q' hr hc2
  have HX := hide (Pbx.start w (run6 (.slice (some ⟨b, off, none⟩) tn tc) a0 (j : Int) (.slice ma d.zs.length mc) (.slice ba tn bc) (.slice ra tn rc)))
  obtain ⟨_, x0, x1, x2, x3, x4, x5⟩ := row6_facts HX.out.box
  have hth := fun W => threads_any (some ⟨b, off, none⟩) tn tc W
  have hen : ∀ W, Sa W (.slice (some ⟨b, off, none⟩) tn tc) tn L F → Calls Try.prog 54 #[.agg (run6 (.slice (some ⟨b, off, none⟩) tn tc) a0 (j : Int) (.slice ma d.zs.length mc) (.slice ba tn bc) (.slice ra tn rc)), .int .i64 1] W (fun e w' => e = .returned (.bool false) ∧ Below W.heap.size W w') := fun W h => by
    have := hasEnded_any (some ⟨b, off, none⟩) tn tc L F a0 (j : Int) ma ba ra d.zs.length mc tn bc tn rc 1 W h (by omega) hp
    rw [decide_eq_false (show ¬ ac a0 (j : Int) 1 = (L 1 : Int) by simp [ac]; omega)] at this
    exact this
  have hdi := fun W h => did_u (some ⟨b, off, none⟩) tn tc a0 (j : Int) (.slice ma d.zs.length mc) (.slice ba tn bc) (.slice ra tn rc) d tn (F 1 j 0) (F 1 j 1) (F 1 j 2) (F 1 j 3) (F 1 j 4) W h ht
  rw [hok] at hdi
  generalize hnx : nxt d tn (F 1 j 0) (F 1 j 1) (F 1 j 2) (F 1 j 3) (F 1 j 4) = d' at *
  have hge : decide ((tn : Int) ≤ 1) = false := by simp; omega
  have hi0 : (1 : Int) < (tn : Int) := by omega
  have hi1 : (j : Int) < (L 1 : Int) := by omega
  have hi2 : (0 : Int) ≤ (j : Int) := by omega
  clear hok
  go_enter Try.func32, Try.ntmps32
  go_wp2_with fail
  refine (hth _).mono ?_
  rintro e w1 ⟨rfl, hb1⟩
  have HX1 := hide (HX.out.next hb1)
  clear x0 x1 x2 x3 x4 x5 hb1 HX
  obtain ⟨_, x0, x1, x2, x3, x4, x5⟩ := row6_facts HX1.out.box
  go_wp2_with fail
  refine (hen _ (HS.out.below HX1.out.bel)).mono ?_
  rintro e w2 ⟨rfl, hb2⟩
  have HX2 := hide (HX1.out.next hb2)
  clear x0 x1 x2 x3 x4 x5 hb2 HX1
  obtain ⟨_, x0, x1, x2, x3, x4, x5⟩ := row6_facts HX2.out.box
  have y := HQ.out
  have y0 := Below.keep HX2.out.bel _ _ HQ.out.1
  have y1 := Below.keep HX2.out.bel _ _ HQ.out.2.1
  have y2 := Below.keep HX2.out.bel _ _ HQ.out.2.2.1
  have y3 := Below.keep HX2.out.bel _ _ HQ.out.2.2.2.1
  have y4 := Below.keep HX2.out.bel _ _ HQ.out.2.2.2.2.1
  have y5 := Below.keep HX2.out.bel _ _ HQ.out.2.2.2.2.2
  have hz2 : w.heap.size + 1 + 1 ≤ w2.heap.size := HX2.out.size
  clear y HQ
  go_wp2
  go_cut [6, 7] (fun pp hb wc => ∃ b6 ma1 mn1 mc1 ba1 bc1 ra1 rc1, pp = .pointer (some ⟨b6, 0, none⟩) ∧ hb = .bool ok ∧ Hid (Pd w wc b6 (run6 (.slice (some ⟨b, off, none⟩) tn tc) a0 (j : Int) (.slice ma1 mn1 mc1) (.slice ba1 tn bc1) (.slice ra1 tn rc1)) ∧ ∃ lo hi, DidP wc lo hi (.slice ma d.zs.length mc) (.slice ba tn bc) (.slice ra tn rc) d' tn ok (.slice ma1 mn1 mc1) (.slice ba1 tn bc1) (.slice ra1 tn rc1) ∧ w.heap.size + 1 + 1 ≤ lo ∧ hi ≤ wc.heap.size ∧ (b6 < lo ∨ hi ≤ b6)))
  case first =>
    refine wp_region_held_drew (S := fun w' => Below w2.heap.size w2 w') (by kernel_rfl) ((Below.refl _ _).drew) (fun hHeld => ?_)
    refine wpAnyH_take (i := 0) (v := .agg (run6 (.slice (some ⟨b, off, none⟩) tn tc) a0 (j : Int) (.slice ma d.zs.length mc) (.slice ba tn bc) (.slice ra tn rc))) rfl (by kernel_rfl) (by kernel_rfl) (by kernel_rfl) (fun _ _ _ h => h) (Or.inl ⟨by rfl, fun w' hSw => ?_⟩) (by assumption) ?_
    · (try dsimp only at hSw); have x0 := keepc hSw x0; have x1 := keepc hSw x1; have x2 := keepc hSw x2; have x3 := keepc hSw x3; have x4 := keepc hSw x4; have x5 := keepc hSw x5; go_simp
    try simp only [Act.put, List.getElem_toArray, List.getElem_cons_zero, List.getElem_cons_succ, List.setIfInBounds_toArray, List.set_cons_zero, List.set_cons_succ]
    refine wpAnyH_take (i := 1) (v := .pointer (some ⟨w.heap.size, 0, none⟩)) rfl (by kernel_rfl) (by kernel_rfl) (by kernel_rfl) (fun _ _ _ h => h) (Or.inl ⟨by rfl, fun w' hSw => ?_⟩) (by assumption) ?_
    · (try dsimp only at hSw); skip; go_simp
    try simp only [Act.put, List.getElem_toArray, List.getElem_cons_zero, List.getElem_cons_succ, List.setIfInBounds_toArray, List.set_cons_zero, List.set_cons_succ]
    refine wpAnyH_take (i := 2) (v := .pointer (some ⟨w.heap.size, 0, none⟩)) rfl (by kernel_rfl) (by kernel_rfl) (by kernel_rfl) (fun _ _ _ h => h) (Or.inl ⟨by rfl, fun w' hSw => ?_⟩) (by assumption) ?_
    · (try dsimp only at hSw); skip; go_simp
    try simp only [Act.put, List.getElem_toArray, List.getElem_cons_zero, List.getElem_cons_succ, List.setIfInBounds_toArray, List.set_cons_zero, List.set_cons_succ]
    refine wpAnyH_take (i := 3) (v := .slice (some ⟨b, off, none⟩) tn tc) rfl (by kernel_rfl) (by kernel_rfl) (by kernel_rfl) (fun _ _ _ h => h) (Or.inl ⟨by rfl, fun w' hSw => ?_⟩) (by assumption) ?_
    · (try dsimp only at hSw); have x0 := keepc hSw x0; go_simp
    try simp only [Act.put, List.getElem_toArray, List.getElem_cons_zero, List.getElem_cons_succ, List.setIfInBounds_toArray, List.set_cons_zero, List.set_cons_succ]
    refine wpAnyH_take (i := 4) (v := .int .i64 1) rfl (by kernel_rfl) (by kernel_rfl) (by kernel_rfl) (fun _ _ _ h => h) (Or.inl ⟨by rfl, fun w' hSw => ?_⟩) (by assumption) ?_
    · (try dsimp only at hSw); skip; go_simp
    try simp only [Act.put, List.getElem_toArray, List.getElem_cons_zero, List.getElem_cons_succ, List.setIfInBounds_toArray, List.set_cons_zero, List.set_cons_succ]
    refine wpAnyH_take (i := 5) (v := .pointer (some ⟨b, off + 1, none⟩)) rfl (by kernel_rfl) (by kernel_rfl) (by kernel_rfl) (fun _ _ _ h => h) (Or.inl ⟨by rfl, fun w' hSw => ?_⟩) (by assumption) ?_
    · (try dsimp only at hSw); skip; go_simp
    try simp only [Act.put, List.getElem_toArray, List.getElem_cons_zero, List.getElem_cons_succ, List.setIfInBounds_toArray, List.set_cons_zero, List.set_cons_succ]
    refine wpAnyH_take (i := 6) (v := .slice (some ⟨b2, off2, none⟩) (L 1) ic) rfl (by kernel_rfl) (by kernel_rfl) (by kernel_rfl) (fun _ _ _ h => h) (Or.inl ⟨by rfl, fun w' hSw => ?_⟩) (by assumption) ?_
    · (try dsimp only at hSw); have y0 := keepc hSw y0; go_simp
    try simp only [Act.put, List.getElem_toArray, List.getElem_cons_zero, List.getElem_cons_succ, List.setIfInBounds_toArray, List.set_cons_zero, List.set_cons_succ]
    refine wpAnyH_take (i := 7) (v := .int .i64 1) rfl (by kernel_rfl) (by kernel_rfl) (by kernel_rfl) (fun _ _ _ h => h) (Or.inl ⟨by rfl, fun w' hSw => ?_⟩) (by assumption) ?_
    · (try dsimp only at hSw); skip; go_simp
    try simp only [Act.put, List.getElem_toArray, List.getElem_cons_zero, List.getElem_cons_succ, List.setIfInBounds_toArray, List.set_cons_zero, List.set_cons_succ]
    refine wpAnyH_take (i := 8) (v := .pointer (some ⟨w.heap.size, 1, none⟩)) rfl (by kernel_rfl) (by kernel_rfl) (by kernel_rfl) (fun _ _ _ h => h) (Or.inl ⟨by rfl, fun w' hSw => ?_⟩) (by assumption) ?_
    · (try dsimp only at hSw); skip; go_simp
    try simp only [Act.put, List.getElem_toArray, List.getElem_cons_zero, List.getElem_cons_succ, List.setIfInBounds_toArray, List.set_cons_zero, List.set_cons_succ]
    refine wpAnyH_take (i := 9) (v := .pointer (some ⟨w.heap.size, 2, none⟩)) rfl (by kernel_rfl) (by kernel_rfl) (by kernel_rfl) (fun _ _ _ h => h) (Or.inl ⟨by rfl, fun w' hSw => ?_⟩) (by assumption) ?_
    · (try dsimp only at hSw); skip; go_simp
    try simp only [Act.put, List.getElem_toArray, List.getElem_cons_zero, List.getElem_cons_succ, List.setIfInBounds_toArray, List.set_cons_zero, List.set_cons_succ]
    refine wpAnyH_take (i := 10) (v := .int .i64 (j : Int)) rfl (by kernel_rfl) (by kernel_rfl) (by kernel_rfl) (fun _ _ _ h => h) (Or.inl ⟨by rfl, fun w' hSw => ?_⟩) (by assumption) ?_
    · (try dsimp only at hSw); have x2 := keepc hSw x2; go_simp
    try simp only [Act.put, List.getElem_toArray, List.getElem_cons_zero, List.getElem_cons_succ, List.setIfInBounds_toArray, List.set_cons_zero, List.set_cons_succ]
    refine wpAnyH_take (i := 11) (v := .pointer (some ⟨b2, off2 + j * 5, none⟩)) rfl (by kernel_rfl) (by kernel_rfl) (by kernel_rfl) (fun _ _ _ h => h) (Or.inl ⟨by rfl, fun w' hSw => ?_⟩) (by assumption) ?_
    · (try dsimp only at hSw); skip; go_simp
    try simp only [Act.put, List.getElem_toArray, List.getElem_cons_zero, List.getElem_cons_succ, List.setIfInBounds_toArray, List.set_cons_zero, List.set_cons_succ]
    refine wpAnyH_take (i := 12) (v := .agg (five (F 1 j 0) (F 1 j 1) (F 1 j 2) (F 1 j 3) (F 1 j 4))) rfl (by kernel_rfl) (by kernel_rfl) (by kernel_rfl) (fun _ _ _ h => h) (Or.inl ⟨by rfl, fun w' hSw => ?_⟩) (by assumption) ?_
    · (try dsimp only at hSw); have y1 := keepc hSw y1; have y2 := keepc hSw y2; have y3 := keepc hSw y3; have y4 := keepc hSw y4; have y5 := keepc hSw y5; go_simp
    try simp only [Act.put, List.getElem_toArray, List.getElem_cons_zero, List.getElem_cons_succ, List.setIfInBounds_toArray, List.set_cons_zero, List.set_cons_succ]
    obtain ⟨V0, hV0⟩ : ∃ V, w2.drew = V := ⟨_, rfl⟩
    rw [hV0] at hHeld ⊢
    clear hV0 x0 x1 x2 x3 x4 x5 y0 y1 y2 y3 y4 y5
    have sz0 := hHeld.size
    refine wpAnyH_ready (rs := [13, 17]) (by kernel_rfl) (by simp) ?_
    refine AllReadyH.cons rfl (fun K hK => ?_) (AllReadyH.cons rfl (fun K hK => ?_) AllReadyH.nil)
    · go_simp
      refine (hdi _ (HT.out.below (HX2.out.bel.trans (hHeld.mono HX2.out.bel.size)))).mono ?_
      rintro e w3 ⟨ma1, mn1, mc1, ba1, bc1, ra1, rc1, rfl, hb3, hp3⟩
      have hHe2 := hHeld.trans (hb3.mono hHeld.size)
      refine hK.out _ _ hHe2 (fun hHeld => ?_)
      clear hK K
      try simp only [Act.put, List.getElem_toArray, List.getElem_cons_zero, List.getElem_cons_succ, List.setIfInBounds_toArray, List.set_cons_zero, List.set_cons_succ]
      refine wpAnyH_take (i := 14) (v := .tuple #[.agg (run6 (.slice (some ⟨b, off, none⟩) tn tc) a0 (j : Int) (.slice ma1 mn1 mc1) (.slice ba1 tn bc1) (.slice ra1 tn rc1)), .bool ok]) rfl (by kernel_rfl) (by kernel_rfl) (by kernel_rfl) (fun _ _ _ h => h) (Or.inl ⟨by rfl, fun w' hSw => ?_⟩) (by assumption) ?_
      · (try dsimp only at hSw); skip; go_simp
      try simp only [Act.put, List.getElem_toArray, List.getElem_cons_zero, List.getElem_cons_succ, List.setIfInBounds_toArray, List.set_cons_zero, List.set_cons_succ]
      refine wpAnyH_take (i := 15) (v := .agg (run6 (.slice (some ⟨b, off, none⟩) tn tc) a0 (j : Int) (.slice ma1 mn1 mc1) (.slice ba1 tn bc1) (.slice ra1 tn rc1))) rfl (by kernel_rfl) (by kernel_rfl) (by kernel_rfl) (fun _ _ _ h => h) (Or.inl ⟨by rfl, fun w' hSw => ?_⟩) (by assumption) ?_
      · (try dsimp only at hSw); skip; go_simp
      try simp only [Act.put, List.getElem_toArray, List.getElem_cons_zero, List.getElem_cons_succ, List.setIfInBounds_toArray, List.set_cons_zero, List.set_cons_succ]
      refine wpAnyH_take (i := 16) (v := .bool ok) rfl (by kernel_rfl) (by kernel_rfl) (by kernel_rfl) (fun _ _ _ h => h) (Or.inl ⟨by rfl, fun w' hSw => ?_⟩) (by assumption) ?_
      · (try dsimp only at hSw); skip; go_simp
      try simp only [Act.put, List.getElem_toArray, List.getElem_cons_zero, List.getElem_cons_succ, List.setIfInBounds_toArray, List.set_cons_zero, List.set_cons_succ]
      refine wpAnyH_ready (rs := [17]) (by kernel_rfl) (by simp) ?_
      refine AllReadyH.cons rfl (fun K hK => ?_) AllReadyH.nil
      go_simp
      have hA9 : Below w3.heap.size w3 (w3.alloc (.cells #[.slice none 0 0, .int .i64 0, .int .i64 0, .slice none 0 0, .slice none 0 0, .slice none 0 0] 67)) := (Below.refl _ _).alloc (Nat.le_refl _) _
      refine hK.out _ _ (hHeld.trans (hA9.mono hHeld.size)) (fun hHeld => ?_)
      clear hK K
      try simp only [Act.put, List.getElem_toArray, List.getElem_cons_zero, List.getElem_cons_succ, List.setIfInBounds_toArray, List.set_cons_zero, List.set_cons_succ]
      have hA6 : Below w3.heap.size w3 (w3.alloc (.cells (run6 (.slice (some ⟨b, off, none⟩) tn tc) a0 (j : Int) (.slice ma1 mn1 mc1) (.slice ba1 tn bc1) (.slice ra1 tn rc1)) 67)) := (Below.refl _ _).alloc (Nat.le_refl _) _
      have hb6 := hHe2.trans (hA6.mono hHe2.size)
      have hsz3 := hHe2.size
      have HZ := hide (And.intro (show Pd w (w3.alloc (.cells (run6 (.slice (some ⟨b, off, none⟩) tn tc) a0 (j : Int) (.slice ma1 mn1 mc1) (.slice ba1 tn bc1) (.slice ra1 tn rc1)) 67)) w3.heap.size (run6 (.slice (some ⟨b, off, none⟩) tn tc) a0 (j : Int) (.slice ma1 mn1 mc1) (.slice ba1 tn bc1) (.slice ra1 tn rc1)) from ⟨HX2.out.bel.trans (hb6.mono HX2.out.bel.size), heap_b HX2.out.ans hb6, heap_alloc_new _ _, by omega⟩) (⟨V0.heap.size, w3.heap.size, hp3.below hA6, by omega, by simp, .inr (Nat.le_refl _)⟩ : ∃ lo hi, DidP (w3.alloc (.cells (run6 (.slice (some ⟨b, off, none⟩) tn tc) a0 (j : Int) (.slice ma1 mn1 mc1) (.slice ba1 tn bc1) (.slice ra1 tn rc1)) 67)) lo hi (.slice ma d.zs.length mc) (.slice ba tn bc) (.slice ra tn rc) d' tn ok (.slice ma1 mn1 mc1) (.slice ba1 tn bc1) (.slice ra1 tn rc1) ∧ w.heap.size + 1 + 1 ≤ lo ∧ hi ≤ (w3.alloc (.cells (run6 (.slice (some ⟨b, off, none⟩) tn tc) a0 (j : Int) (.slice ma1 mn1 mc1) (.slice ba1 tn bc1) (.slice ra1 tn rc1)) 67)).heap.size ∧ (w3.heap.size < lo ∨ hi ≤ w3.heap.size)))
      clear hp3 hb3 hA6 hHe2 hA9
      refine wpAnyH_ready (rs := [18]) (by kernel_rfl) (by simp) ?_
      refine AllReadyH.cons rfl (fun K hK => ?_) AllReadyH.nil
      go_simp
      refine hK.out _ _ hb6 (fun hHeld => ?_)
      clear hK K
      try simp only [Act.put, List.getElem_toArray, List.getElem_cons_zero, List.getElem_cons_succ, List.setIfInBounds_toArray, List.set_cons_zero, List.set_cons_succ]
      refine wpAnyH_ready (rs := [19]) (by kernel_rfl) (by simp) ?_
      refine AllReadyH.cons rfl (fun K hK => ?_) AllReadyH.nil
      go_simp
      refine hK.out _ _ hHeld (fun hHeld => ?_)
      clear hK K hHeld
      try simp only [Act.put, List.getElem_toArray, List.getElem_cons_zero, List.getElem_cons_succ, List.setIfInBounds_toArray, List.set_cons_zero, List.set_cons_succ]
      refine wpAnyH_done (by kernel_rfl) ?_ _
      try go_wp2_with fail
      go_meet
      exact ⟨_, _, _, _, _, _, _, _, rfl, rfl, HZ⟩
    · go_simp
      have hA9 : Below V0.heap.size V0 (V0.alloc (.cells #[.slice none 0 0, .int .i64 0, .int .i64 0, .slice none 0 0, .slice none 0 0, .slice none 0 0] 67)) := (Below.refl _ _).alloc (Nat.le_refl _) _
      have qB9 : (V0.alloc (.cells #[.slice none 0 0, .int .i64 0, .int .i64 0, .slice none 0 0, .slice none 0 0, .slice none 0 0] 67)).heap[V0.heap.size]? = some (.cells #[.slice none 0 0, .int .i64 0, .int .i64 0, .slice none 0 0, .slice none 0 0, .slice none 0 0] 67 (0, 0)) := heap_alloc_new _ _
      refine hK.out _ _ (hHeld.trans (hA9.mono hHeld.size)) (fun hHeld => ?_)
      clear hK K
      try simp only [Act.put, List.getElem_toArray, List.getElem_cons_zero, List.getElem_cons_succ, List.setIfInBounds_toArray, List.set_cons_zero, List.set_cons_succ]
      refine wpAnyH_ready (rs := [13]) (by kernel_rfl) (by simp) ?_
      refine AllReadyH.cons rfl (fun K hK => ?_) AllReadyH.nil
      go_simp
      refine (hdi _ (HT.out.below (HX2.out.bel.trans (hHeld.mono HX2.out.bel.size)))).mono ?_
      rintro e w3 ⟨ma1, mn1, mc1, ba1, bc1, ra1, rc1, rfl, hb3, hp3⟩
      have hHe2 := hHeld.trans (hb3.mono hHeld.size)
      have qB5 := heap_b qB9 hb3
      obtain ⟨fz9, c90, c91, c92, c93, c94, c95⟩ := row6_facts qB5
      refine hK.out _ _ hHe2 (fun hHeld => ?_)
      clear hK K
      try simp only [Act.put, List.getElem_toArray, List.getElem_cons_zero, List.getElem_cons_succ, List.setIfInBounds_toArray, List.set_cons_zero, List.set_cons_succ]
      refine wpAnyH_take (i := 14) (v := .tuple #[.agg (run6 (.slice (some ⟨b, off, none⟩) tn tc) a0 (j : Int) (.slice ma1 mn1 mc1) (.slice ba1 tn bc1) (.slice ra1 tn rc1)), .bool ok]) rfl (by kernel_rfl) (by kernel_rfl) (by kernel_rfl) (fun _ _ _ h => h) (Or.inl ⟨by rfl, fun w' hSw => ?_⟩) (by assumption) ?_
      · (try dsimp only at hSw); skip; go_simp
      try simp only [Act.put, List.getElem_toArray, List.getElem_cons_zero, List.getElem_cons_succ, List.setIfInBounds_toArray, List.set_cons_zero, List.set_cons_succ]
      refine wpAnyH_take (i := 15) (v := .agg (run6 (.slice (some ⟨b, off, none⟩) tn tc) a0 (j : Int) (.slice ma1 mn1 mc1) (.slice ba1 tn bc1) (.slice ra1 tn rc1))) rfl (by kernel_rfl) (by kernel_rfl) (by kernel_rfl) (fun _ _ _ h => h) (Or.inl ⟨by rfl, fun w' hSw => ?_⟩) (by assumption) ?_
      · (try dsimp only at hSw); skip; go_simp
      try simp only [Act.put, List.getElem_toArray, List.getElem_cons_zero, List.getElem_cons_succ, List.setIfInBounds_toArray, List.set_cons_zero, List.set_cons_succ]
      refine wpAnyH_take (i := 16) (v := .bool ok) rfl (by kernel_rfl) (by kernel_rfl) (by kernel_rfl) (fun _ _ _ h => h) (Or.inl ⟨by rfl, fun w' hSw => ?_⟩) (by assumption) ?_
      · (try dsimp only at hSw); skip; go_simp
      try simp only [Act.put, List.getElem_toArray, List.getElem_cons_zero, List.getElem_cons_succ, List.setIfInBounds_toArray, List.set_cons_zero, List.set_cons_succ]
      have hbw := HX2.out.bel.trans (hHe2.mono HX2.out.bel.size)
      have hwz := HX2.out.bel.size
      have hb6 : Below w2.heap.size w2 ((((((w3.setCell ⟨V0.heap.size, 0, none⟩ (.slice (some ⟨b, off, none⟩) tn tc)).setCell ⟨V0.heap.size, 1, none⟩ (.int .i64 a0)).setCell ⟨V0.heap.size, 2, none⟩ (.int .i64 (j : Int))).setCell ⟨V0.heap.size, 3, none⟩ (.slice ma1 mn1 mc1)).setCell ⟨V0.heap.size, 4, none⟩ (.slice ba1 tn bc1)).setCell ⟨V0.heap.size, 5, none⟩ (.slice ra1 tn rc1)) := six_below hHe2 sz0
      have hsz3 := hb3.size
      simp only [World.size_alloc] at hsz3 hp3
      have HZ := hide (And.intro (show Pd w ((((((w3.setCell ⟨V0.heap.size, 0, none⟩ (.slice (some ⟨b, off, none⟩) tn tc)).setCell ⟨V0.heap.size, 1, none⟩ (.int .i64 a0)).setCell ⟨V0.heap.size, 2, none⟩ (.int .i64 (j : Int))).setCell ⟨V0.heap.size, 3, none⟩ (.slice ma1 mn1 mc1)).setCell ⟨V0.heap.size, 4, none⟩ (.slice ba1 tn bc1)).setCell ⟨V0.heap.size, 5, none⟩ (.slice ra1 tn rc1)) V0.heap.size (run6 (.slice (some ⟨b, off, none⟩) tn tc) a0 (j : Int) (.slice ma1 mn1 mc1) (.slice ba1 tn bc1) (.slice ra1 tn rc1)) from ⟨six_below hbw (by omega), six_heap (heap_b HX2.out.ans hHe2) (by omega), six_row qB5, by omega⟩) (⟨V0.heap.size + 1, w3.heap.size, hp3.six (by omega) (.inl (by omega)), by omega, by rw [six_size]; omega, .inl (by omega)⟩ : ∃ lo hi, DidP ((((((w3.setCell ⟨V0.heap.size, 0, none⟩ (.slice (some ⟨b, off, none⟩) tn tc)).setCell ⟨V0.heap.size, 1, none⟩ (.int .i64 a0)).setCell ⟨V0.heap.size, 2, none⟩ (.int .i64 (j : Int))).setCell ⟨V0.heap.size, 3, none⟩ (.slice ma1 mn1 mc1)).setCell ⟨V0.heap.size, 4, none⟩ (.slice ba1 tn bc1)).setCell ⟨V0.heap.size, 5, none⟩ (.slice ra1 tn rc1)) lo hi (.slice ma d.zs.length mc) (.slice ba tn bc) (.slice ra tn rc) d' tn ok (.slice ma1 mn1 mc1) (.slice ba1 tn bc1) (.slice ra1 tn rc1) ∧ w.heap.size + 1 + 1 ≤ lo ∧ hi ≤ ((((((w3.setCell ⟨V0.heap.size, 0, none⟩ (.slice (some ⟨b, off, none⟩) tn tc)).setCell ⟨V0.heap.size, 1, none⟩ (.int .i64 a0)).setCell ⟨V0.heap.size, 2, none⟩ (.int .i64 (j : Int))).setCell ⟨V0.heap.size, 3, none⟩ (.slice ma1 mn1 mc1)).setCell ⟨V0.heap.size, 4, none⟩ (.slice ba1 tn bc1)).setCell ⟨V0.heap.size, 5, none⟩ (.slice ra1 tn rc1)).heap.size ∧ (V0.heap.size < lo ∨ hi ≤ V0.heap.size)))
      clear hp3 hb3 hHe2 hA9 qB9 qB5 hbw hwz
      refine wpAnyH_ready (rs := [18]) (by kernel_rfl) (by simp) ?_
      refine AllReadyH.cons rfl (fun K hK => ?_) AllReadyH.nil
      go_simp
      refine hK.out _ _ hb6 (fun hHeld => ?_)
      clear hK K
      try simp only [Act.put, List.getElem_toArray, List.getElem_cons_zero, List.getElem_cons_succ, List.setIfInBounds_toArray, List.set_cons_zero, List.set_cons_succ]
      refine wpAnyH_ready (rs := [19]) (by kernel_rfl) (by simp) ?_
      refine AllReadyH.cons rfl (fun K hK => ?_) AllReadyH.nil
      go_simp
      refine hK.out _ _ hHeld (fun hHeld => ?_)
      clear hK K hHeld
      try simp only [Act.put, List.getElem_toArray, List.getElem_cons_zero, List.getElem_cons_succ, List.setIfInBounds_toArray, List.set_cons_zero, List.set_cons_succ]
      refine wpAnyH_done (by kernel_rfl) ?_ _
      try go_wp2_with fail
      go_meet
      exact ⟨_, _, _, _, _, _, _, _, rfl, rfl, HZ⟩
  case rest =>
    obtain ⟨b6, ma1, mn1, mc1, ba1, bc1, ra1, rc1, rfl, rfl, HZ⟩ := hcut
    obtain ⟨pd, lo, hi, hdp, hlo, hhi, hb6⟩ := HZ.out
    obtain ⟨f6, d60, d61, d62, d63, d64, d65⟩ := row6_facts pd.row
    obtain ⟨fa, z0, z1, z2, z3, z4, z5⟩ := row6_facts pd.ans
    have hpl := pd.lo
    have hw1 : wrap64 ((j : Int) + 1) = (j : Int) + 1 := Go.IntWalk.wrap64_in _ (by omega)
    have HPB := hide pd.bel
    have hls := pd.bel.size
    clear HZ pd x0 x1 x2 x3 x4 x5 y0 y1 y2 y3 y4 y5
    have hne6 : b6 ≠ w.heap.size + 1 := by omega
    cases ok
    · have HD := hide (And.intro hdp (And.intro hlo (And.intro hhi hb6)))
      clear hdp hb6 hhi
      go_wp2
      refine bodyPost_ret (v := .tuple #[.agg (run6 (.slice (some ⟨b, off, none⟩) tn tc) a0 (j : Int) (.slice ma1 mn1 mc1) (.slice ba1 tn bc1) (.slice ra1 tn rc1)), .bool false]) (by simp [results, Try.results32, go_sem, z0, z1, z2, z3, z4, z5]) rfl ?_
      refine ⟨_, _, _, _, _, _, _, rfl, six_below HPB.out (by omega), ?_⟩
      rw [six_size]
      exact (HD.out.1.six (by omega) (.inl (by omega))).mono (by omega) HD.out.2.2.1
    · have HD := hide (And.intro hdp (And.intro hlo (And.intro hhi hb6)))
      clear hdp hb6 hhi
      go_wp2
      refine bodyPost_ret (v := .tuple #[.agg (run6 (.slice (some ⟨b, off, none⟩) tn tc) a0 ((j : Int) + 1) (.slice ma1 mn1 mc1) (.slice ba1 tn bc1) (.slice ra1 tn rc1)), .bool true]) (by simp [results, Try.results32, go_sem, z0, z1, z2, z3, z4, z5]) rfl ?_
      refine ⟨_, _, _, _, _, _, _, rfl, six_below (HPB.out.setCell (p := ⟨b6, 2, none⟩) (by show w.heap.size ≤ b6; omega) _) (by omega), ?_⟩
      rw [six_size]
      exact ((HD.out.1.set (by omega) HD.out.2.2.2).six (by omega) (.inl (by omega))).mono (by omega) (by have := HD.out.2.2.1; simpa using this)

end Go.Proofs.Ytcocobmanlmjdaa
