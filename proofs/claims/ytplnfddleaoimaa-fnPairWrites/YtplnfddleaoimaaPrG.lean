/- spec.l13Copy (written by mkPrG.py) -/
import Derived.Test.YtplnfddleaoimaaPrF
import Derived.Deep.RegionHeld
import Derived.Maps.AppendAt
namespace Go.Proofs.Ytplnfddleaoimaa
open Go.RowKit
set_option linter.unusedVariables false
set_option linter.unusedSimpArgs false

theorem step_append_run {P : Program} {ops : Array Oper} {o : Oper} {a : Act} {w : World} {K : Act → World → Prop} {Q : Exit → Act → World → Prop} {E : Prop} (hgd : o.guard = none) (s x : Operand) (t : TypeId)
    (ho : o.op = .call { callee := .builtin .append, args := #[s, x], argTypes := #[t, t] }) {v u v' : Value} {w' : World} (hs : a.eval s = v) (hx : a.eval x = u) (hr : (Builtin.append_ #[t, t] o.type #[v, u]).run P w = .ok v' w') (h : K (a.put o.dst v') w') :
    if Region.wanted o (yielded ops a.tmps) = true then Oper.wp P o a w K Q else E := by
  have hw : Region.wanted o (yielded ops a.tmps) = true := by simp [Region.wanted, hgd]
  rw [if_pos hw]
  unfold Oper.wp execOp
  simp only [ho, resolve, invoke, builtin, Sem.run_bind, Sem.run_pure, Result.andThen_ok, List.map_toArray, List.map_cons, List.map_nil, hs, hx, hr]
  exact h
theorem app_nilI (g c : Nat) (ty : TypeId) (W : World) : (Builtin.append_ #[24, 24] ty #[.slice (some ⟨g, 0, none⟩) 0 0, .slice none 0 c]).run Try.prog W = .ok (.slice (some ⟨g, 0, none⟩) 0 0) W := by kernel_rfl
theorem belowc {B : Nat} {w w' : World} (hb : Below B w w') {g i : Nat} {v : Value} (hg : g < B) (h : w.cell? ⟨g, i, none⟩ = some v) : w'.cell? ⟨g, i, none⟩ = some v := by
  rw [hb.cell hg]; exact h

/-- an append onto an empty slice of one's own -/
theorem append_own (W : World) (lo g : Nat) (ad : Option Addr) (c : Nat) (zs : List Int) (ty : TypeId) (ho : Ow W lo (.slice (some ⟨g, 0, none⟩) 0 0) []) (hs : Sl W (.slice ad zs.length c) zs) (hl : zs.length ≤ 1000) (hlo : lo ≤ W.heap.size) :
    ∃ ud uc w', (Builtin.append_ #[24, 24] ty #[.slice (some ⟨g, 0, none⟩) 0 0, .slice ad zs.length c]).run Try.prog W = .ok (.slice ud zs.length uc) w' ∧ Ow w' lo (.slice ud zs.length uc) zs ∧ W.grownBy w' (some g) ∧ ((Value.slice ud zs.length uc).ownBlock = some g ∨ (Value.slice ud zs.length uc).ownBlock = some W.heap.size) := by
  obtain ⟨i0, hi, hz0, hz1, hz2⟩ := info_parts infoI
  cases ad with
  | none =>
    have h0 : zs.length = 0 := by
      obtain ⟨ad, cap, e, hc⟩ := hs
      by_cases hp : 0 < zs.length
      · obtain ⟨b, off, e2, _⟩ := hc hp
        rw [e2] at e; simp at e
      · omega
    have hz : zs = [] := List.eq_nil_of_length_eq_zero h0
    subst hz
    exact ⟨_, _, _, app_nilI _ _ _ _, ho, World.grownBy.refl _ _, .inl rfl⟩
  | some a =>
    obtain ⟨v', w', hr, hown, hgrow, _, hat⟩ := run_append_own_at (P := Try.prog) W lo 24 ty 2 i0 _ 1 8 Try.underlying24 hi hz0 hz1 hz2 rfl (by omega) _ 0 [] ho a zs.length c (zs.map (Value.int .i64)) (by simp) hs.news ints_one (by unfold maxLen; omega) (by omega) hlo
    have ho' : Ow w' lo v' zs := by unfold Ow; simpa using hown
    obtain ⟨ud, uc, e, _⟩ := ho'.form
    subst e
    exact ⟨ud, uc, w', hr, ho', hgrow, hat⟩

theorem Pw.swap {w : World} {lo hi : Nat} {L R : Value} {zl zr : List Int} (h : Pw w lo hi L R zl zr) : Pw w lo hi R L zr zl := ⟨h.r, h.l, (fun k a b => h.ne k b a), h.rh, h.lh⟩
/-- the copy under way: what is behind block s is as it was, the answer's box, two lists -/
structure Cp (W0 : World) (s : Nat) (cur : World) (va vb : Value) (xs ys : List Int) : Prop where
  bel : Below (s + 1) W0 cur
  siz : s + 2 ≤ cur.heap.size
  box : cur.heap[s + 1]? = some (.cells (pq nilS nilS false false) 26 (0, 0))
  pw : Pw cur (s + 2) cur.heap.size va vb xs ys
theorem Cp.swap {W0 cur : World} {s : Nat} {va vb : Value} {xs ys : List Int} (h : Cp W0 s cur va vb xs ys) : Cp W0 s cur vb va ys xs := ⟨h.bel, h.siz, h.box, h.pw.swap⟩
theorem ow_empty (w : World) : Ow (w.alloc (.cells #[] 2)) w.heap.size (.slice (some ⟨w.heap.size, 0, none⟩) 0 0) [] := empty_own w 2 1
theorem Cp.emp {W0 cur : World} {s : Nat} {va vb : Value} {ys : List Int} (h : Cp W0 s cur va vb [] ys) : Cp W0 s (cur.alloc (.cells #[] 2)) (.slice (some ⟨cur.heap.size, 0, none⟩) 0 0) vb [] ys := by
  have ha : Below cur.heap.size cur (cur.alloc (.cells #[] 2)) := (Below.refl _ _).alloc (Nat.le_refl _) _
  have hs := h.siz
  refine ⟨h.bel.trans (ha.mono (by omega)), by have := ha.size; omega, (ha.block _ (by omega)).trans h.box, ?_⟩
  refine ⟨(ow_empty cur).mono hs, h.pw.r.below ha, ?_, ?_, ?_⟩
  · intro k h1 h2
    simp [Value.ownBlock] at h1
    have := h.pw.rh k h2
    omega
  · intro k h1; simp [Value.ownBlock] at h1; simp; omega
  · intro k h1; have := h.pw.rh k h1; simp; omega
theorem Cp.app {W0 cur : World} {s g : Nat} {vb : Value} {ys zs : List Int} (h : Cp W0 s cur (.slice (some ⟨g, 0, none⟩) 0 0) vb [] ys) (ad : Option Addr) (c : Nat) (ty : TypeId) (hs : Sl cur (.slice ad zs.length c) zs) (hl : zs.length ≤ 1000) :
    ∃ ud uc w', (Builtin.append_ #[24, 24] ty #[.slice (some ⟨g, 0, none⟩) 0 0, .slice ad zs.length c]).run Try.prog cur = .ok (.slice ud zs.length uc) w' ∧ Cp W0 s w' (.slice ud zs.length uc) vb zs ys := by
  obtain ⟨ud, uc, w', hr, ho, hg, hat⟩ := append_own cur (s + 2) g ad c zs ty h.pw.l hs hl h.siz
  have hlt := h.pw.l.lt g rfl
  have hsz := hg.size
  have hb : Below (s + 1) W0 w' := h.bel.grown hg (by have := h.siz; omega) (fun k hk => by simp at hk; omega)
  refine ⟨ud, uc, w', hr, hb, by have := h.siz; omega, ?_, ?_⟩
  · rw [hg.block (s + 1) (by have := h.siz; omega) (fun e => by simp at e; omega)]; exact h.box
  · refine ⟨ho, World.ownsRow.kept h.pw.r hg ?_, ?_, fun k hk => (ho.lt k hk).2, fun k hk => Nat.lt_of_lt_of_le (h.pw.rh k hk) hsz⟩
    · cases hv : vb.ownBlock with
      | none => exact .inl rfl
      | some k => exact .inr (fun e => h.pw.ne g rfl (by rw [hv, e]))
    · intro k h1 h2
      rcases hat with e | e
      · rw [e] at h1; exact h.pw.ne g rfl (by rw [h2, h1])
      · rw [e] at h1
        have := h.pw.rh k h2
        simp at h1
        omega

theorem below_low {w W cur : World} {s : Nat} (h : Below w.heap.size w W) (k : Below (s + 1) W cur) (hs : w.heap.size = s) : Below w.heap.size w cur := h.trans (k.mono (by omega))
theorem fin_held {W cur : World} {s : Nat} {va vb : Value} {xs ys : List Int} (h : Cp W s cur va vb xs ys) (a b c d : Value) : Below (s + 1) W ((((cur.setCell ⟨s + 1, 0, none⟩ a).setCell ⟨s + 1, 1, none⟩ b).setCell ⟨s + 1, 2, none⟩ c).setCell ⟨s + 1, 3, none⟩ d) := by
  have hle : s + 1 ≤ s + 1 := Nat.le_refl _
  iterate 4 (refine Below.setCell ?_ hle _)
  exact h.bel
theorem fin_facts {w W cur : World} {s : Nat} {va vb : Value} {xs ys : List Int} {lu ru : Bool} (h : Cp W s cur va vb xs ys) (hB : Below w.heap.size w W) (hs : w.heap.size = s) :
    B4 ((((cur.setCell ⟨s + 1, 0, none⟩ va).setCell ⟨s + 1, 1, none⟩ vb).setCell ⟨s + 1, 2, none⟩ (.bool lu)).setCell ⟨s + 1, 3, none⟩ (.bool ru)) (s + 1) va vb (.bool lu) (.bool ru) ∧ Pw ((((cur.setCell ⟨s + 1, 0, none⟩ va).setCell ⟨s + 1, 1, none⟩ vb).setCell ⟨s + 1, 2, none⟩ (.bool lu)).setCell ⟨s + 1, 3, none⟩ (.bool ru)) w.heap.size ((((cur.setCell ⟨s + 1, 0, none⟩ va).setCell ⟨s + 1, 1, none⟩ vb).setCell ⟨s + 1, 2, none⟩ (.bool lu)).setCell ⟨s + 1, 3, none⟩ (.bool ru)).heap.size va vb xs ys ∧ Below w.heap.size w ((((cur.setCell ⟨s + 1, 0, none⟩ va).setCell ⟨s + 1, 1, none⟩ vb).setCell ⟨s + 1, 2, none⟩ (.bool lu)).setCell ⟨s + 1, 3, none⟩ (.bool ru)) := by
  refine ⟨?_, ?_, below_low hB (fin_held h _ _ _ _) hs⟩
  · have hx : ((((cur.setCell ⟨s + 1, 0, none⟩ va).setCell ⟨s + 1, 1, none⟩ vb).setCell ⟨s + 1, 2, none⟩ (.bool lu)).setCell ⟨s + 1, 3, none⟩ (.bool ru)).heap[s + 1]? = some (.cells #[va, vb, .bool lu, .bool ru] 26 (0, 0)) := by
      rw [heap_setCell_same _ _ 3 _ _ _ (heap_setCell_same _ _ 2 _ _ _ (heap_setCell_same _ _ 1 _ _ _ (heap_setCell_same _ _ 0 _ _ _ h.box)))]; rfl
    exact (row4_facts hx).2
  · simp only [World.size_setCell]
    refine Pw.wide (lo := s + 2) (hi := cur.heap.size) ?_ (by omega) (Nat.le_refl _)
    iterate 4 (refine Pw.set ?_ (by omega))
    exact h.pw

set_option maxHeartbeats 8000000 in
set_option maxRecDepth 20000 in
theorem copyPair_any (L R : Value) (zl zr : List Int) (lu ru : Bool) (w : World) (hl : Sl w L zl) (hr : Sl w R zr) (hn : zl.length ≤ 1000) (hm : zr.length ≤ 1000) :
    Calls Try.prog 37 #[.agg (pq L R lu ru)] w fun e w' => ∃ ad ac bd bc, e = .returned (.agg (pq (.slice ad zl.length ac) (.slice bd zr.length bc) lu ru)) ∧ Pw w' w.heap.size w'.heap.size (.slice ad zl.length ac) (.slice bd zr.length bc) zl zr ∧ Below w.heap.size w w' := by
  have HV := hide (And.intro hl hr)
  obtain ⟨ld, lc, rfl, _⟩ := hl
  obtain ⟨rd, rc, rfl, _⟩ := hr
  have hA1 : Below w.heap.size w (w.alloc (.cells (pq (.slice ld zl.length lc) (.slice rd zr.length rc) lu ru) 26)) := (Below.refl _ _).alloc (Nat.le_refl _) _
  have hA2 : Below (w.alloc (.cells (pq (.slice ld zl.length lc) (.slice rd zr.length rc) lu ru) 26)).heap.size (w.alloc (.cells (pq (.slice ld zl.length lc) (.slice rd zr.length rc) lu ru) 26)) ((w.alloc (.cells (pq (.slice ld zl.length lc) (.slice rd zr.length rc) lu ru) 26)).alloc (.cells (pq nilS nilS false false) 26)) := (Below.refl _ _).alloc (Nat.le_refl _) _
  have p1 := (bx4 w (.slice ld zl.length lc) (.slice rd zr.length rc) (.bool lu) (.bool ru) 26).below hA2
  have p2 := heap_alloc_new (w.alloc (.cells (pq (.slice ld zl.length lc) (.slice rd zr.length rc) lu ru) 26)) (.cells (pq nilS nilS false false) 26)
  have hsz : ((w.alloc (.cells (pq (.slice ld zl.length lc) (.slice rd zr.length rc) lu ru) 26)).alloc (.cells (pq nilS nilS false false) 26)).heap.size = w.heap.size + 2 := by simp
  simp only [World.size_alloc] at p2
  have hB0 := hA1.trans (hA2.mono hA1.size)
  have HX := hide (And.intro p1 (And.intro p2 (And.intro hB0 hsz)))
  clear p1 p2 hA1 hA2 hB0 hsz
  go_enter Try.func37, Try.ntmps37
  go_wp2
  generalize hW : (World.alloc (World.alloc _ _) _) = W at HX ⊢
  obtain ⟨p1, p2, hB0, hsz⟩ := HX.out
  clear HX hW
  obtain ⟨x0, x1, x2, x3⟩ := p1
  obtain ⟨s, hs⟩ : ∃ s, w.heap.size = s := ⟨_, rfl⟩
  rw [hs] at x0 x1 x2 x3 p2 hsz ⊢
  have hs0 : s < s + 1 := Nat.lt_succ_self s
  refine wp_region_held_drew (S := fun w' => Below (s + 1) W w') (by kernel_rfl) ((Below.refl _ _).drew) (fun hHeld => ?_)
  refine wpAnyH_take (i := 1) (v := .pointer (some ⟨s, 0, none⟩)) rfl (by kernel_rfl) (by kernel_rfl) (by kernel_rfl) (fun _ _ _ h => h) (Or.inl ⟨by rfl, fun w' hSw => ?_⟩) (by assumption) ?_
  · (try dsimp only at hSw); have z0 := belowc hSw hs0 x0; have z1 := belowc hSw hs0 x1; have z2 := belowc hSw hs0 x2; have z3 := belowc hSw hs0 x3; go_simp
  try simp only [Act.put, List.getElem_toArray, List.getElem_cons_zero, List.getElem_cons_succ, List.setIfInBounds_toArray, List.set_cons_zero, List.set_cons_succ]
  refine wpAnyH_take (i := 2) (v := .slice ld zl.length lc) rfl (by kernel_rfl) (by kernel_rfl) (by kernel_rfl) (fun _ _ _ h => h) (Or.inl ⟨by rfl, fun w' hSw => ?_⟩) (by assumption) ?_
  · (try dsimp only at hSw); have z0 := belowc hSw hs0 x0; have z1 := belowc hSw hs0 x1; have z2 := belowc hSw hs0 x2; have z3 := belowc hSw hs0 x3; go_simp
  try simp only [Act.put, List.getElem_toArray, List.getElem_cons_zero, List.getElem_cons_succ, List.setIfInBounds_toArray, List.set_cons_zero, List.set_cons_succ]
  refine wpAnyH_take (i := 5) (v := .pointer (some ⟨s, 1, none⟩)) rfl (by kernel_rfl) (by kernel_rfl) (by kernel_rfl) (fun _ _ _ h => h) (Or.inl ⟨by rfl, fun w' hSw => ?_⟩) (by assumption) ?_
  · (try dsimp only at hSw); have z0 := belowc hSw hs0 x0; have z1 := belowc hSw hs0 x1; have z2 := belowc hSw hs0 x2; have z3 := belowc hSw hs0 x3; go_simp
  try simp only [Act.put, List.getElem_toArray, List.getElem_cons_zero, List.getElem_cons_succ, List.setIfInBounds_toArray, List.set_cons_zero, List.set_cons_succ]
  refine wpAnyH_take (i := 6) (v := .slice rd zr.length rc) rfl (by kernel_rfl) (by kernel_rfl) (by kernel_rfl) (fun _ _ _ h => h) (Or.inl ⟨by rfl, fun w' hSw => ?_⟩) (by assumption) ?_
  · (try dsimp only at hSw); have z0 := belowc hSw hs0 x0; have z1 := belowc hSw hs0 x1; have z2 := belowc hSw hs0 x2; have z3 := belowc hSw hs0 x3; go_simp
  try simp only [Act.put, List.getElem_toArray, List.getElem_cons_zero, List.getElem_cons_succ, List.setIfInBounds_toArray, List.set_cons_zero, List.set_cons_succ]
  refine wpAnyH_take (i := 8) (v := .pointer (some ⟨s, 2, none⟩)) rfl (by kernel_rfl) (by kernel_rfl) (by kernel_rfl) (fun _ _ _ h => h) (Or.inl ⟨by rfl, fun w' hSw => ?_⟩) (by assumption) ?_
  · (try dsimp only at hSw); have z0 := belowc hSw hs0 x0; have z1 := belowc hSw hs0 x1; have z2 := belowc hSw hs0 x2; have z3 := belowc hSw hs0 x3; go_simp
  try simp only [Act.put, List.getElem_toArray, List.getElem_cons_zero, List.getElem_cons_succ, List.setIfInBounds_toArray, List.set_cons_zero, List.set_cons_succ]
  refine wpAnyH_take (i := 9) (v := .bool lu) rfl (by kernel_rfl) (by kernel_rfl) (by kernel_rfl) (fun _ _ _ h => h) (Or.inl ⟨by rfl, fun w' hSw => ?_⟩) (by assumption) ?_
  · (try dsimp only at hSw); have z0 := belowc hSw hs0 x0; have z1 := belowc hSw hs0 x1; have z2 := belowc hSw hs0 x2; have z3 := belowc hSw hs0 x3; go_simp
  try simp only [Act.put, List.getElem_toArray, List.getElem_cons_zero, List.getElem_cons_succ, List.setIfInBounds_toArray, List.set_cons_zero, List.set_cons_succ]
  refine wpAnyH_take (i := 10) (v := .pointer (some ⟨s, 3, none⟩)) rfl (by kernel_rfl) (by kernel_rfl) (by kernel_rfl) (fun _ _ _ h => h) (Or.inl ⟨by rfl, fun w' hSw => ?_⟩) (by assumption) ?_
  · (try dsimp only at hSw); have z0 := belowc hSw hs0 x0; have z1 := belowc hSw hs0 x1; have z2 := belowc hSw hs0 x2; have z3 := belowc hSw hs0 x3; go_simp
  try simp only [Act.put, List.getElem_toArray, List.getElem_cons_zero, List.getElem_cons_succ, List.setIfInBounds_toArray, List.set_cons_zero, List.set_cons_succ]
  refine wpAnyH_take (i := 11) (v := .bool ru) rfl (by kernel_rfl) (by kernel_rfl) (by kernel_rfl) (fun _ _ _ h => h) (Or.inl ⟨by rfl, fun w' hSw => ?_⟩) (by assumption) ?_
  · (try dsimp only at hSw); have z0 := belowc hSw hs0 x0; have z1 := belowc hSw hs0 x1; have z2 := belowc hSw hs0 x2; have z3 := belowc hSw hs0 x3; go_simp
  try simp only [Act.put, List.getElem_toArray, List.getElem_cons_zero, List.getElem_cons_succ, List.setIfInBounds_toArray, List.set_cons_zero, List.set_cons_succ]
  obtain ⟨V0, hV0⟩ : ∃ V, W.drew = V := ⟨_, rfl⟩
  have c0 : Cp W s V0 nilS nilS [] [] := by
    subst hV0
    exact ⟨(Below.refl _ _).drew, by show s + 2 ≤ W.heap.size; omega, p2, Pw.nil _ _ _⟩
  rw [hV0] at hHeld ⊢
  clear hV0 p2
  refine wpAnyH_ready (rs := [0, 4]) (by kernel_rfl) (by simp) ?_
  refine (AllReadyH.cons rfl (fun K hK => ?_) (AllReadyH.cons rfl (fun K hK => ?_) AllReadyH.nil))
  · go_simp
    have c1 := c0.emp
    obtain ⟨gA, hgA⟩ : ∃ g, V0.heap.size = g := ⟨_, rfl⟩
    rw [hgA] at c1 ⊢
    clear hgA
    generalize (World.alloc _ _) = V1 at c1 ⊢
    refine hK.out _ _ c1.bel (fun hHeld => ?_)
    clear hK K c0
    try simp only [Act.put, List.getElem_toArray, List.getElem_cons_zero, List.getElem_cons_succ, List.setIfInBounds_toArray, List.set_cons_zero, List.set_cons_succ]
    refine wpAnyH_ready (rs := [3, 4]) (by kernel_rfl) (by simp) ?_
    refine (AllReadyH.cons rfl (fun K hK => ?_) (AllReadyH.cons rfl (fun K hK => ?_) AllReadyH.nil))
    · obtain ⟨ua, uac, V2, hrun, c2⟩ := c1.app (zs := zl) ld lc 24 (HV.out.1.below (below_low hB0 c1.bel hs)) (by omega)
      refine step_append_run (by rfl) _ _ 24 (by rfl) (by rfl) (by rfl) hrun ?_
      refine hK.out _ _ c2.bel (fun hHeld => ?_)
      clear hK K hrun c1
      try simp only [Act.put, List.getElem_toArray, List.getElem_cons_zero, List.getElem_cons_succ, List.setIfInBounds_toArray, List.set_cons_zero, List.set_cons_succ]
      refine wpAnyH_ready (rs := [4]) (by kernel_rfl) (by simp) ?_
      refine (AllReadyH.cons rfl (fun K hK => ?_) AllReadyH.nil)
      · go_simp
        have c3 := (c2.swap.emp).swap
        obtain ⟨gB, hgB⟩ : ∃ g, V2.heap.size = g := ⟨_, rfl⟩
        rw [hgB] at c3 ⊢
        clear hgB
        generalize (World.alloc _ _) = V3 at c3 ⊢
        refine hK.out _ _ c3.bel (fun hHeld => ?_)
        clear hK K c2
        try simp only [Act.put, List.getElem_toArray, List.getElem_cons_zero, List.getElem_cons_succ, List.setIfInBounds_toArray, List.set_cons_zero, List.set_cons_succ]
        refine wpAnyH_ready (rs := [7]) (by kernel_rfl) (by simp) ?_
        refine (AllReadyH.cons rfl (fun K hK => ?_) AllReadyH.nil)
        · obtain ⟨ub, ubc, V4, hrun, c4⟩ := c3.swap.app (zs := zr) rd rc 24 (HV.out.2.below (below_low hB0 c3.bel hs)) (by omega)
          replace c4 := c4.swap
          refine step_append_run (by rfl) _ _ 24 (by rfl) (by rfl) (by rfl) hrun ?_
          refine hK.out _ _ c4.bel (fun hHeld => ?_)
          clear hK K hrun c3
          try simp only [Act.put, List.getElem_toArray, List.getElem_cons_zero, List.getElem_cons_succ, List.setIfInBounds_toArray, List.set_cons_zero, List.set_cons_succ]
          refine wpAnyH_take (i := 12) (v := .agg (pq (.slice ua zl.length uac) (.slice ub zr.length ubc) lu ru)) rfl (by kernel_rfl) (by kernel_rfl) (by kernel_rfl) (fun _ _ _ h => h) (Or.inl ⟨by rfl, fun w' hSw => ?_⟩) (by assumption) ?_
          · (try dsimp only at hSw); have z0 := belowc hSw hs0 x0; have z1 := belowc hSw hs0 x1; have z2 := belowc hSw hs0 x2; have z3 := belowc hSw hs0 x3; go_simp
          try simp only [Act.put, List.getElem_toArray, List.getElem_cons_zero, List.getElem_cons_succ, List.setIfInBounds_toArray, List.set_cons_zero, List.set_cons_succ]
          refine wpAnyH_ready (rs := [13]) (by kernel_rfl) (by simp) ?_
          refine AllReadyH.cons rfl (fun K hK => ?_) AllReadyH.nil
          obtain ⟨fr, r0, r1, r2, r3⟩ := row4_facts c4.box
          go_simp
          refine hK.out _ _ (fin_held c4 _ _ _ _) (fun hHeld => ?_)
          clear hK K hHeld fr r0 r1 r2 r3
          try simp only [Act.put, List.getElem_toArray, List.getElem_cons_zero, List.getElem_cons_succ, List.setIfInBounds_toArray, List.set_cons_zero, List.set_cons_succ]
          refine wpAnyH_done (by kernel_rfl) ?_ _
          obtain ⟨q0, f1, f2⟩ := fin_facts (lu := lu) (ru := ru) c4 hB0 hs
          obtain ⟨q0, q1, q2, q3⟩ := q0
          have HF := hide (And.intro f1 f2)
          clear f1 f2 c4 x0 x1 x2 x3
          generalize (World.setCell _ _ _) = Y at q0 q1 q2 q3 HF ⊢
          go_wp2
          refine bodyPost_ret (v := .agg (pq (.slice ua zl.length uac) (.slice ub zr.length ubc) lu ru)) (by simp [results, Try.results37, go_sem, q0, q1, q2, q3]) rfl ⟨_, _, _, _, rfl, HF.out.1, HF.out.2⟩
    · go_simp
      have c5 := (c1.swap.emp).swap
      obtain ⟨gB, hgB⟩ : ∃ g, V1.heap.size = g := ⟨_, rfl⟩
      rw [hgB] at c5 ⊢
      clear hgB
      generalize (World.alloc _ _) = V5 at c5 ⊢
      refine hK.out _ _ c5.bel (fun hHeld => ?_)
      clear hK K c1
      try simp only [Act.put, List.getElem_toArray, List.getElem_cons_zero, List.getElem_cons_succ, List.setIfInBounds_toArray, List.set_cons_zero, List.set_cons_succ]
      refine wpAnyH_ready (rs := [3]) (by kernel_rfl) (by simp) ?_
      refine (AllReadyH.cons rfl (fun K hK => ?_) AllReadyH.nil)
      · obtain ⟨ua, uac, V6, hrun, c6⟩ := c5.app (zs := zl) ld lc 24 (HV.out.1.below (below_low hB0 c5.bel hs)) (by omega)
        refine step_append_run (by rfl) _ _ 24 (by rfl) (by rfl) (by rfl) hrun ?_
        refine hK.out _ _ c6.bel (fun hHeld => ?_)
        clear hK K hrun c5
        try simp only [Act.put, List.getElem_toArray, List.getElem_cons_zero, List.getElem_cons_succ, List.setIfInBounds_toArray, List.set_cons_zero, List.set_cons_succ]
        refine wpAnyH_ready (rs := [7]) (by kernel_rfl) (by simp) ?_
        refine (AllReadyH.cons rfl (fun K hK => ?_) AllReadyH.nil)
        · obtain ⟨ub, ubc, V7, hrun, c7⟩ := c6.swap.app (zs := zr) rd rc 24 (HV.out.2.below (below_low hB0 c6.bel hs)) (by omega)
          replace c7 := c7.swap
          refine step_append_run (by rfl) _ _ 24 (by rfl) (by rfl) (by rfl) hrun ?_
          refine hK.out _ _ c7.bel (fun hHeld => ?_)
          clear hK K hrun c6
          try simp only [Act.put, List.getElem_toArray, List.getElem_cons_zero, List.getElem_cons_succ, List.setIfInBounds_toArray, List.set_cons_zero, List.set_cons_succ]
          refine wpAnyH_take (i := 12) (v := .agg (pq (.slice ua zl.length uac) (.slice ub zr.length ubc) lu ru)) rfl (by kernel_rfl) (by kernel_rfl) (by kernel_rfl) (fun _ _ _ h => h) (Or.inl ⟨by rfl, fun w' hSw => ?_⟩) (by assumption) ?_
          · (try dsimp only at hSw); have z0 := belowc hSw hs0 x0; have z1 := belowc hSw hs0 x1; have z2 := belowc hSw hs0 x2; have z3 := belowc hSw hs0 x3; go_simp
          try simp only [Act.put, List.getElem_toArray, List.getElem_cons_zero, List.getElem_cons_succ, List.setIfInBounds_toArray, List.set_cons_zero, List.set_cons_succ]
          refine wpAnyH_ready (rs := [13]) (by kernel_rfl) (by simp) ?_
          refine AllReadyH.cons rfl (fun K hK => ?_) AllReadyH.nil
          obtain ⟨fr, r0, r1, r2, r3⟩ := row4_facts c7.box
          go_simp
          refine hK.out _ _ (fin_held c7 _ _ _ _) (fun hHeld => ?_)
          clear hK K hHeld fr r0 r1 r2 r3
          try simp only [Act.put, List.getElem_toArray, List.getElem_cons_zero, List.getElem_cons_succ, List.setIfInBounds_toArray, List.set_cons_zero, List.set_cons_succ]
          refine wpAnyH_done (by kernel_rfl) ?_ _
          obtain ⟨q0, f1, f2⟩ := fin_facts (lu := lu) (ru := ru) c7 hB0 hs
          obtain ⟨q0, q1, q2, q3⟩ := q0
          have HF := hide (And.intro f1 f2)
          clear f1 f2 c7 x0 x1 x2 x3
          generalize (World.setCell _ _ _) = Y at q0 q1 q2 q3 HF ⊢
          go_wp2
          refine bodyPost_ret (v := .agg (pq (.slice ua zl.length uac) (.slice ub zr.length ubc) lu ru)) (by simp [results, Try.results37, go_sem, q0, q1, q2, q3]) rfl ⟨_, _, _, _, rfl, HF.out.1, HF.out.2⟩
  · go_simp
    have c8 := (c0.swap.emp).swap
    obtain ⟨gB, hgB⟩ : ∃ g, V0.heap.size = g := ⟨_, rfl⟩
    rw [hgB] at c8 ⊢
    clear hgB
    generalize (World.alloc _ _) = V8 at c8 ⊢
    refine hK.out _ _ c8.bel (fun hHeld => ?_)
    clear hK K c0
    try simp only [Act.put, List.getElem_toArray, List.getElem_cons_zero, List.getElem_cons_succ, List.setIfInBounds_toArray, List.set_cons_zero, List.set_cons_succ]
    refine wpAnyH_ready (rs := [0]) (by kernel_rfl) (by simp) ?_
    refine (AllReadyH.cons rfl (fun K hK => ?_) AllReadyH.nil)
    · go_simp
      have c9 := c8.emp
      obtain ⟨gA, hgA⟩ : ∃ g, V8.heap.size = g := ⟨_, rfl⟩
      rw [hgA] at c9 ⊢
      clear hgA
      generalize (World.alloc _ _) = V9 at c9 ⊢
      refine hK.out _ _ c9.bel (fun hHeld => ?_)
      clear hK K c8
      try simp only [Act.put, List.getElem_toArray, List.getElem_cons_zero, List.getElem_cons_succ, List.setIfInBounds_toArray, List.set_cons_zero, List.set_cons_succ]
      refine wpAnyH_ready (rs := [3]) (by kernel_rfl) (by simp) ?_
      refine (AllReadyH.cons rfl (fun K hK => ?_) AllReadyH.nil)
      · obtain ⟨ua, uac, V10, hrun, c10⟩ := c9.app (zs := zl) ld lc 24 (HV.out.1.below (below_low hB0 c9.bel hs)) (by omega)
        refine step_append_run (by rfl) _ _ 24 (by rfl) (by rfl) (by rfl) hrun ?_
        refine hK.out _ _ c10.bel (fun hHeld => ?_)
        clear hK K hrun c9
        try simp only [Act.put, List.getElem_toArray, List.getElem_cons_zero, List.getElem_cons_succ, List.setIfInBounds_toArray, List.set_cons_zero, List.set_cons_succ]
        refine wpAnyH_ready (rs := [7]) (by kernel_rfl) (by simp) ?_
        refine (AllReadyH.cons rfl (fun K hK => ?_) AllReadyH.nil)
        · obtain ⟨ub, ubc, V11, hrun, c11⟩ := c10.swap.app (zs := zr) rd rc 24 (HV.out.2.below (below_low hB0 c10.bel hs)) (by omega)
          replace c11 := c11.swap
          refine step_append_run (by rfl) _ _ 24 (by rfl) (by rfl) (by rfl) hrun ?_
          refine hK.out _ _ c11.bel (fun hHeld => ?_)
          clear hK K hrun c10
          try simp only [Act.put, List.getElem_toArray, List.getElem_cons_zero, List.getElem_cons_succ, List.setIfInBounds_toArray, List.set_cons_zero, List.set_cons_succ]
          refine wpAnyH_take (i := 12) (v := .agg (pq (.slice ua zl.length uac) (.slice ub zr.length ubc) lu ru)) rfl (by kernel_rfl) (by kernel_rfl) (by kernel_rfl) (fun _ _ _ h => h) (Or.inl ⟨by rfl, fun w' hSw => ?_⟩) (by assumption) ?_
          · (try dsimp only at hSw); have z0 := belowc hSw hs0 x0; have z1 := belowc hSw hs0 x1; have z2 := belowc hSw hs0 x2; have z3 := belowc hSw hs0 x3; go_simp
          try simp only [Act.put, List.getElem_toArray, List.getElem_cons_zero, List.getElem_cons_succ, List.setIfInBounds_toArray, List.set_cons_zero, List.set_cons_succ]
          refine wpAnyH_ready (rs := [13]) (by kernel_rfl) (by simp) ?_
          refine AllReadyH.cons rfl (fun K hK => ?_) AllReadyH.nil
          obtain ⟨fr, r0, r1, r2, r3⟩ := row4_facts c11.box
          go_simp
          refine hK.out _ _ (fin_held c11 _ _ _ _) (fun hHeld => ?_)
          clear hK K hHeld fr r0 r1 r2 r3
          try simp only [Act.put, List.getElem_toArray, List.getElem_cons_zero, List.getElem_cons_succ, List.setIfInBounds_toArray, List.set_cons_zero, List.set_cons_succ]
          refine wpAnyH_done (by kernel_rfl) ?_ _
          obtain ⟨q0, f1, f2⟩ := fin_facts (lu := lu) (ru := ru) c11 hB0 hs
          obtain ⟨q0, q1, q2, q3⟩ := q0
          have HF := hide (And.intro f1 f2)
          clear f1 f2 c11 x0 x1 x2 x3
          generalize (World.setCell _ _ _) = Y at q0 q1 q2 q3 HF ⊢
          go_wp2
          refine bodyPost_ret (v := .agg (pq (.slice ua zl.length uac) (.slice ub zr.length ubc) lu ru)) (by simp [results, Try.results37, go_sem, q0, q1, q2, q3]) rfl ⟨_, _, _, _, rfl, HF.out.1, HF.out.2⟩

end Go.Proofs.Ytplnfddleaoimaa
