/- DrawLitmusOk, DrawLitmusText (written by mkRgC.py) -/
import Derived.Test.YtokekgfompbdiaaDoorRgB
import Derived.Test.YtokekgfompbdiaaDoorRlH
namespace Go.Proofs.YtokekgfompbdiaaDoor
open Go.RowKit
set_option linter.unusedVariables false
set_option linter.unusedSimpArgs false

/-- the world of a drawn test: the reader, its variable L, the result's -/
structure Dw (w wr : World) (g L : Nat) (v : Value) (ts : List (List Ac)) (vs : Nat → Value) : Prop where
  rd : Rdr wr g
  bel : Below w.heap.size w wr
  res : wr.heap[w.heap.size]? = some (.cells #[.slice none 0 0] 26 (0, 0))
  bx : wr.heap[L]? = some (.cells #[v] 26 (0, 0))
  ot : OwT wr (g + 1) v ts vs
  nL : v.ownBlock ≠ some L ∧ ∀ c, c < ts.length → (vs c).ownBlock ≠ some L
  lg : w.heap.size < g
  lL : g < L
theorem Dw.read {w wr w' : World} {g L : Nat} {v : Value} {ts : List (List Ac)} {vs : Nat → Value} (h : Dw w wr g L v ts vs) (hr : Rdr w' g) (hg : wr.grownBy w' (some g)) : Dw w w' g L v ts vs := by
  have hl := h.lg
  have hL := h.lL
  have hb := lt_of_block h.bx
  have hb2 := lt_of_block h.res
  exact ⟨hr, h.bel.grown hg h.bel.size (fun k hk => by have := Option.some.inj hk; omega), (hg.block _ (by omega) (fun e => by have := Option.some.inj e; omega)).trans h.res, (hg.block _ hb (fun e => by have := Option.some.inj e; omega)).trans h.bx, h.ot.keptG hg (fun k hk => by have := Option.some.inj hk; subst this; exact h.ot.young (by omega)), h.nL, hl, hL⟩
theorem Dw.drew {w wr : World} {g L : Nat} {v : Value} {ts : List (List Ac)} {vs : Nat → Value} (h : Dw w wr g L v ts vs) : Dw w wr.drew g L v ts vs := h.read h.rd.drewR (by have hb := (Below.refl wr.heap.size wr).drew; exact ⟨hb.os, hb.tape, hb.output, hb.size, fun k hk _ => hb.block k hk⟩)
theorem Dw.cells {w wr : World} {g L : Nat} {v : Value} {ts : List (List Ac)} {vs : Nat → Value} (h : Dw w wr g L v ts vs) : wr.cell? ⟨L, 0, none⟩ = some v ∧ ∀ i, wr.frozen? ⟨L, i, none⟩ = false := ⟨(cell_of_row _ _ 0 _ _ _ h.bx).trans rfl, fun i => frozen_of_row _ _ i _ _ h.bx⟩
theorem Dw.fin {w wr : World} {g L : Nat} {u v : Value} {ts : List (List Ac)} {vs : Nat → Value} (h : Dw w wr g L v ts vs) : (wr.cell? ⟨w.heap.size, 0, none⟩ = some (.slice none 0 0) ∧ ∀ i, wr.frozen? ⟨w.heap.size, i, none⟩ = false) ∧ OwT (wr.setCell ⟨w.heap.size, 0, none⟩ u) w.heap.size v ts vs ∧ Below w.heap.size w (wr.setCell ⟨w.heap.size, 0, none⟩ u) := by
  have hl := h.lg
  exact ⟨⟨(cell_of_row _ _ 0 _ _ _ h.res).trans rfl, fun i => frozen_of_row _ _ i _ _ h.res⟩, (h.ot.set (by omega)).mono (by omega), h.bel.setCell (Nat.le_refl _) _⟩
/-- the outer row's first cell -/
theorem OwT.first {w : World} {base : Nat} {v : Value} {ts : List (List Ac)} {vs : Nat → Value} (h : OwT w base v ts vs) (hp : 0 < ts.length) : ∃ G vc, v = .slice (some ⟨G, 0, none⟩) ts.length vc ∧ w.cell? ⟨G, 0, none⟩ = some (vs 0) := by
  rcases h.row.2 with ⟨h', hn⟩ | ⟨g, cap, cur, h', hb, hg, hnc, hcm, hcs, htake⟩
  · omega
  · have hh : w.ownsRow base 34 1 (.slice (some ⟨g, 0, none⟩) ts.length cap) ts.length ((List.range ts.length).map vs) := h' ▸ h.row
    exact ⟨g, cap, h', by rw [hh.cellAt 0 (by omega), range_at hp]⟩
def Ac.kd (a : Ac) (x : Int) : Ac := ⟨x, a.co, a.va, a.vl, a.rg⟩
/-- a test whose first act has another kind -/
def stK (ts : List (List Ac)) (x : Int) : List (List Ac) := match ts with
  | (a :: xa) :: r => (a.kd x :: xa) :: r
  | r => r
theorem OwT.setK {w : World} {base g0 n c0 : Nat} {v : Value} {ts : List (List Ac)} {vs : Nat → Value} (h : OwT w base v ts vs) (hp : 0 < ts.length) (h0 : 0 < Lf ts 0) (hv : vs 0 = .slice (some ⟨g0, 0, none⟩) n c0) (x : Int) : OwT (w.setCell ⟨g0, 0, none⟩ (.int .i64 x)) base v (stK ts x) vs := by
  match ts, hp, h0 with
  | (a :: xa) :: r, hp, h0 =>
    have hb0 : (vs 0).ownBlock = some g0 := by rw [hv]; rfl
    have hg := grown_setR w g0 0 (.int .i64 x)
    refine ⟨?_, fun c hc => ?_, h.ap, h.inj⟩
    · refine World.ownsRow.kept h.row hg ?_
      cases hvv : v.ownBlock with
      | none => exact .inl rfl
      | some k => exact .inr (fun e => h.ap 0 hp g0 hb0 (by rw [hvv, e]))
    · by_cases ec : c = 0
      · subst ec
        have h1 := h.own 0 hp
        have hn : n = xa.length + 1 := by
          obtain ⟨_, _, e⟩ := h1.form
          rw [hv] at e
          simp only [Value.slice.injEq] at e
          rw [e.2.1]; rfl
        subst hn
        rw [hv] at h1 ⊢
        have h1' : w.ownsRow base 42 5 (.slice (some ⟨g0, 0, none⟩) (xa.length + 1) c0) (xa.length + 1) (cAs (a :: xa)) := h1
        have h2 := (World.ownsRow.stored h1' 0 (.int .i64 x)).1
        exact h2
      · have := (h.own c hc).kept hg (fun k hk e => h.inj c 0 hc (by omega) k hk (by rw [hb0]; exact e))
        match c, ec with
        | c + 1, _ => exact this
theorem stK_len (ts : List (List Ac)) (x : Int) : (stK ts x).length = ts.length ∧ ∀ xa ∈ stK ts x, ∃ ya ∈ ts, xa.length = ya.length := by
  unfold stK
  split
  · refine ⟨rfl, fun xa hx => ?_⟩
    rename_i a xa' r
    rcases List.mem_cons.1 hx with rfl | hx
    · exact ⟨a :: xa', by simp, rfl⟩
    · exact ⟨xa, by simp [hx], rfl⟩
  · exact ⟨rfl, fun xa hx => ⟨xa, hx, rfl⟩⟩

/-- a drawn test -/
def DlPost (w : World) (e : Ending) (w' : World) : Prop := ∃ v ts vs, e = .returned (.agg #[v]) ∧ OwT w' w.heap.size v ts vs ∧ Below w.heap.size w w' ∧ (1 ≤ ts.length ∧ ts.length ≤ 2) ∧ ∀ xa ∈ ts, xa.length ≤ 3

set_option maxRecDepth 20000 in
set_option maxHeartbeats 4000000 in
theorem drawLitOk_any (ad : Option Addr) (nn cap : Nat) (w : World) (hb : Bt w ad nn) (hn : nn ≤ 1048576) : Calls Tryd.prog 13 #[.slice ad nn cap] w (DlPost w) := by
  have hA : Below w.heap.size w (w.alloc (.cells #[.slice none 0 0] 26)) := (Below.refl _ _).alloc (Nat.le_refl _) _
  have kA := heap_alloc_new w (.cells #[.slice none 0 0] 26)
  have hbA : Bt (w.alloc (.cells #[.slice none 0 0] 26)) ad nn := fun h0 => by
    obtain ⟨b, off, e, hc⟩ := hb h0
    exact ⟨b, off, e, fun j hj => by obtain ⟨c, k1, k2, k3⟩ := hc j hj; exact ⟨c, k1, k2, keepc hA k3⟩⟩
  go_enter Tryd.func13, Tryd.ntmps13
  go_wp2_with fail
  refine (open_any ad nn cap _ hbA hn).mono ?_
  rintro e w1 ⟨g, rfl, hg0, hr1, hb1⟩
  have k1 := (hb1.block w.heap.size (by simp)).trans kA
  have hB1 := hA.trans (hb1.mono hA.size)
  have hgs : w.heap.size < g := by simp at hg0; omega
  clear hb1 hbA hA kA hb hg0
  go_wp2_with fail
  refine (litmus_any g _ hr1).mono ?_
  rintro e w2 ⟨v, ts, vs, rfl, ho, hr2, hg2, ht12, ht3⟩
  have hgl := hr1.lt
  have HD2 : Hid (Dw w (w2.alloc (.cells #[v] 26)) g w2.heap.size v ts vs) := hide (by
    have hg3 := World.grownBy_alloc w2 (.cells #[v] 26) none
    have hA2 : Below w2.heap.size w2 (w2.alloc (.cells #[v] 26)) := (Below.refl _ _).alloc (Nat.le_refl _) _
    have hB2 : Below w.heap.size w w2 := hB1.grown hg2 hB1.size (fun k hk => by have := Option.some.inj hk; omega)
    have hl1 := lt_of_block k1
    have hl2 := hg2.size
    exact ⟨hr2.below hA2, hB2.trans (hA2.mono hB2.size), (hA2.block _ (by omega)).trans ((hg2.block _ hl1 (fun e => by have := Option.some.inj e; omega)).trans k1), heap_alloc_new _ _, (ho.below hA2).mono (by omega), ho.old (Nat.le_refl _), hgs, by omega⟩)
  obtain ⟨G, vc, rfl, _⟩ := ho.first (by omega)
  have HCG : Hid (∀ W, Dw w W g w2.heap.size (.slice (some ⟨G, 0, none⟩) ts.length vc) ts vs → W.cell? ⟨G, 0, none⟩ = some (vs 0)) := hide (fun W h => by
    obtain ⟨G', vc', e, hc⟩ := h.ot.first (by omega)
    simp only [Value.slice.injEq, Option.some.injEq, Addr.mk.injEq] at e
    obtain ⟨⟨rfl, _⟩, _⟩ := e
    exact hc)
  obtain ⟨a0, c0, ev0⟩ := (ho.own 0 (by omega)).form
  clear hr1 hr2 hg2 k1 hB1 hgs hgl ho
  obtain ⟨n, hnn⟩ : ∃ n, ts.length = n := ⟨_, rfl⟩
  have HNN := hide hnn
  rw [hnn] at HD2 HCG ht12 ⊢
  have hnp : 0 < n := ht12.1
  have hnpi : (0 : Int) < (n : Int) := by omega
  obtain ⟨W2, hE2⟩ : ∃ W2, w2.alloc (.cells #[.slice (some ⟨G, 0, none⟩) n vc] 26) = W2 := ⟨_, rfl⟩
  rw [hE2] at HD2
  clear hnn
  go_wp2_with fail
  refine (once_any g 12 _ HD2.out.rd (by decide) (by decide)).mono ?_
  rintro e w3 ⟨t, rfl, hr, hg⟩
  have HD3 := hide (HD2.out.read hr hg)
  clear hr hg HD2 hE2
  obtain ⟨cb, fb⟩ := HD3.out.cells
  have cG := HCG.out w3 HD3.out
  have HFN : Hid (∀ W ts', Dw w W g w2.heap.size (.slice (some ⟨G, 0, none⟩) n vc) ts' vs → ts'.length = n → (∀ xa ∈ ts', xa.length ≤ 3) → (W.cell? ⟨w.heap.size, 0, none⟩ = some (.slice none 0 0) ∧ ∀ i, W.frozen? ⟨w.heap.size, i, none⟩ = false) ∧ DlPost w (.returned (.agg #[.slice (some ⟨G, 0, none⟩) n vc])) (W.setCell ⟨w.heap.size, 0, none⟩ (.slice (some ⟨G, 0, none⟩) n vc))) := hide (fun W ts' h hl h3 => by
    have hf := h.fin (u := .slice (some ⟨G, 0, none⟩) n vc)
    exact ⟨hf.1, _, ts', vs, rfl, hf.2.1, hf.2.2, by omega, h3⟩)
  obtain ⟨m0, hm0⟩ : ∃ m0, (ts.getD 0 []).length = m0 := ⟨_, rfl⟩
  rw [hm0] at ev0
  have HM0 := hide hm0
  rw [ev0] at cG
  have HEV := hide ev0
  clear hm0
  by_cases hgo : t = true ∧ 0 < m0
  · obtain ⟨rfl, hm⟩ := hgo
    have hmi : (0 : Int) < (m0 : Int) := by omega
    obtain ⟨g0, eg0⟩ : ∃ g0, a0 = some ⟨g0, 0, none⟩ := by
      rcases (HD3.out.ot.own 0 (by rw [HNN.out]; exact hnp)).2 with ⟨h', hn'⟩ | ⟨g', cap', cur, h', _⟩
      · rw [HM0.out] at hn'; omega
      · rw [HEV.out] at h'
        simp only [Value.slice.injEq] at h'
        exact ⟨g', h'.1⟩
    subst eg0
    have HST : Hid (∀ W (x : Int), Dw w W g w2.heap.size (.slice (some ⟨G, 0, none⟩) n vc) ts vs → Dw w (W.setCell ⟨g0, 0, none⟩ (.int .i64 x)) g w2.heap.size (.slice (some ⟨G, 0, none⟩) n vc) (stK ts x) vs ∧ (∃ o, W.cell? ⟨g0, 0, none⟩ = some o) ∧ ∀ i, W.frozen? ⟨g0, i, none⟩ = false) := hide (fun W x h => by
      have hp : 0 < ts.length := by rw [HNN.out]; exact hnp
      have hl0 : 0 < Lf ts 0 := by unfold Lf; rw [HM0.out]; exact hm
      have ot := h.ot.setK hp hl0 HEV.out x
      have hb0 : (vs 0).ownBlock = some g0 := by rw [HEV.out]; rfl
      have hlt := World.ownsRow.lt (h.ot.own 0 hp) g0 hb0
      have hne := h.nL.2 0 hp
      rw [hb0] at hne
      have hlg := h.lg
      have hg := grown_setR W g0 0 (.int .i64 x)
      obtain ⟨_, hw, _⟩ := h.ot.parts
      have hwc := hw.wc 0 hp hl0
      have eib : ibk vs 0 = g0 := by unfold ibk; rw [hb0]; rfl
      rw [eib] at hwc
      refine ⟨⟨h.rd.grown hg (fun k hk => by have := Option.some.inj hk; omega), h.bel.setCell (by show w.heap.size ≤ g0; omega) _, (hg.block _ (lt_of_block h.res) (fun e => by have := Option.some.inj e; omega)).trans h.res, (hg.block _ (lt_of_block h.bx) (fun e => hne e.symm)).trans h.bx, ot, ⟨h.nL.1, fun c hc => h.nL.2 c (by have := (stK_len ts x).1; omega)⟩, h.lg, h.lL⟩, hwc.facts.2 0 (by omega), hwc.facts.1⟩)
    go_wp2
    refine wp_region_but (z := 8) (S := fun W => W.cell? ⟨w2.heap.size, 0, none⟩ = some (.slice (some ⟨G, 0, none⟩) n vc) ∧ W.cell? ⟨G, 0, none⟩ = some (.slice (some ⟨g0, 0, none⟩) m0 c0)) (by kernel_rfl) ⟨cb, cG⟩ (fun hHeld => ?_)
    refine wpAnyK_take (i := 0) (v := .pointer (some ⟨w2.heap.size, 0, none⟩)) rfl (by kernel_rfl) (by kernel_rfl) (by kernel_rfl) (by kernel_rfl) (fun _ _ _ h => h) (Or.inl ⟨by rfl, fun w' hSw => ?_⟩) (by assumption) ?_
    · (try dsimp only at hSw); (try obtain ⟨hS1, hS2⟩ := hSw); go_simp
    try simp only [Act.put, List.getElem_toArray, List.getElem_cons_zero, List.getElem_cons_succ, List.setIfInBounds_toArray, List.set_cons_zero, List.set_cons_succ]
    refine wpAnyK_take (i := 1) (v := .slice (some ⟨G, 0, none⟩) n vc) rfl (by kernel_rfl) (by kernel_rfl) (by kernel_rfl) (by kernel_rfl) (fun _ _ _ h => h) (Or.inl ⟨by rfl, fun w' hSw => ?_⟩) (by assumption) ?_
    · (try dsimp only at hSw); (try obtain ⟨hS1, hS2⟩ := hSw); go_simp
    try simp only [Act.put, List.getElem_toArray, List.getElem_cons_zero, List.getElem_cons_succ, List.setIfInBounds_toArray, List.set_cons_zero, List.set_cons_succ]
    refine wpAnyK_take (i := 2) (v := .pointer (some ⟨G, 0, none⟩)) rfl (by kernel_rfl) (by kernel_rfl) (by kernel_rfl) (by kernel_rfl) (fun _ _ _ h => h) (Or.inl ⟨by rfl, fun w' hSw => ?_⟩) (by assumption) ?_
    · (try dsimp only at hSw); (try obtain ⟨hS1, hS2⟩ := hSw); go_simp
    try simp only [Act.put, List.getElem_toArray, List.getElem_cons_zero, List.getElem_cons_succ, List.setIfInBounds_toArray, List.set_cons_zero, List.set_cons_succ]
    refine wpAnyK_take (i := 3) (v := .slice (some ⟨g0, 0, none⟩) m0 c0) rfl (by kernel_rfl) (by kernel_rfl) (by kernel_rfl) (by kernel_rfl) (fun _ _ _ h => h) (Or.inl ⟨by rfl, fun w' hSw => ?_⟩) (by assumption) ?_
    · (try dsimp only at hSw); (try obtain ⟨hS1, hS2⟩ := hSw); go_simp
    try simp only [Act.put, List.getElem_toArray, List.getElem_cons_zero, List.getElem_cons_succ, List.setIfInBounds_toArray, List.set_cons_zero, List.set_cons_succ]
    refine wpAnyK_take (i := 4) (v := .pointer (some ⟨g, 0, none⟩)) rfl (by kernel_rfl) (by kernel_rfl) (by kernel_rfl) (by kernel_rfl) (fun _ _ _ h => h) (Or.inl ⟨by rfl, fun w' hSw => ?_⟩) (by assumption) ?_
    · (try dsimp only at hSw); (try obtain ⟨hS1, hS2⟩ := hSw); go_simp
    try simp only [Act.put, List.getElem_toArray, List.getElem_cons_zero, List.getElem_cons_succ, List.setIfInBounds_toArray, List.set_cons_zero, List.set_cons_succ]
    refine wpAnyK_one (i := 5) (by kernel_rfl) rfl (fun K hK => ?_)
    go_simp
    refine (off_any g 1 4 _ HD3.out.rd.drewR (by decide) (by decide) (by decide)).mono ?_
    rintro e w5 ⟨x, rfl, hr, hg⟩
    have HD5 := hide (HD3.out.drew.read hr hg)
    obtain ⟨cb5, fb5⟩ := HD5.out.cells
    have cG5 := (HCG.out w5 HD5.out).trans (congrArg some HEV.out)
    clear hr hg
    refine hK.out _ _ (fun _ => ⟨cb5, cG5⟩) (fun hH => ?_)
    clear hK K hHeld
    have hHeld := hH (by decide)
    clear hH
    try simp only [Act.put, List.getElem_toArray, List.getElem_cons_zero, List.getElem_cons_succ, List.setIfInBounds_toArray, List.set_cons_zero, List.set_cons_succ]
    refine wpAnyK_one (i := 6) (by kernel_rfl) rfl (fun K hK => ?_)
    go_simp
    refine hK.out _ _ (fun _ => ⟨cb5, cG5⟩) (fun hH => ?_)
    clear hK K hHeld
    have hHeld := hH (by decide)
    clear hH
    try simp only [Act.put, List.getElem_toArray, List.getElem_cons_zero, List.getElem_cons_succ, List.setIfInBounds_toArray, List.set_cons_zero, List.set_cons_succ]
    refine wpAnyK_one (i := 7) (by kernel_rfl) rfl (fun K hK => ?_)
    go_simp
    refine hK.out _ _ (fun _ => ⟨cb5, cG5⟩) (fun hH => ?_)
    clear hK K hHeld
    have hHeld := hH (by decide)
    clear hH
    try simp only [Act.put, List.getElem_toArray, List.getElem_cons_zero, List.getElem_cons_succ, List.setIfInBounds_toArray, List.set_cons_zero, List.set_cons_succ]
    obtain ⟨hset, c7, f7⟩ := HST.out w5 x HD5.out
    obtain ⟨o7, c7⟩ := c7
    refine wpAnyK_one (i := 8) (by kernel_rfl) rfl (fun K hK => ?_)
    go_simp
    refine hK.out _ _ (fun h => absurd rfl h) (fun _ => ?_)
    clear hK K
    try simp only [Act.put, List.getElem_toArray, List.getElem_cons_zero, List.getElem_cons_succ, List.setIfInBounds_toArray, List.set_cons_zero, List.set_cons_succ]
    refine wpAnyK_done (by kernel_rfl) ?_
    have hq := stK_len ts x
    obtain ⟨⟨c9, f9⟩, hpost⟩ := HFN.out _ (stK ts x) hset (by rw [hq.1, HNN.out]) (fun xa hx => by obtain ⟨ya, hy, e⟩ := hq.2 xa hx; rw [e]; exact ht3 ya hy)
    obtain ⟨d9, e9⟩ := hset.cells
    obtain ⟨W7, hE7⟩ : ∃ W7, w5.setCell ⟨g0, 0, none⟩ (.int .i64 x) = W7 := ⟨_, rfl⟩
    rw [hE7] at hpost c9 f9 d9 e9
    have HP := hide hpost
    clear hset hpost hHeld HD5 HD3 cb5 fb5 cG5 c7 f7 HST HCG HFN hq cb fb cG
    go_wp2
    exact bodyPost_ret (v := .agg #[.slice (some ⟨G, 0, none⟩) n vc]) (by simp [results, Tryd.results13, go_sem, Act.put, c9]) rfl HP.out
  · obtain ⟨⟨c9, f9⟩, hpost⟩ := HFN.out _ ts HD3.out HNN.out ht3
    have HP := hide hpost
    clear hpost HFN HCG
    cases t with
    | false =>
      clear hgo
      go_wp2
      exact bodyPost_ret (v := .agg #[.slice (some ⟨G, 0, none⟩) n vc]) (by simp [results, Tryd.results13, go_sem, Act.put, c9]) rfl HP.out
    | true =>
      have hm : m0 = 0 := by
        rcases Nat.eq_zero_or_pos m0 with h | h
        · exact h
        · exact absurd ⟨rfl, h⟩ hgo
      subst hm
      clear hgo
      go_wp2
      exact bodyPost_ret (v := .agg #[.slice (some ⟨G, 0, none⟩) n vc]) (by simp [results, Tryd.results13, go_sem, Act.put, c9]) rfl HP.out

set_option maxHeartbeats 1000000 in
theorem drawLitText_any (ad : Option Addr) (nn cap : Nat) (w : World) (hb : Bt w ad nn) (hn : nn ≤ 1048576) : Calls Tryd.prog 5 #[.slice ad nn cap] w (DlPost w) := by
  have hA : Below w.heap.size w (w.alloc (.cells #[.slice none 0 0] 26)) := (Below.refl _ _).alloc (Nat.le_refl _) _
  have kA := heap_alloc_new w (.cells #[.slice none 0 0] 26)
  have hbA : Bt (w.alloc (.cells #[.slice none 0 0] 26)) ad nn := fun h0 => by
    obtain ⟨b, off, e, hc⟩ := hb h0
    exact ⟨b, off, e, fun j hj => by obtain ⟨c, k1, k2, k3⟩ := hc j hj; exact ⟨c, k1, k2, keepc hA k3⟩⟩
  go_enter Tryd.func5, Tryd.ntmps5
  go_wp2_with fail
  refine (drawLitOk_any ad nn cap _ hbA hn).mono ?_
  rintro e w1 ⟨v, ts, vs, rfl, ho, hb1, ht12, ht3⟩
  have k1 := (hb1.block w.heap.size (by simp)).trans kA
  have hB1 := hA.trans (hb1.mono hA.size)
  have c9 := (cell_of_row _ _ 0 _ _ _ k1).trans rfl
  have f9 := fun i => frozen_of_row _ _ i _ _ k1
  have HP : Hid (DlPost w (.returned (.agg #[v])) (w1.setCell ⟨w.heap.size, 0, none⟩ v)) := hide ⟨v, ts, vs, rfl, (ho.set (by simp)).mono (by simp), hB1.setCell (Nat.le_refl _) _, ht12, ht3⟩
  obtain ⟨va, vc, ev⟩ : ∃ va vc, v = .slice va ts.length vc := by
    obtain ⟨va, vc, e, _⟩ := ho.sa
    exact ⟨va, vc, e⟩
  subst ev
  clear hb1 hB1 k1 kA hA ho hbA hb
  go_wp2
  exact bodyPost_ret (v := .agg #[.slice va ts.length vc]) (by simp [results, Tryd.results5, go_sem, Act.put, c9]) rfl HP.out

end Go.Proofs.YtokekgfompbdiaaDoor
