/- impl.mirrorsOf, mirrors.pair (written by mkPrH.py) -/
import Derived.Test.YtplnfddleaoimaaPrG
import Derived.Test.YtplnfddleaoimaaPrC
namespace Go.Proofs.Ytplnfddleaoimaa
open Go.RowKit
set_option linter.unusedVariables false
set_option linter.unusedSimpArgs false

abbrev pt (B : Nat) : Value := .pointer (some ⟨B, 0, none⟩)
/-- two sides, each in a box, their lists in blocks of their own: the left list, the left box, the right list, the right box -/
structure Mi (w : World) (lo hi Bl Br : Nat) (L R : Value) (zl zr : List Int) (lu ru : Bool) : Prop where
  bl : w.heap[Bl]? = some (.cells #[L, .bool lu] 57 (0, 0))
  br : w.heap[Br]? = some (.cells #[R, .bool ru] 57 (0, 0))
  ol : Ow w lo L zl
  or : Ow w lo R zr
  hl : ∀ k, L.ownBlock = some k → k < Bl
  hr : ∀ k, R.ownBlock = some k → Bl < k ∧ k < Br
  h1 : lo ≤ Bl
  h2 : Bl < Br
  h3 : Br < hi
theorem Mi.below {w w' : World} {lo hi Bl Br : Nat} {L R : Value} {zl zr : List Int} {lu ru : Bool} (h : Mi w lo hi Bl Br L R zl zr lu ru) (hb : Below w.heap.size w w') : Mi w' lo hi Bl Br L R zl zr lu ru :=
  ⟨(hb.block _ (lt_of_block h.bl)).trans h.bl, (hb.block _ (lt_of_block h.br)).trans h.br, h.ol.below hb, h.or.below hb, h.hl, h.hr, h.h1, h.h2, h.h3⟩
theorem Mi.wide {w : World} {lo hi lo' hi' Bl Br : Nat} {L R : Value} {zl zr : List Int} {lu ru : Bool} (h : Mi w lo hi Bl Br L R zl zr lu ru) (h1 : lo' ≤ lo) (h2 : hi ≤ hi') : Mi w lo' hi' Bl Br L R zl zr lu ru :=
  ⟨h.bl, h.br, h.ol.mono h1, h.or.mono h1, h.hl, h.hr, Nat.le_trans h1 h.h1, h.h2, Nat.lt_of_lt_of_le h.h3 h2⟩
theorem Mi.set {w : World} {lo hi Bl Br B i : Nat} {L R u : Value} {zl zr : List Int} {lu ru : Bool} (h : Mi w lo hi Bl Br L R zl zr lu ru) (hB : B < lo) : Mi (w.setCell ⟨B, i, none⟩ u) lo hi Bl Br L R zl zr lu ru := by
  have := h.h1; have := h.h2
  refine ⟨?_, ?_, h.ol.set (fun k hk => by have := h.ol.lt k hk; omega), h.or.set (fun k hk => by have := h.or.lt k hk; omega), h.hl, h.hr, h.h1, h.h2, h.h3⟩
  · rw [heap_setCell_other _ _ _ _ (by simp; omega)]; exact h.bl
  · rw [heap_setCell_other _ _ _ _ (by simp; omega)]; exact h.br
theorem Mi.pw {w : World} {lo hi Bl Br : Nat} {L R : Value} {zl zr : List Int} {lu ru : Bool} (h : Mi w lo hi Bl Br L R zl zr lu ru) : Pw w lo hi L R zl zr :=
  ⟨h.ol, h.or, (fun k a b => by have := h.hl k a; have := h.hr k b; omega), (fun k a => by have := h.hl k a; have := h.h2; have := h.h3; omega), (fun k a => by have := h.hr k a; have := h.h3; omega)⟩
theorem side_facts {w : World} {B : Nat} {v : Value} {u : Bool} (h : w.heap[B]? = some (.cells #[v, .bool u] 57 (0, 0))) : (∀ i, w.frozen? ⟨B, i, none⟩ = false) ∧ w.cell? ⟨B, 0, none⟩ = some v ∧ w.cell? ⟨B, 1, none⟩ = some (.bool u) :=
  ⟨fun i => frozen_of_row _ _ i _ _ h, (cell_of_row _ _ _ _ _ _ h).trans rfl, (cell_of_row _ _ _ _ _ _ h).trans rfl⟩

theorem sideB_len {zs : List Int} {u : Bool} (h : sideB zs u = true) : zs.length ≤ 4 := by
  cases u
  · simp [sideB] at h; simp [h]
  · simp [sideB, inB] at h; omega
theorem pairB_len {zl zr : List Int} {lu ru : Bool} (h : pairB zl zr lu ru = true) : zl.length ≤ 4 ∧ zr.length ≤ 4 := by
  simp only [pairB, Bool.and_eq_true] at h
  exact ⟨sideB_len h.1.1, sideB_len h.1.2⟩

def MPost (w : World) (b : Bool) (zl zr : List Int) (lu ru : Bool) (e : Ending) (w' : World) : Prop := (b = true → ∃ Bl Br ad ac bd bc, e = .returned (.tuple #[.agg #[pt Bl, pt Br], .bool true]) ∧ Mi w' w.heap.size w'.heap.size Bl Br (.slice ad zl.length ac) (.slice bd zr.length bc) zl zr lu ru) ∧ (b = false → e = .returned (.tuple #[.agg #[.pointer none, .pointer none], .bool false])) ∧ Below w.heap.size w w'

set_option maxHeartbeats 8000000 in
set_option maxRecDepth 20000 in
theorem mirrorsOf_any (L R : Value) (zl zr : List Int) (lu ru : Bool) (w : World) (hl : Sl w L zl) (hr : Sl w R zr) (hn : zl.length + zr.length ≤ 1048576) :
    Calls Try.prog 31 #[.agg (pq L R lu ru)] w (MPost w (pairB zl zr lu ru) zl zr lu ru) := by
  have HV := hide (And.intro hl hr)
  obtain ⟨ld, lc, rfl, _⟩ := hl
  obtain ⟨rd, rc, rfl, _⟩ := hr
  have hok := fun W h k => implPairOk_any (.slice ld zl.length lc) (.slice rd zr.length rc) zl zr lu ru W h k hn
  have HL : Hid (pairB zl zr lu ru = true → zl.length ≤ 1000 ∧ zr.length ≤ 1000) := hide (fun h => by have := pairB_len h; omega)
  clear hn
  generalize pairB zl zr lu ru = b at hok HL ⊢
  have hA1 : Below w.heap.size w (w.alloc (.cells (pq (.slice ld zl.length lc) (.slice rd zr.length rc) lu ru) 26)) := (Below.refl _ _).alloc (Nat.le_refl _) _
  have hA2 : Below (w.alloc (.cells (pq (.slice ld zl.length lc) (.slice rd zr.length rc) lu ru) 26)).heap.size (w.alloc (.cells (pq (.slice ld zl.length lc) (.slice rd zr.length rc) lu ru) 26)) ((w.alloc (.cells (pq (.slice ld zl.length lc) (.slice rd zr.length rc) lu ru) 26)).alloc (.cells #[.pointer none, .pointer none] 50)) := (Below.refl _ _).alloc (Nat.le_refl _) _
  have p1 := (bx4 w (.slice ld zl.length lc) (.slice rd zr.length rc) (.bool lu) (.bool ru) 26).below hA2
  have p2 := heap_alloc_new (w.alloc (.cells (pq (.slice ld zl.length lc) (.slice rd zr.length rc) lu ru) 26)) (.cells #[.pointer none, .pointer none] 50)
  have hsz : ((w.alloc (.cells (pq (.slice ld zl.length lc) (.slice rd zr.length rc) lu ru) 26)).alloc (.cells #[.pointer none, .pointer none] 50)).heap.size = w.heap.size + 2 := by simp
  simp only [World.size_alloc] at p2
  have hB0 := hA1.trans (hA2.mono hA1.size)
  have HX := hide (And.intro p1 (And.intro p2 (And.intro hB0 hsz)))
  clear p1 p2 hA1 hA2 hB0 hsz
  go_enter Try.func31, Try.ntmps31
  go_wp2_with fail
  generalize hW : (World.alloc (World.alloc _ _) _) = W at HX ⊢
  obtain ⟨p1, p2, hB0, hsz⟩ := HX.out
  clear HX hW
  refine (hok W (HV.out.1.below hB0) (HV.out.2.below hB0)).mono ?_
  rintro e w1 ⟨rfl, hb1⟩
  obtain ⟨x0, x1, x2, x3⟩ := p1.below hb1
  have p2' := (hb1.block _ (by omega)).trans p2
  have hBV := hB0.trans (hb1.mono hB0.size)
  have hs1 := hb1.size
  rw [hsz] at hs1
  obtain ⟨m0, m1⟩ : w1.cell? ⟨w.heap.size + 1, 0, none⟩ = some (.pointer none) ∧ w1.cell? ⟨w.heap.size + 1, 1, none⟩ = some (.pointer none) := ⟨(cell_of_row _ _ 0 _ _ _ p2').trans rfl, (cell_of_row _ _ 1 _ _ _ p2').trans rfl⟩
  have mf : ∀ i, w1.frozen? ⟨w.heap.size + 1, i, none⟩ = false := fun i => frozen_of_row _ _ i _ _ p2'
  clear p1 p2 hb1 hB0 hok hsz
  cases b with
  | false =>
    clear HL HV
    go_wp2
    refine bodyPost_ret (v := .tuple #[.agg #[.pointer none, .pointer none], .bool false]) (by simp [results, Try.results31, go_sem, m0, m1]) rfl ⟨(fun h => nomatch h), fun _ => rfl, ?_⟩
    have hle : w.heap.size ≤ w.heap.size + 1 := by omega
    iterate 2 (refine Below.setCell ?_ hle _)
    exact hBV
  | true =>
    replace HL := hide (HL.out rfl)
    obtain ⟨s, hs⟩ : ∃ s, w.heap.size = s := ⟨_, rfl⟩
    rw [hs] at x0 x1 x2 x3 p2' m0 m1 mf hs1 ⊢
    have p1b : B4 w1 s _ _ _ _ := ⟨x0, x1, x2, x3⟩
    go_wp2
    refine wp_region_held_drew (S := fun w' => Below w1.heap.size w1 w') (by kernel_rfl) ((Below.refl _ _).drew) (fun hHeld => ?_)
    refine wpAnyH_take (i := 0) (v := .pointer (some ⟨s, 0, none⟩)) rfl (by kernel_rfl) (by kernel_rfl) (by kernel_rfl) (fun _ _ _ h => h) (Or.inl ⟨by rfl, fun w' hSw => ?_⟩) (by assumption) ?_
    · (try dsimp only at hSw); have z0 := keepc hSw x0; have z1 := keepc hSw x1; have z2 := keepc hSw x2; have z3 := keepc hSw x3; go_simp
    try simp only [Act.put, List.getElem_toArray, List.getElem_cons_zero, List.getElem_cons_succ, List.setIfInBounds_toArray, List.set_cons_zero, List.set_cons_succ]
    refine wpAnyH_take (i := 1) (v := .slice ld zl.length lc) rfl (by kernel_rfl) (by kernel_rfl) (by kernel_rfl) (fun _ _ _ h => h) (Or.inl ⟨by rfl, fun w' hSw => ?_⟩) (by assumption) ?_
    · (try dsimp only at hSw); have z0 := keepc hSw x0; have z1 := keepc hSw x1; have z2 := keepc hSw x2; have z3 := keepc hSw x3; go_simp
    try simp only [Act.put, List.getElem_toArray, List.getElem_cons_zero, List.getElem_cons_succ, List.setIfInBounds_toArray, List.set_cons_zero, List.set_cons_succ]
    refine wpAnyH_take (i := 3) (v := .pointer (some ⟨s, 2, none⟩)) rfl (by kernel_rfl) (by kernel_rfl) (by kernel_rfl) (fun _ _ _ h => h) (Or.inl ⟨by rfl, fun w' hSw => ?_⟩) (by assumption) ?_
    · (try dsimp only at hSw); have z0 := keepc hSw x0; have z1 := keepc hSw x1; have z2 := keepc hSw x2; have z3 := keepc hSw x3; go_simp
    try simp only [Act.put, List.getElem_toArray, List.getElem_cons_zero, List.getElem_cons_succ, List.setIfInBounds_toArray, List.set_cons_zero, List.set_cons_succ]
    refine wpAnyH_take (i := 4) (v := .bool lu) rfl (by kernel_rfl) (by kernel_rfl) (by kernel_rfl) (fun _ _ _ h => h) (Or.inl ⟨by rfl, fun w' hSw => ?_⟩) (by assumption) ?_
    · (try dsimp only at hSw); have z0 := keepc hSw x0; have z1 := keepc hSw x1; have z2 := keepc hSw x2; have z3 := keepc hSw x3; go_simp
    try simp only [Act.put, List.getElem_toArray, List.getElem_cons_zero, List.getElem_cons_succ, List.setIfInBounds_toArray, List.set_cons_zero, List.set_cons_succ]
    refine wpAnyH_ready (rs := [2]) (by kernel_rfl) (by simp) ?_
    refine AllReadyH.cons rfl (fun K hK => ?_) AllReadyH.nil
    go_simp
    refine (cloneI_any _ _ _ (HV.out.1.below (hBV.trans (hHeld.mono hBV.size))) HL.out.1).mono ?_
    rintro e Ul ⟨cl, rfl, hol, hbl⟩
    obtain ⟨dl, el, ql, _⟩ := hol.form
    subst ql
    have hbl2 : Below w1.heap.size w1 Ul := ((Below.refl _ _).drew).trans (hbl.mono (Nat.le_refl _))
    refine hK.out _ _ hbl2 (fun hHeld => ?_)
    clear hK K hbl
    try simp only [Act.put, List.getElem_toArray, List.getElem_cons_zero, List.getElem_cons_succ, List.setIfInBounds_toArray, List.set_cons_zero, List.set_cons_succ]
    refine wpAnyH_take (i := 5) (v := .agg #[.slice dl zl.length el, .bool lu]) rfl (by kernel_rfl) (by kernel_rfl) (by kernel_rfl) (fun _ _ _ h => h) (Or.inl ⟨by rfl, fun w' hSw => ?_⟩) (by assumption) ?_
    · (try dsimp only at hSw); skip; go_simp
    try simp only [Act.put, List.getElem_toArray, List.getElem_cons_zero, List.getElem_cons_succ, List.setIfInBounds_toArray, List.set_cons_zero, List.set_cons_succ]
    refine wpAnyH_ready (rs := [6]) (by kernel_rfl) (by simp) ?_
    refine AllReadyH.cons rfl (fun K hK => ?_) AllReadyH.nil
    go_simp
    have hAl : Below Ul.heap.size Ul (Ul.alloc (.cells #[.slice dl zl.length el, .bool lu] 57)) := (Below.refl _ _).alloc (Nat.le_refl _) _
    have hql := heap_alloc_new Ul (.cells #[.slice dl zl.length el, .bool lu] 57)
    have hzl : (Ul.alloc (.cells #[.slice dl zl.length el, .bool lu] 57)).heap.size = Ul.heap.size + 1 := by simp
    generalize (World.alloc _ _) = Yl at hAl hql hzl ⊢
    refine hK.out _ _ (hbl2.trans (hAl.mono hbl2.size)) (fun hHeld => ?_)
    clear hK K
    try simp only [Act.put, List.getElem_toArray, List.getElem_cons_zero, List.getElem_cons_succ, List.setIfInBounds_toArray, List.set_cons_zero, List.set_cons_succ]
    refine wpAnyH_take (i := 7) (v := pt Ul.heap.size) rfl (by kernel_rfl) (by kernel_rfl) (by kernel_rfl) (fun _ _ _ h => h) (Or.inl ⟨by rfl, fun w' hSw => ?_⟩) (by assumption) ?_
    · (try dsimp only at hSw); skip; go_simp
    try simp only [Act.put, List.getElem_toArray, List.getElem_cons_zero, List.getElem_cons_succ, List.setIfInBounds_toArray, List.set_cons_zero, List.set_cons_succ]
    refine wpAnyH_done (by kernel_rfl) ?_ _
    clear hHeld
    clear x0 x1 x2 x3
    have hBY := hBV.trans ((hbl2.trans (hAl.mono hbl2.size)).mono hBV.size)
    obtain ⟨x0, x1, x2, x3⟩ : B4 Yl s _ _ _ _ := ((p1b.below hbl2).below hAl)
    have p3 := (hAl.block _ (by have := hbl2.size; omega)).trans ((hbl2.block _ (by omega)).trans p2')
    have hoY := hol.below hAl
    have hol' := hol.lt
    have hbl3 := hbl2.size
    clear hBV m0 m1 mf p2' hbl2 hAl hol
    have hBV := hBY
    clear hBY
    go_wp2
    refine wp_region_held_drew (S := fun w' => Below Yl.heap.size Yl w') (by kernel_rfl) ((Below.refl _ _).drew) (fun hHeld => ?_)
    refine wpAnyH_take (i := 0) (v := .pointer (some ⟨s, 1, none⟩)) rfl (by kernel_rfl) (by kernel_rfl) (by kernel_rfl) (fun _ _ _ h => h) (Or.inl ⟨by rfl, fun w' hSw => ?_⟩) (by assumption) ?_
    · (try dsimp only at hSw); have z0 := keepc hSw x0; have z1 := keepc hSw x1; have z2 := keepc hSw x2; have z3 := keepc hSw x3; go_simp
    try simp only [Act.put, List.getElem_toArray, List.getElem_cons_zero, List.getElem_cons_succ, List.setIfInBounds_toArray, List.set_cons_zero, List.set_cons_succ]
    refine wpAnyH_take (i := 1) (v := .slice rd zr.length rc) rfl (by kernel_rfl) (by kernel_rfl) (by kernel_rfl) (fun _ _ _ h => h) (Or.inl ⟨by rfl, fun w' hSw => ?_⟩) (by assumption) ?_
    · (try dsimp only at hSw); have z0 := keepc hSw x0; have z1 := keepc hSw x1; have z2 := keepc hSw x2; have z3 := keepc hSw x3; go_simp
    try simp only [Act.put, List.getElem_toArray, List.getElem_cons_zero, List.getElem_cons_succ, List.setIfInBounds_toArray, List.set_cons_zero, List.set_cons_succ]
    refine wpAnyH_take (i := 3) (v := .pointer (some ⟨s, 3, none⟩)) rfl (by kernel_rfl) (by kernel_rfl) (by kernel_rfl) (fun _ _ _ h => h) (Or.inl ⟨by rfl, fun w' hSw => ?_⟩) (by assumption) ?_
    · (try dsimp only at hSw); have z0 := keepc hSw x0; have z1 := keepc hSw x1; have z2 := keepc hSw x2; have z3 := keepc hSw x3; go_simp
    try simp only [Act.put, List.getElem_toArray, List.getElem_cons_zero, List.getElem_cons_succ, List.setIfInBounds_toArray, List.set_cons_zero, List.set_cons_succ]
    refine wpAnyH_take (i := 4) (v := .bool ru) rfl (by kernel_rfl) (by kernel_rfl) (by kernel_rfl) (fun _ _ _ h => h) (Or.inl ⟨by rfl, fun w' hSw => ?_⟩) (by assumption) ?_
    · (try dsimp only at hSw); have z0 := keepc hSw x0; have z1 := keepc hSw x1; have z2 := keepc hSw x2; have z3 := keepc hSw x3; go_simp
    try simp only [Act.put, List.getElem_toArray, List.getElem_cons_zero, List.getElem_cons_succ, List.setIfInBounds_toArray, List.set_cons_zero, List.set_cons_succ]
    refine wpAnyH_ready (rs := [2]) (by kernel_rfl) (by simp) ?_
    refine AllReadyH.cons rfl (fun K hK => ?_) AllReadyH.nil
    go_simp
    refine (cloneI_any _ _ _ (HV.out.2.below (hBV.trans (hHeld.mono hBV.size))) HL.out.2).mono ?_
    rintro e Ur ⟨cr, rfl, hor, hbr⟩
    obtain ⟨dr, er, qr, _⟩ := hor.form
    subst qr
    have hbr2 : Below Yl.heap.size Yl Ur := ((Below.refl _ _).drew).trans (hbr.mono (Nat.le_refl _))
    refine hK.out _ _ hbr2 (fun hHeld => ?_)
    clear hK K hbr
    try simp only [Act.put, List.getElem_toArray, List.getElem_cons_zero, List.getElem_cons_succ, List.setIfInBounds_toArray, List.set_cons_zero, List.set_cons_succ]
    refine wpAnyH_take (i := 5) (v := .agg #[.slice dr zr.length er, .bool ru]) rfl (by kernel_rfl) (by kernel_rfl) (by kernel_rfl) (fun _ _ _ h => h) (Or.inl ⟨by rfl, fun w' hSw => ?_⟩) (by assumption) ?_
    · (try dsimp only at hSw); skip; go_simp
    try simp only [Act.put, List.getElem_toArray, List.getElem_cons_zero, List.getElem_cons_succ, List.setIfInBounds_toArray, List.set_cons_zero, List.set_cons_succ]
    refine wpAnyH_ready (rs := [6]) (by kernel_rfl) (by simp) ?_
    refine AllReadyH.cons rfl (fun K hK => ?_) AllReadyH.nil
    go_simp
    have hAr : Below Ur.heap.size Ur (Ur.alloc (.cells #[.slice dr zr.length er, .bool ru] 57)) := (Below.refl _ _).alloc (Nat.le_refl _) _
    have hqr := heap_alloc_new Ur (.cells #[.slice dr zr.length er, .bool ru] 57)
    have hzr : (Ur.alloc (.cells #[.slice dr zr.length er, .bool ru] 57)).heap.size = Ur.heap.size + 1 := by simp
    generalize (World.alloc _ _) = Yr at hAr hqr hzr ⊢
    refine hK.out _ _ (hbr2.trans (hAr.mono hbr2.size)) (fun hHeld => ?_)
    clear hK K
    try simp only [Act.put, List.getElem_toArray, List.getElem_cons_zero, List.getElem_cons_succ, List.setIfInBounds_toArray, List.set_cons_zero, List.set_cons_succ]
    refine wpAnyH_take (i := 7) (v := pt Ur.heap.size) rfl (by kernel_rfl) (by kernel_rfl) (by kernel_rfl) (fun _ _ _ h => h) (Or.inl ⟨by rfl, fun w' hSw => ?_⟩) (by assumption) ?_
    · (try dsimp only at hSw); skip; go_simp
    try simp only [Act.put, List.getElem_toArray, List.getElem_cons_zero, List.getElem_cons_succ, List.setIfInBounds_toArray, List.set_cons_zero, List.set_cons_succ]
    refine wpAnyH_done (by kernel_rfl) ?_ _
    clear hHeld
    have hBZ := hBV.trans ((hbr2.trans (hAr.mono hbr2.size)).mono hBV.size)
    have p4 := (hAr.block _ (by have := hbr2.size; omega)).trans ((hbr2.block _ (by omega)).trans p3)
    have hbr3 := hbr2.size
    have hql2 := (hAr.block _ (by omega)).trans ((hbr2.block _ (by omega)).trans hql)
    have hor' := hor.lt
    have hM : Mi Yr (s + 2) Yr.heap.size Ul.heap.size Ur.heap.size (.slice dl zl.length el) (.slice dr zr.length er) zl zr lu ru := by
      refine ⟨hql2, hqr, ((hoY.below hbr2).below hAr).mono hs1, (hor.below hAr).mono (by show s + 2 ≤ Yl.heap.size; omega), ?_, ?_, by omega, by omega, by omega⟩
      · intro k hk; exact (hol' k hk).2
      · intro k hk
        have h1 := (hor' k hk).1
        have h2 := (hor' k hk).2
        have h3 : Yl.heap.size ≤ k := h1
        omega
    obtain ⟨m0, m1⟩ : Yr.cell? ⟨s + 1, 0, none⟩ = some (.pointer none) ∧ Yr.cell? ⟨s + 1, 1, none⟩ = some (.pointer none) := ⟨(cell_of_row _ _ 0 _ _ _ p4).trans rfl, (cell_of_row _ _ 1 _ _ _ p4).trans rfl⟩
    have mf : ∀ i, Yr.frozen? ⟨s + 1, i, none⟩ = false := fun i => frozen_of_row _ _ i _ _ p4
    have HM := hide (And.intro hM hBZ)
    clear x0 x1 x2 x3 p1b p3 p4 hM hBZ hBV hbr2 hAr hql hql2 hqr hor hoY hol' hor' HV HL
    generalize Ul.heap.size = Bl at HM ⊢
    generalize Ur.heap.size = Br at HM ⊢
    go_wp2
    refine bodyPost_ret (v := .tuple #[.agg #[pt Bl, pt Br], .bool true]) (by simp [results, Try.results31, go_sem, m0, m1]) rfl ⟨fun _ => ⟨Bl, Br, dl, el, dr, er, rfl, ?_⟩, (fun h => nomatch h), ?_⟩
    · simp only [World.size_setCell]
      refine Mi.wide (lo := s + 2) (hi := Yr.heap.size) ?_ (by omega) (Nat.le_refl _)
      iterate 2 (refine Mi.set ?_ (by omega))
      exact HM.out.1
    · have hle : w.heap.size ≤ s + 1 := by omega
      iterate 2 (refine Below.setCell ?_ hle _)
      exact HM.out.2

set_option maxHeartbeats 8000000 in
set_option maxRecDepth 20000 in
theorem pair_any (lo hi Bl Br : Nat) (L R : Value) (zl zr : List Int) (lu ru : Bool) (w : World) (h : Mi w lo hi Bl Br L R zl zr lu ru) :
    Calls Try.prog 34 #[.agg #[pt Bl, pt Br]] w fun e w' => e = .returned (.agg (pq L R lu ru)) ∧ Below w.heap.size w w' := by
  obtain ⟨la, lc, hL, _⟩ := h.ol.form
  obtain ⟨ra, rc, hR, _⟩ := h.or.form
  obtain ⟨n, hn⟩ : ∃ n, zl.length = n := ⟨_, rfl⟩
  obtain ⟨m, hm⟩ : ∃ m, zr.length = m := ⟨_, rfl⟩
  rw [hn] at hL
  rw [hm] at hR
  subst hL hR
  have hA1 : Below w.heap.size w (w.alloc (.cells #[pt Bl, pt Br] 50)) := (Below.refl _ _).alloc (Nat.le_refl _) _
  have hA2 : Below (w.alloc (.cells #[pt Bl, pt Br] 50)).heap.size (w.alloc (.cells #[pt Bl, pt Br] 50)) ((w.alloc (.cells #[pt Bl, pt Br] 50)).alloc (.cells (pq nilS nilS false false) 26)) := (Below.refl _ _).alloc (Nat.le_refl _) _
  have p1 := (hA2.block _ (by simp)).trans (heap_alloc_new w (.cells #[pt Bl, pt Br] 50))
  have p2 := heap_alloc_new (w.alloc (.cells #[pt Bl, pt Br] 50)) (.cells (pq nilS nilS false false) 26)
  simp only [World.size_alloc] at p2
  have hB0 := hA1.trans (hA2.mono hA1.size)
  have hM := h.below hB0
  have hlt1 := lt_of_block h.bl
  have hlt2 := lt_of_block h.br
  have HX := hide (And.intro p1 (And.intro p2 (And.intro hB0 hM)))
  clear p1 p2 hA1 hA2 hB0 hM h hn hm
  go_enter Try.func34, Try.ntmps34
  go_wp2
  generalize hW : (World.alloc (World.alloc _ _) _) = W at HX ⊢
  obtain ⟨p1, p2, hB0, hM⟩ := HX.out
  clear HX hW
  obtain ⟨s, hs⟩ : ∃ s, w.heap.size = s := ⟨_, rfl⟩
  rw [hs] at p1 p2 hlt1 hlt2 ⊢
  obtain ⟨m0, m1⟩ : W.cell? ⟨s, 0, none⟩ = some (pt Bl) ∧ W.cell? ⟨s, 1, none⟩ = some (pt Br) := ⟨(cell_of_row _ _ 0 _ _ _ p1).trans rfl, (cell_of_row _ _ 1 _ _ _ p1).trans rfl⟩
  refine wp_region_held_drew (S := fun w' => w'.heap[Bl]? = some (.cells #[(.slice la n lc), .bool lu] 57 (0, 0)) ∧ w'.heap[Br]? = some (.cells #[(.slice ra m rc), .bool ru] 57 (0, 0)) ∧ w'.cell? ⟨s, 0, none⟩ = some (pt Bl) ∧ w'.cell? ⟨s, 1, none⟩ = some (pt Br)) (by kernel_rfl) ⟨hM.bl, hM.br, m0, m1⟩ (fun hHeld => ?_)
  refine wpAnyH_take (i := 0) (v := .pointer (some ⟨s, 0, none⟩)) rfl (by kernel_rfl) (by kernel_rfl) (by kernel_rfl) (fun _ _ _ h => h) (Or.inl ⟨by rfl, fun w' hSw => ?_⟩) (by assumption) ?_
  · (try dsimp only at hSw); obtain ⟨_, z0, z1⟩ := side_facts (hSw.1); obtain ⟨_, z2, z3⟩ := side_facts (hSw.2.1); obtain ⟨z4, z5⟩ := hSw.2.2; go_simp
  try simp only [Act.put, List.getElem_toArray, List.getElem_cons_zero, List.getElem_cons_succ, List.setIfInBounds_toArray, List.set_cons_zero, List.set_cons_succ]
  refine wpAnyH_take (i := 1) (v := pt Bl) rfl (by kernel_rfl) (by kernel_rfl) (by kernel_rfl) (fun _ _ _ h => h) (Or.inl ⟨by rfl, fun w' hSw => ?_⟩) (by assumption) ?_
  · (try dsimp only at hSw); obtain ⟨_, z0, z1⟩ := side_facts (hSw.1); obtain ⟨_, z2, z3⟩ := side_facts (hSw.2.1); obtain ⟨z4, z5⟩ := hSw.2.2; go_simp
  try simp only [Act.put, List.getElem_toArray, List.getElem_cons_zero, List.getElem_cons_succ, List.setIfInBounds_toArray, List.set_cons_zero, List.set_cons_succ]
  refine wpAnyH_take (i := 2) (v := pt Bl) rfl (by kernel_rfl) (by kernel_rfl) (by kernel_rfl) (fun _ _ _ h => h) (Or.inl ⟨by rfl, fun w' hSw => ?_⟩) (by assumption) ?_
  · (try dsimp only at hSw); obtain ⟨_, z0, z1⟩ := side_facts (hSw.1); obtain ⟨_, z2, z3⟩ := side_facts (hSw.2.1); obtain ⟨z4, z5⟩ := hSw.2.2; go_simp
  try simp only [Act.put, List.getElem_toArray, List.getElem_cons_zero, List.getElem_cons_succ, List.setIfInBounds_toArray, List.set_cons_zero, List.set_cons_succ]
  refine wpAnyH_take (i := 3) (v := .pointer (some ⟨Bl, 0, none⟩)) rfl (by kernel_rfl) (by kernel_rfl) (by kernel_rfl) (fun _ _ _ h => h) (Or.inl ⟨by rfl, fun w' hSw => ?_⟩) (by assumption) ?_
  · (try dsimp only at hSw); obtain ⟨_, z0, z1⟩ := side_facts (hSw.1); obtain ⟨_, z2, z3⟩ := side_facts (hSw.2.1); obtain ⟨z4, z5⟩ := hSw.2.2; go_simp
  try simp only [Act.put, List.getElem_toArray, List.getElem_cons_zero, List.getElem_cons_succ, List.setIfInBounds_toArray, List.set_cons_zero, List.set_cons_succ]
  refine wpAnyH_take (i := 4) (v := (.slice la n lc)) rfl (by kernel_rfl) (by kernel_rfl) (by kernel_rfl) (fun _ _ _ h => h) (Or.inl ⟨by rfl, fun w' hSw => ?_⟩) (by assumption) ?_
  · (try dsimp only at hSw); obtain ⟨_, z0, z1⟩ := side_facts (hSw.1); obtain ⟨_, z2, z3⟩ := side_facts (hSw.2.1); obtain ⟨z4, z5⟩ := hSw.2.2; go_simp
  try simp only [Act.put, List.getElem_toArray, List.getElem_cons_zero, List.getElem_cons_succ, List.setIfInBounds_toArray, List.set_cons_zero, List.set_cons_succ]
  refine wpAnyH_take (i := 5) (v := .pointer (some ⟨s, 1, none⟩)) rfl (by kernel_rfl) (by kernel_rfl) (by kernel_rfl) (fun _ _ _ h => h) (Or.inl ⟨by rfl, fun w' hSw => ?_⟩) (by assumption) ?_
  · (try dsimp only at hSw); obtain ⟨_, z0, z1⟩ := side_facts (hSw.1); obtain ⟨_, z2, z3⟩ := side_facts (hSw.2.1); obtain ⟨z4, z5⟩ := hSw.2.2; go_simp
  try simp only [Act.put, List.getElem_toArray, List.getElem_cons_zero, List.getElem_cons_succ, List.setIfInBounds_toArray, List.set_cons_zero, List.set_cons_succ]
  refine wpAnyH_take (i := 6) (v := pt Br) rfl (by kernel_rfl) (by kernel_rfl) (by kernel_rfl) (fun _ _ _ h => h) (Or.inl ⟨by rfl, fun w' hSw => ?_⟩) (by assumption) ?_
  · (try dsimp only at hSw); obtain ⟨_, z0, z1⟩ := side_facts (hSw.1); obtain ⟨_, z2, z3⟩ := side_facts (hSw.2.1); obtain ⟨z4, z5⟩ := hSw.2.2; go_simp
  try simp only [Act.put, List.getElem_toArray, List.getElem_cons_zero, List.getElem_cons_succ, List.setIfInBounds_toArray, List.set_cons_zero, List.set_cons_succ]
  refine wpAnyH_take (i := 7) (v := pt Br) rfl (by kernel_rfl) (by kernel_rfl) (by kernel_rfl) (fun _ _ _ h => h) (Or.inl ⟨by rfl, fun w' hSw => ?_⟩) (by assumption) ?_
  · (try dsimp only at hSw); obtain ⟨_, z0, z1⟩ := side_facts (hSw.1); obtain ⟨_, z2, z3⟩ := side_facts (hSw.2.1); obtain ⟨z4, z5⟩ := hSw.2.2; go_simp
  try simp only [Act.put, List.getElem_toArray, List.getElem_cons_zero, List.getElem_cons_succ, List.setIfInBounds_toArray, List.set_cons_zero, List.set_cons_succ]
  refine wpAnyH_take (i := 8) (v := .pointer (some ⟨Br, 0, none⟩)) rfl (by kernel_rfl) (by kernel_rfl) (by kernel_rfl) (fun _ _ _ h => h) (Or.inl ⟨by rfl, fun w' hSw => ?_⟩) (by assumption) ?_
  · (try dsimp only at hSw); obtain ⟨_, z0, z1⟩ := side_facts (hSw.1); obtain ⟨_, z2, z3⟩ := side_facts (hSw.2.1); obtain ⟨z4, z5⟩ := hSw.2.2; go_simp
  try simp only [Act.put, List.getElem_toArray, List.getElem_cons_zero, List.getElem_cons_succ, List.setIfInBounds_toArray, List.set_cons_zero, List.set_cons_succ]
  refine wpAnyH_take (i := 9) (v := (.slice ra m rc)) rfl (by kernel_rfl) (by kernel_rfl) (by kernel_rfl) (fun _ _ _ h => h) (Or.inl ⟨by rfl, fun w' hSw => ?_⟩) (by assumption) ?_
  · (try dsimp only at hSw); obtain ⟨_, z0, z1⟩ := side_facts (hSw.1); obtain ⟨_, z2, z3⟩ := side_facts (hSw.2.1); obtain ⟨z4, z5⟩ := hSw.2.2; go_simp
  try simp only [Act.put, List.getElem_toArray, List.getElem_cons_zero, List.getElem_cons_succ, List.setIfInBounds_toArray, List.set_cons_zero, List.set_cons_succ]
  refine wpAnyH_take (i := 10) (v := .pointer (some ⟨s, 0, none⟩)) rfl (by kernel_rfl) (by kernel_rfl) (by kernel_rfl) (fun _ _ _ h => h) (Or.inl ⟨by rfl, fun w' hSw => ?_⟩) (by assumption) ?_
  · (try dsimp only at hSw); obtain ⟨_, z0, z1⟩ := side_facts (hSw.1); obtain ⟨_, z2, z3⟩ := side_facts (hSw.2.1); obtain ⟨z4, z5⟩ := hSw.2.2; go_simp
  try simp only [Act.put, List.getElem_toArray, List.getElem_cons_zero, List.getElem_cons_succ, List.setIfInBounds_toArray, List.set_cons_zero, List.set_cons_succ]
  refine wpAnyH_take (i := 11) (v := pt Bl) rfl (by kernel_rfl) (by kernel_rfl) (by kernel_rfl) (fun _ _ _ h => h) (Or.inl ⟨by rfl, fun w' hSw => ?_⟩) (by assumption) ?_
  · (try dsimp only at hSw); obtain ⟨_, z0, z1⟩ := side_facts (hSw.1); obtain ⟨_, z2, z3⟩ := side_facts (hSw.2.1); obtain ⟨z4, z5⟩ := hSw.2.2; go_simp
  try simp only [Act.put, List.getElem_toArray, List.getElem_cons_zero, List.getElem_cons_succ, List.setIfInBounds_toArray, List.set_cons_zero, List.set_cons_succ]
  refine wpAnyH_take (i := 12) (v := pt Bl) rfl (by kernel_rfl) (by kernel_rfl) (by kernel_rfl) (fun _ _ _ h => h) (Or.inl ⟨by rfl, fun w' hSw => ?_⟩) (by assumption) ?_
  · (try dsimp only at hSw); obtain ⟨_, z0, z1⟩ := side_facts (hSw.1); obtain ⟨_, z2, z3⟩ := side_facts (hSw.2.1); obtain ⟨z4, z5⟩ := hSw.2.2; go_simp
  try simp only [Act.put, List.getElem_toArray, List.getElem_cons_zero, List.getElem_cons_succ, List.setIfInBounds_toArray, List.set_cons_zero, List.set_cons_succ]
  refine wpAnyH_take (i := 13) (v := .pointer (some ⟨Bl, 1, none⟩)) rfl (by kernel_rfl) (by kernel_rfl) (by kernel_rfl) (fun _ _ _ h => h) (Or.inl ⟨by rfl, fun w' hSw => ?_⟩) (by assumption) ?_
  · (try dsimp only at hSw); obtain ⟨_, z0, z1⟩ := side_facts (hSw.1); obtain ⟨_, z2, z3⟩ := side_facts (hSw.2.1); obtain ⟨z4, z5⟩ := hSw.2.2; go_simp
  try simp only [Act.put, List.getElem_toArray, List.getElem_cons_zero, List.getElem_cons_succ, List.setIfInBounds_toArray, List.set_cons_zero, List.set_cons_succ]
  refine wpAnyH_take (i := 14) (v := .bool lu) rfl (by kernel_rfl) (by kernel_rfl) (by kernel_rfl) (fun _ _ _ h => h) (Or.inl ⟨by rfl, fun w' hSw => ?_⟩) (by assumption) ?_
  · (try dsimp only at hSw); obtain ⟨_, z0, z1⟩ := side_facts (hSw.1); obtain ⟨_, z2, z3⟩ := side_facts (hSw.2.1); obtain ⟨z4, z5⟩ := hSw.2.2; go_simp
  try simp only [Act.put, List.getElem_toArray, List.getElem_cons_zero, List.getElem_cons_succ, List.setIfInBounds_toArray, List.set_cons_zero, List.set_cons_succ]
  refine wpAnyH_take (i := 15) (v := .pointer (some ⟨s, 1, none⟩)) rfl (by kernel_rfl) (by kernel_rfl) (by kernel_rfl) (fun _ _ _ h => h) (Or.inl ⟨by rfl, fun w' hSw => ?_⟩) (by assumption) ?_
  · (try dsimp only at hSw); obtain ⟨_, z0, z1⟩ := side_facts (hSw.1); obtain ⟨_, z2, z3⟩ := side_facts (hSw.2.1); obtain ⟨z4, z5⟩ := hSw.2.2; go_simp
  try simp only [Act.put, List.getElem_toArray, List.getElem_cons_zero, List.getElem_cons_succ, List.setIfInBounds_toArray, List.set_cons_zero, List.set_cons_succ]
  refine wpAnyH_take (i := 16) (v := pt Br) rfl (by kernel_rfl) (by kernel_rfl) (by kernel_rfl) (fun _ _ _ h => h) (Or.inl ⟨by rfl, fun w' hSw => ?_⟩) (by assumption) ?_
  · (try dsimp only at hSw); obtain ⟨_, z0, z1⟩ := side_facts (hSw.1); obtain ⟨_, z2, z3⟩ := side_facts (hSw.2.1); obtain ⟨z4, z5⟩ := hSw.2.2; go_simp
  try simp only [Act.put, List.getElem_toArray, List.getElem_cons_zero, List.getElem_cons_succ, List.setIfInBounds_toArray, List.set_cons_zero, List.set_cons_succ]
  refine wpAnyH_take (i := 17) (v := pt Br) rfl (by kernel_rfl) (by kernel_rfl) (by kernel_rfl) (fun _ _ _ h => h) (Or.inl ⟨by rfl, fun w' hSw => ?_⟩) (by assumption) ?_
  · (try dsimp only at hSw); obtain ⟨_, z0, z1⟩ := side_facts (hSw.1); obtain ⟨_, z2, z3⟩ := side_facts (hSw.2.1); obtain ⟨z4, z5⟩ := hSw.2.2; go_simp
  try simp only [Act.put, List.getElem_toArray, List.getElem_cons_zero, List.getElem_cons_succ, List.setIfInBounds_toArray, List.set_cons_zero, List.set_cons_succ]
  refine wpAnyH_take (i := 18) (v := .pointer (some ⟨Br, 1, none⟩)) rfl (by kernel_rfl) (by kernel_rfl) (by kernel_rfl) (fun _ _ _ h => h) (Or.inl ⟨by rfl, fun w' hSw => ?_⟩) (by assumption) ?_
  · (try dsimp only at hSw); obtain ⟨_, z0, z1⟩ := side_facts (hSw.1); obtain ⟨_, z2, z3⟩ := side_facts (hSw.2.1); obtain ⟨z4, z5⟩ := hSw.2.2; go_simp
  try simp only [Act.put, List.getElem_toArray, List.getElem_cons_zero, List.getElem_cons_succ, List.setIfInBounds_toArray, List.set_cons_zero, List.set_cons_succ]
  refine wpAnyH_take (i := 19) (v := .bool ru) rfl (by kernel_rfl) (by kernel_rfl) (by kernel_rfl) (fun _ _ _ h => h) (Or.inl ⟨by rfl, fun w' hSw => ?_⟩) (by assumption) ?_
  · (try dsimp only at hSw); obtain ⟨_, z0, z1⟩ := side_facts (hSw.1); obtain ⟨_, z2, z3⟩ := side_facts (hSw.2.1); obtain ⟨z4, z5⟩ := hSw.2.2; go_simp
  try simp only [Act.put, List.getElem_toArray, List.getElem_cons_zero, List.getElem_cons_succ, List.setIfInBounds_toArray, List.set_cons_zero, List.set_cons_succ]
  refine wpAnyH_take (i := 20) (v := .agg (pq (.slice la n lc) (.slice ra m rc) lu ru)) rfl (by kernel_rfl) (by kernel_rfl) (by kernel_rfl) (fun _ _ _ h => h) (Or.inl ⟨by rfl, fun w' hSw => ?_⟩) (by assumption) ?_
  · (try dsimp only at hSw); obtain ⟨_, z0, z1⟩ := side_facts (hSw.1); obtain ⟨_, z2, z3⟩ := side_facts (hSw.2.1); obtain ⟨z4, z5⟩ := hSw.2.2; go_simp
  try simp only [Act.put, List.getElem_toArray, List.getElem_cons_zero, List.getElem_cons_succ, List.setIfInBounds_toArray, List.set_cons_zero, List.set_cons_succ]
  refine wpAnyH_ready (rs := [21]) (by kernel_rfl) (by simp) ?_
  refine AllReadyH.cons rfl (fun K hK => ?_) AllReadyH.nil
  have hbd : Below W.heap.size W W.drew := (Below.refl _ _).drew
  have p2d : W.drew.heap[s + 1]? = some (.cells (pq nilS nilS false false) 26 (0, 0)) := p2
  obtain ⟨V0, hV0⟩ : ∃ V, W.drew = V := ⟨_, rfl⟩
  rw [hV0] at hbd p2d ⊢
  obtain ⟨fr, r0, r1, r2, r3⟩ := row4_facts p2d
  clear hV0
  go_simp
  have hx : ((((V0.setCell ⟨s + 1, 0, none⟩ (.slice la n lc)).setCell ⟨s + 1, 1, none⟩ (.slice ra m rc)).setCell ⟨s + 1, 2, none⟩ (.bool lu)).setCell ⟨s + 1, 3, none⟩ (.bool ru)).heap[s + 1]? = some (.cells #[(.slice la n lc), (.slice ra m rc), .bool lu, .bool ru] 26 (0, 0)) := by
    rw [heap_setCell_same _ _ 3 _ _ _ (heap_setCell_same _ _ 2 _ _ _ (heap_setCell_same _ _ 1 _ _ _ (heap_setCell_same _ _ 0 _ _ _ p2d)))]; rfl
  have hbs : Below (s + 1) W ((((V0.setCell ⟨s + 1, 0, none⟩ (.slice la n lc)).setCell ⟨s + 1, 1, none⟩ (.slice ra m rc)).setCell ⟨s + 1, 2, none⟩ (.bool lu)).setCell ⟨s + 1, 3, none⟩ (.bool ru)) := by
    have hle : s + 1 ≤ s + 1 := Nat.le_refl _
    iterate 4 (refine Below.setCell ?_ hle _)
    exact hbd.mono (by have := lt_of_block p2; omega)
  refine hK.out _ _ ⟨(hbs.block _ (by omega)).trans hM.bl, (hbs.block _ (by omega)).trans hM.br, belowc hbs (Nat.lt_succ_self s) m0, belowc hbs (Nat.lt_succ_self s) m1⟩ (fun hHeld => ?_)
  clear hK K hHeld fr r0 r1 r2 r3
  try simp only [Act.put, List.getElem_toArray, List.getElem_cons_zero, List.getElem_cons_succ, List.setIfInBounds_toArray, List.set_cons_zero, List.set_cons_succ]
  refine wpAnyH_done (by kernel_rfl) ?_ _
  obtain ⟨q0, q1, q2, q3⟩ := (row4_facts hx).2
  have HF := hide (hB0.trans (hbs.mono (by omega)))
  clear hx hbs hM m0 m1 p1 p2 p2d hbd hB0
  generalize (World.setCell _ _ _) = Y at q0 q1 q2 q3 HF ⊢
  go_wp2
  exact bodyPost_ret (v := .agg (pq (.slice la n lc) (.slice ra m rc) lu ru)) (by simp [results, Try.results34, go_sem, q0, q1, q2, q3]) rfl ⟨rfl, HF.out⟩

end Go.Proofs.Ytplnfddleaoimaa
