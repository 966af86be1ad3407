/- DrawPairMend, DrawPairFail, DrawPairWrite (written by mkPdC.py) -/
import Derived.Test.YtplnfddleaoimaaPdB
namespace Go.Proofs.Ytplnfddleaoimaa
open Go.RowKit
set_option linter.unusedVariables false
set_option linter.unusedSimpArgs false

theorem Bt.below {w w' : World} {ad : Option Addr} {n : Nat} (h : Bt w ad n) (hb : Below w.heap.size w w') : Bt w' ad n := by
  intro h0
  obtain ⟨b, off, rfl, hc⟩ := h h0
  refine ⟨b, off, rfl, fun j hj => ?_⟩
  obtain ⟨c, h1, h2, h3⟩ := hc j hj
  exact ⟨c, h1, h2, Below.keep hb _ _ h3⟩
/-- a pair in a variable b, the answer's variable the world's first new block, a reader between -/
structure Dq (w V : World) (g b : Nat) (L R : Value) (zl zr : List Int) (lu ru : Bool) : Prop where
  res : V.heap[w.heap.size]? = some (.cells (pq nilS nilS false false) 26 (0, 0))
  box : V.heap[b]? = some (.cells (pq L R lu ru) 26 (0, 0))
  pw : Pw V (g + 1) V.heap.size L R zl zr
  rd : Rdr V g
  bel : Below w.heap.size w V
  lo : w.heap.size < g ∧ g < b
  len : zl.length ≤ 4 ∧ zr.length ≤ 4
theorem Dq.below {w V V' : World} {g b : Nat} {L R : Value} {zl zr : List Int} {lu ru : Bool} (h : Dq w V g b L R zl zr lu ru) (hb : Below V.heap.size V V') : Dq w V' g b L R zl zr lu ru :=
  ⟨(hb.block _ (lt_of_block h.res)).trans h.res, (hb.block _ (lt_of_block h.box)).trans h.box, (h.pw.below hb).wide (Nat.le_refl _) hb.size, h.rd.below hb, h.bel.trans (hb.mono h.bel.size), h.lo, h.len⟩
theorem Dq.read {w V V' : World} {g b : Nat} {L R : Value} {zl zr : List Int} {lu ru : Bool} (h : Dq w V g b L R zl zr lu ru) (hr : Rdr V' g) (hg : V.grownBy V' (some g)) : Dq w V' g b L R zl zr lu ru := by
  have hlo := h.lo
  exact ⟨(hg.block _ (lt_of_block h.res) (by simp; omega)).trans h.res, (hg.block _ (lt_of_block h.box) (by simp; omega)).trans h.box, (h.pw.grown hg (by omega)).wide (Nat.le_refl _) hg.size, hr, below_read h.bel hg (by omega) h.bel.size, h.lo, h.len⟩
theorem Dq.fin {w V : World} {g b : Nat} {L R : Value} {zl zr : List Int} {lu ru : Bool} (h : Dq w V g b L R zl zr lu ru) :
    B4 ((((V.setCell ⟨w.heap.size, 0, none⟩ L).setCell ⟨w.heap.size, 1, none⟩ R).setCell ⟨w.heap.size, 2, none⟩ (.bool lu)).setCell ⟨w.heap.size, 3, none⟩ (.bool ru)) w.heap.size L R (.bool lu) (.bool ru) ∧ Pw ((((V.setCell ⟨w.heap.size, 0, none⟩ L).setCell ⟨w.heap.size, 1, none⟩ R).setCell ⟨w.heap.size, 2, none⟩ (.bool lu)).setCell ⟨w.heap.size, 3, none⟩ (.bool ru)) w.heap.size ((((V.setCell ⟨w.heap.size, 0, none⟩ L).setCell ⟨w.heap.size, 1, none⟩ R).setCell ⟨w.heap.size, 2, none⟩ (.bool lu)).setCell ⟨w.heap.size, 3, none⟩ (.bool ru)).heap.size L R zl zr ∧ Below w.heap.size w ((((V.setCell ⟨w.heap.size, 0, none⟩ L).setCell ⟨w.heap.size, 1, none⟩ R).setCell ⟨w.heap.size, 2, none⟩ (.bool lu)).setCell ⟨w.heap.size, 3, none⟩ (.bool ru)) ∧ B4 ((((V.setCell ⟨w.heap.size, 0, none⟩ L).setCell ⟨w.heap.size, 1, none⟩ R).setCell ⟨w.heap.size, 2, none⟩ (.bool lu)).setCell ⟨w.heap.size, 3, none⟩ (.bool ru)) b L R (.bool lu) (.bool ru) := by
  have hlo := h.lo
  have hle : w.heap.size ≤ w.heap.size := Nat.le_refl _
  refine ⟨?_, ?_, ?_, ?_⟩
  · have hx : ((((V.setCell ⟨w.heap.size, 0, none⟩ L).setCell ⟨w.heap.size, 1, none⟩ R).setCell ⟨w.heap.size, 2, none⟩ (.bool lu)).setCell ⟨w.heap.size, 3, none⟩ (.bool ru)).heap[w.heap.size]? = some (.cells #[L, R, .bool lu, .bool ru] 26 (0, 0)) := by
      rw [heap_setCell_same _ _ 3 _ _ _ (heap_setCell_same _ _ 2 _ _ _ (heap_setCell_same _ _ 1 _ _ _ (heap_setCell_same _ _ 0 _ _ _ h.res)))]; rfl
    exact (row4_facts hx).2
  · simp only [World.size_setCell]
    refine Pw.wide (lo := g + 1) (hi := V.heap.size) ?_ (by omega) (Nat.le_refl _)
    iterate 4 (refine Pw.set ?_ (by omega))
    exact h.pw
  · iterate 4 (refine Below.setCell ?_ hle _)
    exact h.bel
  · have hx : ((((V.setCell ⟨w.heap.size, 0, none⟩ L).setCell ⟨w.heap.size, 1, none⟩ R).setCell ⟨w.heap.size, 2, none⟩ (.bool lu)).setCell ⟨w.heap.size, 3, none⟩ (.bool ru)).heap[b]? = some (.cells #[L, R, .bool lu, .bool ru] 26 (0, 0)) := by
      iterate 4 (rw [heap_setCell_other _ _ _ _ (by simp; omega)])
      exact h.box
    exact (row4_facts hx).2
theorem Dq.start {w W w1 w2 : World} {g : Nat} {L R : Value} {zl zr : List Int} {lu ru : Bool} (hA : Below w.heap.size w W) (hres : W.heap[w.heap.size]? = some (.cells (pq nilS nilS false false) 26 (0, 0))) (hsz : W.heap.size = w.heap.size + 1) (hg1 : W.heap.size ≤ g) (hb1 : Below W.heap.size W w1) (hr1 : Rdr w1 g) (P : Pw w2 w1.heap.size w2.heap.size L R zl zr) (hlen : zl.length ≤ 4 ∧ zr.length ≤ 4) (hr2 : Rdr w2 g) (hg2 : w1.grownBy w2 (some g)) :
    Dq w (w2.alloc (.cells (pq L R lu ru) 26)) g w2.heap.size L R zl zr lu ru := by
  have hA2 : Below w2.heap.size w2 (w2.alloc (.cells (pq L R lu ru) 26)) := (Below.refl _ _).alloc (Nat.le_refl _) _
  have l1 := hr1.lt
  have l2 := hr2.lt
  have s1 := hb1.size
  have s2 := hg2.size
  have r1 := (hb1.block _ (by omega)).trans hres
  have r2 := (hg2.block _ (by omega) (by simp; omega)).trans r1
  have b1 := hA.trans (hb1.mono hA.size)
  have b2 := below_read b1 hg2 (by omega) b1.size
  exact ⟨(hA2.block _ (by omega)).trans r2, heap_alloc_new _ _, (P.below hA2).wide (by omega) (by simp), hr2.below hA2, b2.trans (hA2.mono b2.size), ⟨by omega, by omega⟩, hlen⟩

set_option maxHeartbeats 4000000 in
set_option maxRecDepth 20000 in
theorem drawPairMend_any (ad : Option Addr) (n cap : Nat) (w : World) (hb : Bt w ad n) (hn : n ≤ 1048576) :
    Calls Try.prog 19 #[.slice ad n cap] w fun e w' => ∃ xd xc yd yc zl zr lu ru, e = .returned (.agg (pq (.slice xd (List.length zl) xc) (.slice yd (List.length zr) yc) lu ru)) ∧ Pw w' w.heap.size w'.heap.size (.slice xd zl.length xc) (.slice yd zr.length yc) zl zr ∧ (zl.length ≤ 4 ∧ zr.length ≤ 4) ∧ Below w.heap.size w w' := by
  have hA0 : Below w.heap.size w (w.alloc (.cells (pq nilS nilS false false) 26)) := (Below.refl _ _).alloc (Nat.le_refl _) _
  have hres := heap_alloc_new w (.cells (pq nilS nilS false false) 26)
  have hsz : (w.alloc (.cells (pq nilS nilS false false) 26)).heap.size = w.heap.size + 1 := by simp
  have hb0 := hb.below hA0
  have HX := hide (And.intro hA0 (And.intro hres hsz))
  clear hb hA0 hres hsz
  go_enter Try.func19, Try.ntmps19
  go_wp2_with fail
  generalize (World.alloc _ _) = W at HX hb0 ⊢
  refine (open_any ad n cap _ hb0 hn).mono ?_
  rintro e w1 ⟨g, rfl, hg1, hr1, hb1⟩
  clear hb0
  go_wp2_with fail
  refine (rdPair_any g _ hr1).mono ?_
  rintro e w2 ⟨xd, xc, yd, yc, zl, zr, lu, ru, rfl, P, hlen, hr2, hg2⟩
  have d := Dq.start (lu := lu) (ru := ru) HX.out.1 HX.out.2.1 HX.out.2.2 hg1 hb1 hr1 P hlen hr2 hg2
  clear d
  have r1 := (hb1.block _ (by have := HX.out.2.2; omega)).trans HX.out.2.1
  have l1 := hr1.lt
  have s1 := hb1.size
  have r2 := (hg2.block _ (by have := HX.out.2.2; omega) (by have := HX.out.2.2; simp; omega)).trans r1
  have b1 := HX.out.1.trans (hb1.mono HX.out.1.size)
  have b2 := below_read b1 hg2 (by have := HX.out.2.2; omega) b1.size
  obtain ⟨fr, r0, r1', r2', r3⟩ := row4_facts r2
  have HF := hide (And.intro P (And.intro b2 (And.intro hlen (And.intro HX.out.2.2 s1))))
  clear P b1 b2 hlen r1 r2 HX hb1 hr1 hr2 hg2 s1 hg1 l1
  go_wp2
  refine bodyPost_ret (v := .agg (pq (.slice xd (List.length zl) xc) (.slice yd (List.length zr) yc) lu ru)) (by simp [results, Try.results19, go_sem, r0, r1', r2', r3]) rfl ⟨xd, xc, yd, yc, zl, zr, lu, ru, rfl, ?_, HF.out.2.2.1, ?_⟩
  · simp only [World.size_setCell]
    have hh := HF.out
    refine Pw.wide (lo := w1.heap.size) (hi := w2.heap.size) ?_ (by omega) (Nat.le_refl _)
    iterate 4 (refine Pw.set ?_ (by omega))
    exact HF.out.1
  · have hle : w.heap.size ≤ w.heap.size := Nat.le_refl _
    iterate 4 (refine Below.setCell ?_ hle _)
    exact HF.out.2.1

set_option maxHeartbeats 4000000 in
set_option maxRecDepth 20000 in
theorem drawPairFail_any (ad : Option Addr) (n cap : Nat) (w : World) (hb : Bt w ad n) (hn : n ≤ 1048576) :
    Calls Try.prog 15 #[.slice ad n cap] w fun e w' => ∃ xd xc yd yc zl zr lu ru, ∃ lf : Bool, e = .returned (.tuple #[.agg (pq (.slice xd (List.length zl) xc) (.slice yd (List.length zr) yc) lu ru), .bool lf]) ∧ Pw w' w.heap.size w'.heap.size (.slice xd zl.length xc) (.slice yd zr.length yc) zl zr ∧ (zl.length ≤ 4 ∧ zr.length ≤ 4) ∧ Below w.heap.size w w' := by
  have hA0 : Below w.heap.size w (w.alloc (.cells (pq nilS nilS false false) 26)) := (Below.refl _ _).alloc (Nat.le_refl _) _
  have hres := heap_alloc_new w (.cells (pq nilS nilS false false) 26)
  have hsz : (w.alloc (.cells (pq nilS nilS false false) 26)).heap.size = w.heap.size + 1 := by simp
  have hb0 := hb.below hA0
  have HX := hide (And.intro hA0 (And.intro hres hsz))
  clear hb hA0 hres hsz
  go_enter Try.func15, Try.ntmps15
  go_wp2_with fail
  generalize (World.alloc _ _) = W at HX hb0 ⊢
  refine (open_any ad n cap _ hb0 hn).mono ?_
  rintro e w1 ⟨g, rfl, hg1, hr1, hb1⟩
  clear hb0
  go_wp2_with fail
  refine (rdPair_any g _ hr1).mono ?_
  rintro e w2 ⟨xd, xc, yd, yc, zl, zr, lu, ru, rfl, P, hlen, hr2, hg2⟩
  have d := Dq.start (lu := lu) (ru := ru) HX.out.1 HX.out.2.1 HX.out.2.2 hg1 hb1 hr1 P hlen hr2 hg2
  clear P hlen hr2 hg2 hr1 hb1 hg1 HX
  generalize hb9 : w2.heap.size = b at d
  have HD := hide d
  clear d
  go_wp2
  generalize (World.alloc _ _) = V at HD ⊢
  have d := HD.out
  clear HD hb9
  refine wp_region_held_drew (S := fun w' => w'.cell? ⟨b, 0, none⟩ = some (.slice xd zl.length xc) ∧ w'.cell? ⟨b, 1, none⟩ = some (.slice yd zr.length yc) ∧ w'.cell? ⟨b, 2, none⟩ = some (.bool lu) ∧ w'.cell? ⟨b, 3, none⟩ = some (.bool ru)) (by kernel_rfl) (row4_facts d.box).2 (fun hHeld => ?_)
  replace d := d.below ((Below.refl _ _).drew)
  obtain ⟨V0, hV0⟩ : ∃ V0, World.drew V = V0 := ⟨_, rfl⟩
  rw [hV0] at d hHeld ⊢
  clear hV0
  refine wpAnyH_take (i := 0) (v := .agg (pq (.slice xd (List.length zl) xc) (.slice yd (List.length zr) yc) lu ru)) rfl (by kernel_rfl) (by kernel_rfl) (by kernel_rfl) (fun _ _ _ h => h) (Or.inl ⟨by rfl, fun w' hSw => ?_⟩) (by assumption) ?_
  · (try dsimp only at hSw); obtain ⟨z0, z1, z2, z3⟩ := hSw; go_simp
  try simp only [Act.put, List.getElem_toArray, List.getElem_cons_zero, List.getElem_cons_succ, List.setIfInBounds_toArray, List.set_cons_zero, List.set_cons_succ]
  refine wpAnyH_take (i := 1) (v := .pointer (some ⟨g, 0, none⟩)) rfl (by kernel_rfl) (by kernel_rfl) (by kernel_rfl) (fun _ _ _ h => h) (Or.inl ⟨by rfl, fun w' hSw => ?_⟩) (by assumption) ?_
  · (try dsimp only at hSw); skip; go_simp
  try simp only [Act.put, List.getElem_toArray, List.getElem_cons_zero, List.getElem_cons_succ, List.setIfInBounds_toArray, List.set_cons_zero, List.set_cons_succ]
  refine wpAnyH_ready (rs := [2]) (by kernel_rfl) (by simp) ?_
  refine AllReadyH.cons rfl (fun K hK => ?_) AllReadyH.nil
  go_simp
  refine (once_any g 2 _ d.rd (by decide) (by decide)).mono ?_
  rintro e V2 ⟨lf, rfl, hr, hg⟩
  replace d := d.read hr hg
  refine hK.out _ _ (row4_facts d.box).2 (fun hHeld => ?_)
  clear hK K hr hg
  try simp only [Act.put, List.getElem_toArray, List.getElem_cons_zero, List.getElem_cons_succ, List.setIfInBounds_toArray, List.set_cons_zero, List.set_cons_succ]
  refine wpAnyH_ready (rs := [3]) (by kernel_rfl) (by simp) ?_
  refine AllReadyH.cons rfl (fun K hK => ?_) AllReadyH.nil
  obtain ⟨fr, r0, r1, r2, r3⟩ := row4_facts d.res
  go_simp
  refine hK.out _ _ d.fin.2.2.2 (fun hHeld => ?_)
  clear hK K hHeld fr r0 r1 r2 r3
  try simp only [Act.put, List.getElem_toArray, List.getElem_cons_zero, List.getElem_cons_succ, List.setIfInBounds_toArray, List.set_cons_zero, List.set_cons_succ]
  refine wpAnyH_take (i := 4) (v := .bool lf) rfl (by kernel_rfl) (by kernel_rfl) (by kernel_rfl) (fun _ _ _ h => h) (Or.inl ⟨by rfl, fun w' hSw => ?_⟩) (d.fin.2.2.2) ?_
  · go_simp
  try simp only [Act.put, List.getElem_toArray, List.getElem_cons_zero, List.getElem_cons_succ, List.setIfInBounds_toArray, List.set_cons_zero, List.set_cons_succ]
  refine wpAnyH_done (by kernel_rfl) ?_ _
  obtain ⟨⟨q0, q1, q2, q3⟩, f1, f2, _⟩ := d.fin
  have HF := hide (And.intro f1 (And.intro f2 d.len))
  clear f1 f2 d
  generalize (World.setCell _ _ _) = Y at HF q0 q1 q2 q3 ⊢
  go_wp2
  exact bodyPost_ret (v := .tuple #[.agg (pq (.slice xd (List.length zl) xc) (.slice yd (List.length zr) yc) lu ru), .bool lf]) (by simp [results, Try.results15, go_sem, q0, q1, q2, q3]) rfl ⟨xd, xc, yd, yc, zl, zr, lu, ru, lf, rfl, HF.out.1, HF.out.2.2, HF.out.2.1⟩

set_option maxHeartbeats 4000000 in
set_option maxRecDepth 20000 in
theorem drawPairWrite_any (ad : Option Addr) (n cap : Nat) (w : World) (hb : Bt w ad n) (hn : n ≤ 1048576) :
    Calls Try.prog 8 #[.slice ad n cap] w fun e w' => ∃ xd xc yd yc zl zr lu ru, ∃ x y : Int, e = .returned (.tuple #[.agg (pq (.slice xd (List.length zl) xc) (.slice yd (List.length zr) yc) lu ru), .int .i64 x, .int .i64 y]) ∧ Pw w' w.heap.size w'.heap.size (.slice xd zl.length xc) (.slice yd zr.length yc) zl zr ∧ (zl.length ≤ 4 ∧ zr.length ≤ 4) ∧ Below w.heap.size w w' := by
  have hA0 : Below w.heap.size w (w.alloc (.cells (pq nilS nilS false false) 26)) := (Below.refl _ _).alloc (Nat.le_refl _) _
  have hres := heap_alloc_new w (.cells (pq nilS nilS false false) 26)
  have hsz : (w.alloc (.cells (pq nilS nilS false false) 26)).heap.size = w.heap.size + 1 := by simp
  have hb0 := hb.below hA0
  have HX := hide (And.intro hA0 (And.intro hres hsz))
  clear hb hA0 hres hsz
  go_enter Try.func8, Try.ntmps8
  go_wp2_with fail
  generalize (World.alloc _ _) = W at HX hb0 ⊢
  refine (open_any ad n cap _ hb0 hn).mono ?_
  rintro e w1 ⟨g, rfl, hg1, hr1, hb1⟩
  clear hb0
  go_wp2_with fail
  refine (rdPair_any g _ hr1).mono ?_
  rintro e w2 ⟨xd, xc, yd, yc, zl, zr, lu, ru, rfl, P, hlen, hr2, hg2⟩
  have d := Dq.start (lu := lu) (ru := ru) HX.out.1 HX.out.2.1 HX.out.2.2 hg1 hb1 hr1 P hlen hr2 hg2
  clear P hlen hr2 hg2 hr1 hb1 hg1 HX
  generalize hb9 : w2.heap.size = b at d
  have HD := hide d
  clear d
  go_wp2_with fail
  generalize (World.alloc _ _) = V at HD ⊢
  refine (once_any g 8 _ HD.out.rd (by decide) (by decide)).mono ?_
  rintro e V3 ⟨bl, rfl, hr, hg⟩
  have d := HD.out.read hr hg
  clear HD hb9 hr hg
  cases bl with
  | true =>
    go_wp2
    refine wp_region_held_drew (S := fun w' => w'.cell? ⟨b, 0, none⟩ = some (.slice xd zl.length xc) ∧ w'.cell? ⟨b, 1, none⟩ = some (.slice yd zr.length yc) ∧ w'.cell? ⟨b, 2, none⟩ = some (.bool lu) ∧ w'.cell? ⟨b, 3, none⟩ = some (.bool ru)) (by kernel_rfl) (row4_facts d.box).2 (fun hHeld => ?_)
    replace d := d.below ((Below.refl _ _).drew)
    obtain ⟨V0, hV0⟩ : ∃ V0, World.drew V3 = V0 := ⟨_, rfl⟩
    rw [hV0] at d hHeld ⊢
    clear hV0
    refine wpAnyH_take (i := 0) (v := .agg (pq (.slice xd (List.length zl) xc) (.slice yd (List.length zr) yc) lu ru)) rfl (by kernel_rfl) (by kernel_rfl) (by kernel_rfl) (fun _ _ _ h => h) (Or.inl ⟨by rfl, fun w' hSw => ?_⟩) (by assumption) ?_
    · (try dsimp only at hSw); obtain ⟨z0, z1, z2, z3⟩ := hSw; go_simp
    try simp only [Act.put, List.getElem_toArray, List.getElem_cons_zero, List.getElem_cons_succ, List.setIfInBounds_toArray, List.set_cons_zero, List.set_cons_succ]
    refine wpAnyH_take (i := 1) (v := .pointer (some ⟨g, 0, none⟩)) rfl (by kernel_rfl) (by kernel_rfl) (by kernel_rfl) (fun _ _ _ h => h) (Or.inl ⟨by rfl, fun w' hSw => ?_⟩) (by assumption) ?_
    · (try dsimp only at hSw); skip; go_simp
    try simp only [Act.put, List.getElem_toArray, List.getElem_cons_zero, List.getElem_cons_succ, List.setIfInBounds_toArray, List.set_cons_zero, List.set_cons_succ]
    refine wpAnyH_take (i := 3) (v := .pointer (some ⟨g, 0, none⟩)) rfl (by kernel_rfl) (by kernel_rfl) (by kernel_rfl) (fun _ _ _ h => h) (Or.inl ⟨by rfl, fun w' hSw => ?_⟩) (by assumption) ?_
    · (try dsimp only at hSw); skip; go_simp
    try simp only [Act.put, List.getElem_toArray, List.getElem_cons_zero, List.getElem_cons_succ, List.setIfInBounds_toArray, List.set_cons_zero, List.set_cons_succ]
    refine wpAnyH_ready (rs := [2]) (by kernel_rfl) (by simp) ?_
    refine AllReadyH.cons rfl (fun K hK => ?_) AllReadyH.nil
    go_simp
    refine (off_any g 0 2 _ d.rd (by decide) (by decide) (by decide)).mono ?_
    rintro e V4 ⟨x, rfl, hr, hg⟩
    replace d := d.read hr hg
    refine hK.out _ _ (row4_facts d.box).2 (fun hHeld => ?_)
    clear hK K hr hg
    try simp only [Act.put, List.getElem_toArray, List.getElem_cons_zero, List.getElem_cons_succ, List.setIfInBounds_toArray, List.set_cons_zero, List.set_cons_succ]
    refine wpAnyH_ready (rs := [4]) (by kernel_rfl) (by simp) ?_
    refine AllReadyH.cons rfl (fun K hK => ?_) AllReadyH.nil
    go_simp
    refine (off_any g 0 1000000 _ d.rd (by decide) (by decide) (by decide)).mono ?_
    rintro e V5 ⟨y, rfl, hr, hg⟩
    replace d := d.read hr hg
    refine hK.out _ _ (row4_facts d.box).2 (fun hHeld => ?_)
    clear hK K hr hg
    try simp only [Act.put, List.getElem_toArray, List.getElem_cons_zero, List.getElem_cons_succ, List.setIfInBounds_toArray, List.set_cons_zero, List.set_cons_succ]
    refine wpAnyH_ready (rs := [5]) (by kernel_rfl) (by simp) ?_
    refine AllReadyH.cons rfl (fun K hK => ?_) AllReadyH.nil
    obtain ⟨fr, r0, r1, r2, r3⟩ := row4_facts d.res
    go_simp
    refine hK.out _ _ d.fin.2.2.2 (fun hHeld => ?_)
    clear hK K hHeld fr r0 r1 r2 r3
    try simp only [Act.put, List.getElem_toArray, List.getElem_cons_zero, List.getElem_cons_succ, List.setIfInBounds_toArray, List.set_cons_zero, List.set_cons_succ]
    refine wpAnyH_take (i := 6) (v := .int .i64 x) rfl (by kernel_rfl) (by kernel_rfl) (by kernel_rfl) (fun _ _ _ h => h) (Or.inl ⟨by rfl, fun w' hSw => ?_⟩) (d.fin.2.2.2) ?_
    · go_simp
    try simp only [Act.put, List.getElem_toArray, List.getElem_cons_zero, List.getElem_cons_succ, List.setIfInBounds_toArray, List.set_cons_zero, List.set_cons_succ]
    refine wpAnyH_take (i := 7) (v := .int .i64 y) rfl (by kernel_rfl) (by kernel_rfl) (by kernel_rfl) (fun _ _ _ h => h) (Or.inl ⟨by rfl, fun w' hSw => ?_⟩) (d.fin.2.2.2) ?_
    · go_simp
    try simp only [Act.put, List.getElem_toArray, List.getElem_cons_zero, List.getElem_cons_succ, List.setIfInBounds_toArray, List.set_cons_zero, List.set_cons_succ]
    refine wpAnyH_done (by kernel_rfl) ?_ _
    obtain ⟨⟨q0, q1, q2, q3⟩, f1, f2, _⟩ := d.fin
    have HF := hide (And.intro f1 (And.intro f2 d.len))
    clear f1 f2 d
    generalize (World.setCell _ _ _) = Y at HF q0 q1 q2 q3 ⊢
    go_wp2
    exact bodyPost_ret (v := .tuple #[.agg (pq (.slice xd (List.length zl) xc) (.slice yd (List.length zr) yc) lu ru), .int .i64 x, .int .i64 y]) (by simp [results, Try.results8, go_sem, q0, q1, q2, q3]) rfl ⟨xd, xc, yd, yc, zl, zr, lu, ru, x, y, rfl, HF.out.1, HF.out.2.2, HF.out.2.1⟩
  | false =>
    go_wp2
    refine wp_region_held_drew (S := fun w' => w'.cell? ⟨b, 0, none⟩ = some (.slice xd zl.length xc) ∧ w'.cell? ⟨b, 1, none⟩ = some (.slice yd zr.length yc) ∧ w'.cell? ⟨b, 2, none⟩ = some (.bool lu) ∧ w'.cell? ⟨b, 3, none⟩ = some (.bool ru)) (by kernel_rfl) (row4_facts d.box).2 (fun hHeld => ?_)
    replace d := d.below ((Below.refl _ _).drew)
    obtain ⟨V0, hV0⟩ : ∃ V0, World.drew V3 = V0 := ⟨_, rfl⟩
    rw [hV0] at d hHeld ⊢
    clear hV0
    refine wpAnyH_take (i := 0) (v := .agg (pq (.slice xd (List.length zl) xc) (.slice yd (List.length zr) yc) lu ru)) rfl (by kernel_rfl) (by kernel_rfl) (by kernel_rfl) (fun _ _ _ h => h) (Or.inl ⟨by rfl, fun w' hSw => ?_⟩) (by assumption) ?_
    · (try dsimp only at hSw); obtain ⟨z0, z1, z2, z3⟩ := hSw; go_simp
    try simp only [Act.put, List.getElem_toArray, List.getElem_cons_zero, List.getElem_cons_succ, List.setIfInBounds_toArray, List.set_cons_zero, List.set_cons_succ]
    refine wpAnyH_take (i := 1) (v := .pointer (some ⟨g, 0, none⟩)) rfl (by kernel_rfl) (by kernel_rfl) (by kernel_rfl) (fun _ _ _ h => h) (Or.inl ⟨by rfl, fun w' hSw => ?_⟩) (by assumption) ?_
    · (try dsimp only at hSw); skip; go_simp
    try simp only [Act.put, List.getElem_toArray, List.getElem_cons_zero, List.getElem_cons_succ, List.setIfInBounds_toArray, List.set_cons_zero, List.set_cons_succ]
    refine wpAnyH_take (i := 3) (v := .pointer (some ⟨g, 0, none⟩)) rfl (by kernel_rfl) (by kernel_rfl) (by kernel_rfl) (fun _ _ _ h => h) (Or.inl ⟨by rfl, fun w' hSw => ?_⟩) (by assumption) ?_
    · (try dsimp only at hSw); skip; go_simp
    try simp only [Act.put, List.getElem_toArray, List.getElem_cons_zero, List.getElem_cons_succ, List.setIfInBounds_toArray, List.set_cons_zero, List.set_cons_succ]
    refine wpAnyH_ready (rs := [2]) (by kernel_rfl) (by simp) ?_
    refine AllReadyH.cons rfl (fun K hK => ?_) AllReadyH.nil
    go_simp
    refine (below_any g 3 _ d.rd (by decide) (by decide)).mono ?_
    rintro e V4 ⟨x, rfl, hx0, hx1, hr, hg⟩
    replace d := d.read hr hg
    refine hK.out _ _ (row4_facts d.box).2 (fun hHeld => ?_)
    clear hK K hr hg
    try simp only [Act.put, List.getElem_toArray, List.getElem_cons_zero, List.getElem_cons_succ, List.setIfInBounds_toArray, List.set_cons_zero, List.set_cons_succ]
    refine wpAnyH_ready (rs := [4]) (by kernel_rfl) (by simp) ?_
    refine AllReadyH.cons rfl (fun K hK => ?_) AllReadyH.nil
    go_simp
    refine (below_any g 50 _ d.rd (by decide) (by decide)).mono ?_
    rintro e V5 ⟨y, rfl, hy0, hy1, hr, hg⟩
    replace d := d.read hr hg
    refine hK.out _ _ (row4_facts d.box).2 (fun hHeld => ?_)
    clear hK K hr hg
    try simp only [Act.put, List.getElem_toArray, List.getElem_cons_zero, List.getElem_cons_succ, List.setIfInBounds_toArray, List.set_cons_zero, List.set_cons_succ]
    refine wpAnyH_ready (rs := [5]) (by kernel_rfl) (by simp) ?_
    refine AllReadyH.cons rfl (fun K hK => ?_) AllReadyH.nil
    obtain ⟨fr, r0, r1, r2, r3⟩ := row4_facts d.res
    go_simp
    refine hK.out _ _ d.fin.2.2.2 (fun hHeld => ?_)
    clear hK K hHeld fr r0 r1 r2 r3
    try simp only [Act.put, List.getElem_toArray, List.getElem_cons_zero, List.getElem_cons_succ, List.setIfInBounds_toArray, List.set_cons_zero, List.set_cons_succ]
    refine wpAnyH_take (i := 6) (v := .int .i64 x) rfl (by kernel_rfl) (by kernel_rfl) (by kernel_rfl) (fun _ _ _ h => h) (Or.inl ⟨by rfl, fun w' hSw => ?_⟩) (d.fin.2.2.2) ?_
    · go_simp
    try simp only [Act.put, List.getElem_toArray, List.getElem_cons_zero, List.getElem_cons_succ, List.setIfInBounds_toArray, List.set_cons_zero, List.set_cons_succ]
    refine wpAnyH_take (i := 7) (v := .int .i64 y) rfl (by kernel_rfl) (by kernel_rfl) (by kernel_rfl) (fun _ _ _ h => h) (Or.inl ⟨by rfl, fun w' hSw => ?_⟩) (d.fin.2.2.2) ?_
    · go_simp
    try simp only [Act.put, List.getElem_toArray, List.getElem_cons_zero, List.getElem_cons_succ, List.setIfInBounds_toArray, List.set_cons_zero, List.set_cons_succ]
    refine wpAnyH_done (by kernel_rfl) ?_ _
    obtain ⟨⟨q0, q1, q2, q3⟩, f1, f2, _⟩ := d.fin
    have HF := hide (And.intro f1 (And.intro f2 d.len))
    clear f1 f2 d
    generalize (World.setCell _ _ _) = Y at HF q0 q1 q2 q3 ⊢
    go_wp2
    exact bodyPost_ret (v := .tuple #[.agg (pq (.slice xd (List.length zl) xc) (.slice yd (List.length zr) yc) lu ru), .int .i64 x, .int .i64 y]) (by simp [results, Try.results8, go_sem, q0, q1, q2, q3]) rfl ⟨xd, xc, yd, yc, zl, zr, lu, ru, x, y, rfl, HF.out.1, HF.out.2.2, HF.out.2.1⟩

end Go.Proofs.Ytplnfddleaoimaa
