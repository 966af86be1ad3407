/- PairFail of both sides -/
import Derived.Test.YtplnfddleaoimaaPrH
import Derived.Test.YtplnfddleaoimaaPrD
namespace Go.Proofs.Ytplnfddleaoimaa
open Go.RowKit
set_option linter.unusedVariables false
set_option linter.unusedSimpArgs false

def aFail (zl zr : List Int) (lu ru lf : Bool) : PA :=
  if pairB zl zr lu ru && (if lf then lu else ru) then (if lf then ⟨[], zr, false, ru, true⟩ else ⟨zl, [], lu, false, true⟩) else PA.no
theorem aFail_len (zl zr : List Int) (lu ru lf : Bool) (h : zl.length + zr.length ≤ 1048576) : (aFail zl zr lu ru lf).zl.length + (aFail zl zr lu ru lf).zr.length ≤ 1048576 := by
  unfold aFail
  generalize pairB zl zr lu ru = b
  cases b <;> cases lf <;> cases lu <;> cases ru <;> first | (show 0 + 0 ≤ 1048576; omega) | (show 0 + zr.length ≤ 1048576; omega) | (show zl.length + 0 ≤ 1048576; omega)
theorem aFail_no {zl zr : List Int} {lu ru lf : Bool} (h : (pairB zl zr lu ru && (if lf then lu else ru)) = false) : aFail zl zr lu ru lf = PA.no := by unfold aFail; rw [h]; rfl

theorem two_cells {w : World} {B : Nat} {T : TypeId} {v0 v1 : Value} (h : w.heap[B]? = some (.cells #[v0, v1] T (0, 0))) : (∀ i, w.frozen? ⟨B, i, none⟩ = false) ∧ w.cell? ⟨B, 0, none⟩ = some v0 ∧ w.cell? ⟨B, 1, none⟩ = some v1 :=
  ⟨fun i => frozen_of_row _ _ i _ _ h, (cell_of_row _ _ _ _ _ _ h).trans rfl, (cell_of_row _ _ _ _ _ _ h).trans rfl⟩

/-- the left one is lost -/
theorem Mi.loseL {w : World} {lo hi Bl Br : Nat} {L R : Value} {zl zr : List Int} {lu ru : Bool} (h : Mi w lo hi Bl Br L R zl zr lu ru) : Mi ((w.setCell ⟨Bl, 0, none⟩ nilS).setCell ⟨Bl, 1, none⟩ (.bool false)) lo hi Bl Br nilS R [] zr false ru := by
  have h2 := h.h2
  refine ⟨?_, ?_, Ow.nil _ _, (h.or.set (fun k hk => by have := h.hr k hk; omega)).set (fun k hk => by have := h.hr k hk; omega), (fun k hk => nomatch hk), h.hr, h.h1, h.h2, h.h3⟩
  · rw [heap_setCell_same _ _ 1 _ _ _ (heap_setCell_same _ _ 0 _ _ _ h.bl)]; rfl
  · rw [heap_setCell_other _ _ _ _ (by simp; omega), heap_setCell_other _ _ _ _ (by simp; omega)]; exact h.br
theorem Mi.loseR {w : World} {lo hi Bl Br : Nat} {L R : Value} {zl zr : List Int} {lu ru : Bool} (h : Mi w lo hi Bl Br L R zl zr lu ru) : Mi ((w.setCell ⟨Br, 0, none⟩ nilS).setCell ⟨Br, 1, none⟩ (.bool false)) lo hi Bl Br L nilS zl [] lu false := by
  have h2 := h.h2
  refine ⟨?_, ?_, (h.ol.set (fun k hk => by have := h.hl k hk; omega)).set (fun k hk => by have := h.hl k hk; omega), Ow.nil _ _, h.hl, (fun k hk => nomatch hk), h.h1, h.h2, h.h3⟩
  · rw [heap_setCell_other _ _ _ _ (by simp; omega), heap_setCell_other _ _ _ _ (by simp; omega)]; exact h.bl
  · rw [heap_setCell_same _ _ 1 _ _ _ (heap_setCell_same _ _ 0 _ _ _ h.br)]; rfl

theorem Pw.nilL {w : World} {lo hi : Nat} {L R : Value} {zl zr : List Int} (h : Pw w lo hi L R zl zr) : Pw w lo hi nilS R [] zr := ⟨Ow.nil _ _, h.r, (fun k a => nomatch a), (fun k a => nomatch a), h.rh⟩
theorem Pw.nilR {w : World} {lo hi : Nat} {L R : Value} {zl zr : List Int} (h : Pw w lo hi L R zl zr) : Pw w lo hi L nilS zl [] := ⟨h.l, Ow.nil _ _, (fun k a b => nomatch b), h.lh, (fun k a => nomatch a)⟩
theorem two_boxes (w : World) (a b : Array Value) (Ta Tb : TypeId) : Hid (∀ W, (w.alloc (.cells a Ta)).alloc (.cells b Tb) = W → W.heap[w.heap.size]? = some (.cells a Ta (0, 0)) ∧ W.heap[w.heap.size + 1]? = some (.cells b Tb (0, 0)) ∧ Below w.heap.size w W ∧ W.heap.size = w.heap.size + 2) := by
  refine hide fun W hW => ?_
  subst hW
  refine ⟨?_, ?_, ?_, by simp⟩
  · rw [Below.heap_alloc _ _ _ (by simp)]; exact heap_alloc_new _ _
  · have := heap_alloc_new (w.alloc (.cells a Ta)) (.cells b Tb); simpa only [World.size_alloc] using this
  · exact ((Below.refl _ _).alloc (Nat.le_refl _) _).alloc (by simp) _

set_option maxHeartbeats 8000000 in
theorem implFail_any (L R : Value) (zl zr : List Int) (lu ru lf : Bool) (w : World) (hl : Sl w L zl) (hr : Sl w R zr) (hn : zl.length + zr.length ≤ 1048576) :
    Calls Try.prog 16 #[.agg (pq L R lu ru), .bool lf] w (Post w (aFail zl zr lu ru lf)) := by
  have HV := hide (And.intro hl hr)
  obtain ⟨ld, lc, rfl, _⟩ := hl
  obtain ⟨rd, rc, rfl, _⟩ := hr
  have hmo := fun W h k => mirrorsOf_any (.slice ld zl.length lc) (.slice rd zr.length rc) zl zr lu ru W h k hn
  have HNo : Hid ((pairB zl zr lu ru && (if lf then lu else ru)) = false → aFail zl zr lu ru lf = PA.no) := hide aFail_no
  have HYl : Hid (pairB zl zr lu ru = true → lf = true → lu = true → aFail zl zr lu ru lf = ⟨[], zr, false, ru, true⟩) := hide (fun h1 h2 h3 => by subst h2 h3; unfold aFail; rw [h1]; rfl)
  have HYr : Hid (pairB zl zr lu ru = true → lf = false → ru = true → aFail zl zr lu ru lf = ⟨zl, [], lu, false, true⟩) := hide (fun h1 h2 h3 => by subst h2 h3; unfold aFail; rw [h1]; rfl)
  generalize aFail zl zr lu ru lf = ans at HNo HYl HYr ⊢
  generalize pairB zl zr lu ru = b at hmo HNo HYl HYr
  have HE := two_boxes w (pq (.slice ld zl.length lc) (.slice rd zr.length rc) lu ru) (pq nilS nilS false false) 26 26
  clear hn
  go_enter Try.func16, Try.ntmps16
  go_wp2_with fail
  generalize hW : (World.alloc (World.alloc _ _) _) = W
  obtain ⟨p1, p2, hB0, hsz⟩ := HE.out W hW
  clear HE hW
  refine (hmo W (HV.out.1.below hB0) (HV.out.2.below hB0)).mono ?_
  rintro e w1 ⟨hyes, hno, hb1⟩
  have hB1 := hB0.trans (hb1.mono hB0.size)
  have p3 := (hb1.block _ (by omega)).trans p2
  have hs1 := hb1.size
  rw [hsz] at hs1
  clear hmo hB0 p1 p2 HV
  cases b with
  | false =>
    obtain rfl := hno rfl
    obtain rfl := HNo.out rfl
    clear hyes hno HNo HYl HYr
    have hA : Below w1.heap.size w1 (w1.alloc (.cells #[.pointer none, .pointer none] 50)) := (Below.refl _ _).alloc (Nat.le_refl _) _
    have hB2 := hB1.trans (hA.mono hB1.size)
    obtain ⟨fr, r0, r1, r2, r3⟩ := row4_facts ((hA.block _ (by omega)).trans p3)
    clear hb1 hA hB1 p3
    go_wp2
    refine bodyPost_ret (v := .tuple #[.agg (pq nilS nilS false false), .bool false]) (by simp [results, Try.results16, go_sem, r0, r1, r2, r3]) rfl (Post.no ?_)
    have hle : w.heap.size ≤ w.heap.size + 1 := by omega
    iterate 4 (refine Below.setCell ?_ hle _)
    exact hB2
  | true =>
    obtain ⟨Bl, Br, ad, ac, bd, bc, rfl, hM⟩ := hyes rfl
    clear hno hyes
    have hA : Below w1.heap.size w1 (w1.alloc (.cells #[pt Bl, pt Br] 50)) := (Below.refl _ _).alloc (Nat.le_refl _) _
    have hq := heap_alloc_new w1 (.cells #[pt Bl, pt Br] 50)
    have hB2 := hB1.trans (hA.mono hB1.size)
    have p4 := (hA.block _ (by omega)).trans p3
    have hM2 := (hM.below hA)
    obtain ⟨fr, r0, r1, r2, r3⟩ := row4_facts p4
    obtain ⟨_, q0, q1⟩ := two_cells hq
    obtain ⟨gl, a0, a1⟩ := two_cells hM2.bl
    obtain ⟨gr, b0, b1⟩ := two_cells hM2.br
    obtain ⟨gl', a0', a1'⟩ := two_cells hM.bl
    obtain ⟨gr', b0', b1'⟩ := two_cells hM.br
    have hlt := hM.h1
    have hlt2 := hM.h2
    have hlt3 := hM.h3
    rw [hsz] at hlt
    have hzz : (w1.alloc (.cells #[pt Bl, pt Br] 50)).heap.size = w1.heap.size + 1 := by simp
    cases lf with
    | true =>
      cases lu with
      | false =>
        obtain rfl := HNo.out rfl
        clear HNo HYl HYr hM hM2 hB1 hA hb1 hq p3 p4
        go_wp2
        refine bodyPost_ret (v := .tuple #[.agg (pq nilS nilS false false), .bool false]) (by simp [results, Try.results16, go_sem, r0, r1, r2, r3]) rfl (Post.no ?_)
        have hle : w.heap.size ≤ w.heap.size + 1 := by omega
        iterate 4 (refine Below.setCell ?_ hle _)
        exact hB2
      | true =>
        obtain rfl := HYl.out rfl rfl rfl
        have HM := hide hM2.loseL
        have hne : ¬ w1.heap.size = Bl := by omega
        have c0 : ((((w1.alloc (.cells #[pt Bl, pt Br] 50)).setCell ⟨Bl, 0, none⟩ nilS).setCell ⟨Bl, 1, none⟩ (.bool false))).heap[w1.heap.size]? = some (.cells #[pt Bl, pt Br] 50 (0, 0)) := by
          rw [heap_setCell_other _ _ _ _ (by simpa using hne), heap_setCell_other _ _ _ _ (by simpa using hne)]; exact hq
        have p5 : ((((w1.alloc (.cells #[pt Bl, pt Br] 50)).setCell ⟨Bl, 0, none⟩ nilS).setCell ⟨Bl, 1, none⟩ (.bool false))).heap[w.heap.size + 1]? = some (.cells (pq nilS nilS false false) 26 (0, 0)) := by
          rw [heap_setCell_other _ _ _ _ (by simp; omega), heap_setCell_other _ _ _ _ (by simp; omega)]; exact p4
        have hB3 : Below w.heap.size w ((((w1.alloc (.cells #[pt Bl, pt Br] 50)).setCell ⟨Bl, 0, none⟩ nilS).setCell ⟨Bl, 1, none⟩ (.bool false))) := (hB2.setCell (by show w.heap.size ≤ Bl; omega) _).setCell (by show w.heap.size ≤ Bl; omega) _
        have hz5 : ((((w1.alloc (.cells #[pt Bl, pt Br] 50)).setCell ⟨Bl, 0, none⟩ nilS).setCell ⟨Bl, 1, none⟩ (.bool false))).heap.size = w1.heap.size + 1 := by simp
        have HR := hide (And.intro c0 (And.intro p5 (And.intro hB3 hz5)))
        clear HNo HYl HYr hM hM2 hB1 hB2 hA hb1 hq p3 p4 c0 p5 hB3 hz5 r0 r1 r2 r3 fr hs1 hlt3 gl' gr' a0' a1' b0' b1'
        go_wp2_with fail
        generalize hZ : (World.setCell (World.setCell (World.alloc _ _) _ _) _ _) = Z at HM HR ⊢
        obtain ⟨c0, p5, hB3, hz5⟩ := HR.out
        clear HR hZ
        refine (pair_any _ _ Bl Br _ _ _ _ _ _ _ HM.out).mono ?_
        rintro e w2 ⟨rfl, hb2⟩
        obtain ⟨fr, r0, r1, r2, r3⟩ := row4_facts ((hb2.block _ (lt_of_block p5)).trans p5)
        have hB4 := hB3.trans (hb2.mono hB3.size)
        have hP := (HM.out.below hb2).pw
        have hs4 : w1.heap.size ≤ w2.heap.size := by have := hb2.size; omega
        have HF := hide (And.intro hP (And.intro hB4 hs4))
        clear hz5
        clear hP hB4 hb2 HM c0 p5 hB3 a0 a1 b0 b1 gl gr q0 q1
        go_wp2
        refine bodyPost_ret (v := .tuple #[.agg (pq nilS (.slice bd zr.length bc) false ru), .bool true]) (by simp [results, Try.results16, go_sem, r0, r1, r2, r3]) rfl ⟨none, 0, bd, bc, rfl, ?_, ?_⟩
        · simp only [World.size_setCell]
          refine Pw.wide (lo := W.heap.size) (hi := w1.heap.size) ?_ (by omega) HF.out.2.2
          iterate 4 (refine Pw.set ?_ (by omega))
          exact HF.out.1
        · have hle : w.heap.size ≤ w.heap.size + 1 := by omega
          iterate 4 (refine Below.setCell ?_ hle _)
          exact HF.out.2.1
    | false =>
      cases ru with
      | false =>
        obtain rfl := HNo.out rfl
        clear HNo HYl HYr hM hM2 hB1 hA hb1 hq p3 p4
        go_wp2
        refine bodyPost_ret (v := .tuple #[.agg (pq nilS nilS false false), .bool false]) (by simp [results, Try.results16, go_sem, r0, r1, r2, r3]) rfl (Post.no ?_)
        have hle : w.heap.size ≤ w.heap.size + 1 := by omega
        iterate 4 (refine Below.setCell ?_ hle _)
        exact hB2
      | true =>
        obtain rfl := HYr.out rfl rfl rfl
        have HM := hide hM2.loseR
        have hne : ¬ w1.heap.size = Br := by omega
        have c0 : ((((w1.alloc (.cells #[pt Bl, pt Br] 50)).setCell ⟨Br, 0, none⟩ nilS).setCell ⟨Br, 1, none⟩ (.bool false))).heap[w1.heap.size]? = some (.cells #[pt Bl, pt Br] 50 (0, 0)) := by
          rw [heap_setCell_other _ _ _ _ (by simpa using hne), heap_setCell_other _ _ _ _ (by simpa using hne)]; exact hq
        have p5 : ((((w1.alloc (.cells #[pt Bl, pt Br] 50)).setCell ⟨Br, 0, none⟩ nilS).setCell ⟨Br, 1, none⟩ (.bool false))).heap[w.heap.size + 1]? = some (.cells (pq nilS nilS false false) 26 (0, 0)) := by
          rw [heap_setCell_other _ _ _ _ (by simp; omega), heap_setCell_other _ _ _ _ (by simp; omega)]; exact p4
        have hB3 : Below w.heap.size w ((((w1.alloc (.cells #[pt Bl, pt Br] 50)).setCell ⟨Br, 0, none⟩ nilS).setCell ⟨Br, 1, none⟩ (.bool false))) := (hB2.setCell (by show w.heap.size ≤ Br; omega) _).setCell (by show w.heap.size ≤ Br; omega) _
        have hz5 : ((((w1.alloc (.cells #[pt Bl, pt Br] 50)).setCell ⟨Br, 0, none⟩ nilS).setCell ⟨Br, 1, none⟩ (.bool false))).heap.size = w1.heap.size + 1 := by simp
        have HR := hide (And.intro c0 (And.intro p5 (And.intro hB3 hz5)))
        clear HNo HYl HYr hM hM2 hB1 hB2 hA hb1 hq p3 p4 c0 p5 hB3 hz5 r0 r1 r2 r3 fr hs1 hlt3 gl' gr' a0' a1' b0' b1'
        go_wp2_with fail
        generalize hZ : (World.setCell (World.setCell (World.alloc _ _) _ _) _ _) = Z at HM HR ⊢
        obtain ⟨c0, p5, hB3, hz5⟩ := HR.out
        clear HR hZ
        refine (pair_any _ _ Bl Br _ _ _ _ _ _ _ HM.out).mono ?_
        rintro e w2 ⟨rfl, hb2⟩
        obtain ⟨fr, r0, r1, r2, r3⟩ := row4_facts ((hb2.block _ (lt_of_block p5)).trans p5)
        have hB4 := hB3.trans (hb2.mono hB3.size)
        have hP := (HM.out.below hb2).pw
        have hs4 : w1.heap.size ≤ w2.heap.size := by have := hb2.size; omega
        have HF := hide (And.intro hP (And.intro hB4 hs4))
        clear hz5
        clear hP hB4 hb2 HM c0 p5 hB3 a0 a1 b0 b1 gl gr q0 q1
        go_wp2
        refine bodyPost_ret (v := .tuple #[.agg (pq (.slice ad zl.length ac) nilS lu false), .bool true]) (by simp [results, Try.results16, go_sem, r0, r1, r2, r3]) rfl ⟨ad, ac, none, 0, rfl, ?_, ?_⟩
        · simp only [World.size_setCell]
          refine Pw.wide (lo := W.heap.size) (hi := w1.heap.size) ?_ (by omega) HF.out.2.2
          iterate 4 (refine Pw.set ?_ (by omega))
          exact HF.out.1
        · have hle : w.heap.size ≤ w.heap.size + 1 := by omega
          iterate 4 (refine Below.setCell ?_ hle _)
          exact HF.out.2.1

set_option maxHeartbeats 8000000 in
theorem specFail_any (L R : Value) (zl zr : List Int) (lu ru lf : Bool) (w : World) (hl : Sl w L zl) (hr : Sl w R zr) (hn : zl.length + zr.length ≤ 1048576) :
    Calls Try.prog 17 #[.agg (pq L R lu ru), .bool lf] w (Post w (aFail zl zr lu ru lf)) := by
  have HV := hide (And.intro hl hr)
  obtain ⟨ld, lc, rfl, _⟩ := hl
  obtain ⟨rd, rc, rfl, _⟩ := hr
  have hok := fun W h k => specPairOk_any (.slice ld zl.length lc) (.slice rd zr.length rc) zl zr lu ru W h k hn
  have HL : Hid (pairB zl zr lu ru = true → zl.length ≤ 1000 ∧ zr.length ≤ 1000) := hide (fun h => by have := pairB_len h; omega)
  have HNo : Hid ((pairB zl zr lu ru && (if lf then lu else ru)) = false → aFail zl zr lu ru lf = PA.no) := hide aFail_no
  have HYl : Hid (pairB zl zr lu ru = true → lf = true → lu = true → aFail zl zr lu ru lf = ⟨[], zr, false, ru, true⟩) := hide (fun h1 h2 h3 => by subst h2 h3; unfold aFail; rw [h1]; rfl)
  have HYr : Hid (pairB zl zr lu ru = true → lf = false → ru = true → aFail zl zr lu ru lf = ⟨zl, [], lu, false, true⟩) := hide (fun h1 h2 h3 => by subst h2 h3; unfold aFail; rw [h1]; rfl)
  generalize aFail zl zr lu ru lf = ans at HNo HYl HYr ⊢
  generalize pairB zl zr lu ru = b at hok HNo HYl HYr HL
  have HE := two_boxes w (pq (.slice ld zl.length lc) (.slice rd zr.length rc) lu ru) (pq nilS nilS false false) 26 26
  clear hn
  go_enter Try.func17, Try.ntmps17
  go_wp2_with fail
  generalize hW : (World.alloc (World.alloc _ _) _) = W
  obtain ⟨p1, p2, hB0, hsz⟩ := HE.out W hW
  clear HE hW
  refine (hok W (HV.out.1.below hB0) (HV.out.2.below hB0)).mono ?_
  rintro e w1 ⟨rfl, hb1⟩
  have hB1 := hB0.trans (hb1.mono hB0.size)
  have p3 := (hb1.block _ (by omega)).trans p2
  have p4 := (hb1.block _ (by omega)).trans p1
  have hs1 := hb1.size
  rw [hsz] at hs1
  obtain ⟨fr, r0, r1, r2, r3⟩ := row4_facts p3
  obtain ⟨_, x0, x1, x2, x3⟩ := row4_facts p4
  clear hok hB0 p1 p2 hb1 hsz
  cases b with
  | false =>
    obtain rfl := HNo.out rfl
    clear HNo HYl HYr HV HL p3 p4
    go_wp2
    refine bodyPost_ret (v := .tuple #[.agg (pq nilS nilS false false), .bool false]) (by simp [results, Try.results17, go_sem, r0, r1, r2, r3]) rfl (Post.no ?_)
    have hle : w.heap.size ≤ w.heap.size + 1 := by omega
    iterate 4 (refine Below.setCell ?_ hle _)
    exact hB1
  | true =>
    replace HL := hide (HL.out rfl)
    cases lf with
    | true =>
      cases lu with
      | false =>
        obtain rfl := HNo.out rfl
        clear HNo HYl HYr HV HL p3 p4
        go_wp2
        refine bodyPost_ret (v := .tuple #[.agg (pq nilS nilS false false), .bool false]) (by simp [results, Try.results17, go_sem, r0, r1, r2, r3]) rfl (Post.no ?_)
        have hle : w.heap.size ≤ w.heap.size + 1 := by omega
        iterate 4 (refine Below.setCell ?_ hle _)
        exact hB1
      | true =>
        obtain rfl := HYl.out rfl rfl rfl
        clear HNo HYl HYr fr r0 r1 r2 r3
        go_wp2_with fail
        refine (copyPair_any _ _ zl zr _ _ w1 (HV.out.1.below hB1) (HV.out.2.below hB1) HL.out.1 HL.out.2).mono ?_
        rintro e w2 ⟨ad, ac, bd, bc, rfl, hP, hb2⟩
        have hA : Below w2.heap.size w2 (w2.alloc (.cells (pq (.slice ad zl.length ac) (.slice bd zr.length bc) true ru) 26)) := (Below.refl _ _).alloc (Nat.le_refl _) _
        have hq := heap_alloc_new w2 (.cells (pq (.slice ad zl.length ac) (.slice bd zr.length bc) true ru) 26)
        have hb3 := hb2.trans (hA.mono hb2.size)
        have hB3 := hB1.trans (hb3.mono hB1.size)
        have hs2 := hb2.size
        obtain ⟨fr, r0, r1, r2, r3⟩ := row4_facts ((hb3.block _ (by omega)).trans p3)
        obtain ⟨gr, y0, y1, y2, y3⟩ := row4_facts hq
        have hlt := hP.l.lt
        have hP2 := hP.below hA
        have hz : (w2.alloc (.cells (pq (.slice ad zl.length ac) (.slice bd zr.length bc) true ru) 26)).heap.size = w2.heap.size + 1 := by simp
        have HF := hide (And.intro hP2 (And.intro hB3 (And.intro hz (And.intro hs1 hs2))))
        have hne : ¬ w.heap.size + 1 = w2.heap.size := by omega
        have hne2 : ¬ w2.heap.size = w.heap.size + 1 := by omega
        clear hP hP2 hb2 hA hq hb3 hB3 hB1 p3 p4 hlt HV HL x0 x1 x2 x3 hz
        generalize hV : (World.alloc _ _) = V at HF y0 y1 y2 y3 r0 r1 r2 r3 fr gr
        go_wp2
        clear hV
        refine bodyPost_ret (v := .tuple #[.agg (pq nilS (.slice bd zr.length bc) false ru), .bool true]) (by simp [results, Try.results17, go_sem, r0, r1, r2, r3, hne, hne2]) rfl ⟨none, 0, bd, bc, rfl, ?_, ?_⟩
        · simp only [World.size_setCell]
          have hh := HF.out
          refine Pw.wide (lo := w1.heap.size) (hi := w2.heap.size) ?_ (by omega) (by omega)
          iterate 6 (refine Pw.set ?_ (by omega))
          exact HF.out.1.nilL
        · have hle : w.heap.size ≤ w.heap.size + 1 := by omega
          have hle2 : w.heap.size ≤ w2.heap.size := by have := HF.out; omega
          iterate 4 (refine Below.setCell ?_ hle _)
          iterate 2 (refine Below.setCell ?_ hle2 _)
          exact HF.out.2.1
    | false =>
      cases ru with
      | false =>
        obtain rfl := HNo.out rfl
        clear HNo HYl HYr HV HL p3 p4
        go_wp2
        refine bodyPost_ret (v := .tuple #[.agg (pq nilS nilS false false), .bool false]) (by simp [results, Try.results17, go_sem, r0, r1, r2, r3]) rfl (Post.no ?_)
        have hle : w.heap.size ≤ w.heap.size + 1 := by omega
        iterate 4 (refine Below.setCell ?_ hle _)
        exact hB1
      | true =>
        obtain rfl := HYr.out rfl rfl rfl
        clear HNo HYl HYr fr r0 r1 r2 r3
        go_wp2_with fail
        refine (copyPair_any _ _ zl zr _ _ w1 (HV.out.1.below hB1) (HV.out.2.below hB1) HL.out.1 HL.out.2).mono ?_
        rintro e w2 ⟨ad, ac, bd, bc, rfl, hP, hb2⟩
        have hA : Below w2.heap.size w2 (w2.alloc (.cells (pq (.slice ad zl.length ac) (.slice bd zr.length bc) lu true) 26)) := (Below.refl _ _).alloc (Nat.le_refl _) _
        have hq := heap_alloc_new w2 (.cells (pq (.slice ad zl.length ac) (.slice bd zr.length bc) lu true) 26)
        have hb3 := hb2.trans (hA.mono hb2.size)
        have hB3 := hB1.trans (hb3.mono hB1.size)
        have hs2 := hb2.size
        obtain ⟨fr, r0, r1, r2, r3⟩ := row4_facts ((hb3.block _ (by omega)).trans p3)
        obtain ⟨gr, y0, y1, y2, y3⟩ := row4_facts hq
        have hlt := hP.l.lt
        have hP2 := hP.below hA
        have hz : (w2.alloc (.cells (pq (.slice ad zl.length ac) (.slice bd zr.length bc) lu true) 26)).heap.size = w2.heap.size + 1 := by simp
        have HF := hide (And.intro hP2 (And.intro hB3 (And.intro hz (And.intro hs1 hs2))))
        have hne : ¬ w.heap.size + 1 = w2.heap.size := by omega
        have hne2 : ¬ w2.heap.size = w.heap.size + 1 := by omega
        clear hP hP2 hb2 hA hq hb3 hB3 hB1 p3 p4 hlt HV HL x0 x1 x2 x3 hz
        generalize hV : (World.alloc _ _) = V at HF y0 y1 y2 y3 r0 r1 r2 r3 fr gr
        go_wp2
        clear hV
        refine bodyPost_ret (v := .tuple #[.agg (pq (.slice ad zl.length ac) nilS lu false), .bool true]) (by simp [results, Try.results17, go_sem, r0, r1, r2, r3, hne, hne2]) rfl ⟨ad, ac, none, 0, rfl, ?_, ?_⟩
        · simp only [World.size_setCell]
          have hh := HF.out
          refine Pw.wide (lo := w1.heap.size) (hi := w2.heap.size) ?_ (by omega) (by omega)
          iterate 6 (refine Pw.set ?_ (by omega))
          exact HF.out.1.nilR
        · have hle : w.heap.size ≤ w.heap.size + 1 := by omega
          have hle2 : w.heap.size ≤ w2.heap.size := by have := HF.out; omega
          iterate 4 (refine Below.setCell ?_ hle _)
          iterate 2 (refine Below.setCell ?_ hle2 _)
          exact HF.out.2.1

end Go.Proofs.Ytplnfddleaoimaa
