/- spec.PairMend -/
import Derived.Test.YtplnfddleaoimaaPrL
namespace Go.Proofs.Ytplnfddleaoimaa
open Go.RowKit
set_option linter.unusedVariables false
set_option linter.unusedSimpArgs false

theorem pw_ne {w : World} {lo hi B : Nat} {L R : Value} {zl zr : List Int} (h : Pw w lo hi L R zl zr) (h1 : ∀ k, L.ownBlock = some k → k ≠ B) (h2 : ∀ k, R.ownBlock = some k → k ≠ B) : (∀ k, L.ownBlock = some k → k ≠ B) ∧ (∀ k, R.ownBlock = some k → k ≠ B) := ⟨h1, h2⟩
theorem Pw.setne {w : World} {lo hi B i : Nat} {L R u : Value} {zl zr : List Int} (h : Pw w lo hi L R zl zr) (h1 : ∀ k, L.ownBlock = some k → k ≠ B) (h2 : ∀ k, R.ownBlock = some k → k ≠ B) : Pw (w.setCell ⟨B, i, none⟩ u) lo hi L R zl zr :=
  ⟨h.l.set h1, h.r.set h2, h.ne, h.lh, h.rh⟩

set_option maxHeartbeats 4000000 in
theorem specMend_any (L R : Value) (zl zr : List Int) (lu ru : Bool) (w : World) (hl : Sl w L zl) (hr : Sl w R zr) (hn : zl.length + zr.length ≤ 1048576) :
    Calls Try.prog 20 #[.agg (pq L R lu ru)] w (Post w (aMend zl zr lu ru)) := by
  have HV := hide (And.intro hl hr)
  obtain ⟨ld, lc, rfl, _⟩ := hl
  obtain ⟨rd, rc, rfl, _⟩ := hr
  have hok := fun W h k => specPairOk_any (.slice ld zl.length lc) (.slice rd zr.length rc) zl zr lu ru W h k hn
  have HL : Hid (pairB zl zr lu ru = true → zl.length ≤ 1000 ∧ zr.length ≤ 1000) := hide (fun h => by have := pairB_len h; omega)
  have HNo : Hid ((pairB zl zr lu ru && (lu || ru)) = false → aMend zl zr lu ru = PA.no) := hide aMend_no
  have HYl : Hid (pairB zl zr lu ru = true → lu = true → aMend zl zr lu ru = ⟨zl, zl, true, true, true⟩) := hide (fun h1 h2 => by subst h2; unfold aMend; rw [h1]; rfl)
  have HYr : Hid (pairB zl zr lu ru = true → lu = false → ru = true → aMend zl zr lu ru = ⟨zr, zr, true, true, true⟩) := hide (fun h1 h2 h3 => by subst h2 h3; unfold aMend; rw [h1]; rfl)
  have HSm : Hid (pairB zl zr lu ru = true → lu = true → ru = true → zl = zr) := hide (fun h1 h2 h3 => by subst h2 h3; exact pairB_same h1)
  generalize aMend zl zr lu ru = ans at HNo HYl HYr ⊢
  generalize pairB zl zr lu ru = b at hok HNo HYl HYr HL HSm
  have HE := two_boxes w (pq (.slice ld zl.length lc) (.slice rd zr.length rc) lu ru) (pq nilS nilS false false) 26 26
  clear hn
  go_enter Try.func20, Try.ntmps20
  go_wp2_with fail
  generalize hW : (World.alloc (World.alloc _ _) _) = W
  obtain ⟨p1, p2, hB0, hsz⟩ := HE.out W hW
  clear HE hW
  refine (hok W (HV.out.1.below hB0) (HV.out.2.below hB0)).mono ?_
  rintro e w1 ⟨rfl, hb1⟩
  have hB1 := hB0.trans (hb1.mono hB0.size)
  have p3 := (hb1.block _ (by omega)).trans p2
  have p4 := (hb1.block _ (by omega)).trans p1
  have hs1 := hb1.size
  rw [hsz] at hs1
  obtain ⟨fr, r0, r1, r2, r3⟩ := row4_facts p3
  obtain ⟨_, x0, x1, x2, x3⟩ := row4_facts p4
  clear hok hB0 p1 p2 hb1 hsz
  cases b with
  | false =>
    obtain rfl := HNo.out rfl
    clear HNo HYl HYr HV HL HSm p3 p4
    go_wp2
    refine bodyPost_ret (v := .tuple #[.agg (pq nilS nilS false false), .bool false]) (by simp [results, Try.results20, go_sem, r0, r1, r2, r3]) rfl (Post.no ?_)
    have hle : w.heap.size ≤ w.heap.size + 1 := by omega
    iterate 4 (refine Below.setCell ?_ hle _)
    exact hB1
  | true =>
    replace HL := hide (HL.out rfl)
    cases lu with
    | false =>
      cases ru with
      | false =>
        obtain rfl := HNo.out rfl
        clear HNo HYl HYr HV HL HSm p3 p4
        go_wp2
        refine bodyPost_ret (v := .tuple #[.agg (pq nilS nilS false false), .bool false]) (by simp [results, Try.results20, go_sem, r0, r1, r2, r3]) rfl (Post.no ?_)
        have hle : w.heap.size ≤ w.heap.size + 1 := by omega
        iterate 4 (refine Below.setCell ?_ hle _)
        exact hB1
      | true =>
        obtain rfl := HYr.out rfl rfl rfl
        clear HNo HYl HYr HSm fr r0 r1 r2 r3
        go_wp2_with fail
        refine (copyPair_any _ _ zl zr _ _ w1 (HV.out.1.below hB1) (HV.out.2.below hB1) HL.out.1 HL.out.2).mono ?_
        rintro e w2 ⟨ad, ac, bd, bc, rfl, hP, hb2⟩
        have hA : Below w2.heap.size w2 (w2.alloc (.cells (pq (.slice ad zl.length ac) (.slice bd zr.length bc) false true) 26)) := (Below.refl _ _).alloc (Nat.le_refl _) _
        have hq := heap_alloc_new w2 (.cells (pq (.slice ad zl.length ac) (.slice bd zr.length bc) false true) 26)
        have hb3 := hb2.trans (hA.mono hb2.size)
        have hB3 := hB1.trans (hb3.mono hB1.size)
        have hs2 := hb2.size
        have p5 := (hb3.block _ (by omega)).trans p3
        obtain ⟨_, x0, x1, x2, x3⟩ := row4_facts ((hb3.block _ (by omega)).trans p4)
        have hP2 := hP.below hA
        have hz : (w2.alloc (.cells (pq (.slice ad zl.length ac) (.slice bd zr.length bc) false true) 26)).heap.size = w2.heap.size + 1 := by simp
        have hne : ¬ w.heap.size + 1 = w2.heap.size := by omega
        have hne2 : ¬ w2.heap.size = w.heap.size + 1 := by omega
        clear hP hb2 hA hb3 hB1 p3 p4
        obtain ⟨gr, y0, y1, y2, y3⟩ := row4_facts hq
        obtain ⟨fr, r0, r1, r2, r3⟩ := row4_facts p5
        have hBE : Below (w2.alloc (.cells (pq (.slice ad zl.length ac) (.slice bd zr.length bc) false true) 26)).heap.size (w2.alloc (.cells (pq (.slice ad zl.length ac) (.slice bd zr.length bc) false true) 26)) ((w2.alloc (.cells (pq (.slice ad zl.length ac) (.slice bd zr.length bc) false true) 26)).alloc (.cells #[] 2)) := (Below.refl _ _).alloc (Nat.le_refl _) _
        have hsrc := (HV.out.2.below hB3).below hBE
        obtain ⟨ud, uc, w4, hrun, hn4, hg4, hat⟩ := append_own ((w2.alloc (.cells (pq (.slice ad zl.length ac) (.slice bd zr.length bc) false true) 26)).alloc (.cells #[] 2)) (w2.alloc (.cells (pq (.slice ad zl.length ac) (.slice bd zr.length bc) false true) 26)).heap.size (w2.alloc (.cells (pq (.slice ad zl.length ac) (.slice bd zr.length bc) false true) 26)).heap.size rd rc zr 24 (ow_empty (w2.alloc (.cells (pq (.slice ad zl.length ac) (.slice bd zr.length bc) false true) 26))) hsrc (by have := HL.out; omega) (by simp)
        rw [hz] at hrun
        have hb4 : Below (w2.alloc (.cells (pq (.slice ad zl.length ac) (.slice bd zr.length bc) false true) 26)).heap.size (w2.alloc (.cells (pq (.slice ad zl.length ac) (.slice bd zr.length bc) false true) 26)) w4 := hBE.grown hg4 (by simp) (fun k hk => by simp at hk; omega)
        have ho4 := hP2.r.below hb4
        have hlt : ∀ k, (Value.slice bd zr.length bc).ownBlock = some k → k < w2.heap.size := hP2.rh
        have hnew : ∀ k, (Value.slice ud zr.length uc).ownBlock = some k → (w2.alloc (.cells (pq (.slice ad zl.length ac) (.slice bd zr.length bc) false true) 26)).heap.size ≤ k := fun k hk => (hn4.lt k hk).1
        have hB4 := hB3.trans (hb4.mono hB3.size)
        have hq4 := (hb4.block _ (by omega)).trans hq
        have p6 := (hb4.block _ (by omega)).trans p5
        have hs4 := hb4.size
        replace hn4 := hn4.mono (base' := w1.heap.size) (by omega)
        have hP4 : Pw w4 w1.heap.size w4.heap.size (.slice ud zr.length uc) (.slice bd zr.length bc) zr zr := ⟨hn4, ho4, (fun k a b => by have := hlt k b; have := hnew k a; omega), (fun k a => (hn4.lt k a).2), (fun k a => by have := hlt k a; omega)⟩
        obtain ⟨gr4, y0, y1, y2, y3⟩ := row4_facts hq4
        obtain ⟨fr4, r0, r1, r2, r3⟩ := row4_facts p6
        obtain ⟨t0, t1, t2, t3⟩ : B4 w4 w.heap.size _ _ _ _ := B4.below ⟨x0, x1, x2, x3⟩ hb4
        obtain ⟨e0, e1, e2, e3⟩ : B4 ((w2.alloc (.cells (pq (.slice ad zl.length ac) (.slice bd zr.length bc) false true) 26)).alloc (.cells #[] 2)) w.heap.size _ _ _ _ := B4.below ⟨x0, x1, x2, x3⟩ hBE
        have hLL := pw_ne hP4 (B := w2.heap.size) (fun k a => by have := hnew k a; omega) (fun k a => by have := hlt k a; omega)
        have HF := hide (And.intro hP4 (And.intro hB4 (And.intro hz (And.intro hs1 (And.intro hs2 (And.intro hs4 hLL))))))
        clear hLL
        have hne3 : ¬ w.heap.size = w2.heap.size := by omega
        have hne4 : ¬ w2.heap.size = w.heap.size := by omega
        clear hP2 hP4 hB3 hB4 p5 p6 hq hq4 HV HL hn4 ho4 hg4 hat hb4 hBE hsrc hlt hnew hs4 hz
        go_wp2_with (at_builtin; refine list_append_run (by rfl) _ _ 24 (by rfl) (by rfl) (by rfl) hrun ?_)
        clear hrun x0 x1 x2 x3 e0 e1 e2 e3 gr fr
        go_wp2
        refine bodyPost_ret (v := .tuple #[.agg (pq (.slice ud zr.length uc) (.slice bd zr.length bc) true true), .bool true]) (by simp [results, Try.results20, go_sem, r0, r1, r2, r3, hne, hne2]) rfl ⟨ud, uc, bd, bc, rfl, ?_, ?_⟩
        · simp only [World.size_setCell]
          have hh := HF.out
          refine Pw.wide (lo := w1.heap.size) (hi := w4.heap.size) ?_ (by omega) (Nat.le_refl _)
          repeat (first | refine Pw.set (B := w.heap.size + 1) ?_ (by omega) | refine Pw.setne (B := w2.heap.size) ?_ HF.out.2.2.2.2.2.2.1 HF.out.2.2.2.2.2.2.2)
          exact HF.out.1
        · have hle : w.heap.size ≤ w.heap.size + 1 := by omega
          have hle2 : w.heap.size ≤ w2.heap.size := by have := HF.out; omega
          repeat (first | refine Below.setCell ?_ hle _ | refine Below.setCell ?_ hle2 _)
          exact HF.out.2.1
    | true =>
      cases ru with
      | false =>
        obtain rfl := HYl.out rfl rfl
        clear HNo HYl HYr HSm fr r0 r1 r2 r3
        go_wp2_with fail
        refine (copyPair_any _ _ zl zr _ _ w1 (HV.out.1.below hB1) (HV.out.2.below hB1) HL.out.1 HL.out.2).mono ?_
        rintro e w2 ⟨ad, ac, bd, bc, rfl, hP, hb2⟩
        have hA : Below w2.heap.size w2 (w2.alloc (.cells (pq (.slice ad zl.length ac) (.slice bd zr.length bc) true false) 26)) := (Below.refl _ _).alloc (Nat.le_refl _) _
        have hq := heap_alloc_new w2 (.cells (pq (.slice ad zl.length ac) (.slice bd zr.length bc) true false) 26)
        have hb3 := hb2.trans (hA.mono hb2.size)
        have hB3 := hB1.trans (hb3.mono hB1.size)
        have hs2 := hb2.size
        have p5 := (hb3.block _ (by omega)).trans p3
        obtain ⟨_, x0, x1, x2, x3⟩ := row4_facts ((hb3.block _ (by omega)).trans p4)
        have hP2 := hP.below hA
        have hz : (w2.alloc (.cells (pq (.slice ad zl.length ac) (.slice bd zr.length bc) true false) 26)).heap.size = w2.heap.size + 1 := by simp
        have hne : ¬ w.heap.size + 1 = w2.heap.size := by omega
        have hne2 : ¬ w2.heap.size = w.heap.size + 1 := by omega
        clear hP hb2 hA hb3 hB1 p3 p4
        obtain ⟨gr, y0, y1, y2, y3⟩ := row4_facts hq
        obtain ⟨fr, r0, r1, r2, r3⟩ := row4_facts p5
        have hBE : Below (w2.alloc (.cells (pq (.slice ad zl.length ac) (.slice bd zr.length bc) true false) 26)).heap.size (w2.alloc (.cells (pq (.slice ad zl.length ac) (.slice bd zr.length bc) true false) 26)) ((w2.alloc (.cells (pq (.slice ad zl.length ac) (.slice bd zr.length bc) true false) 26)).alloc (.cells #[] 2)) := (Below.refl _ _).alloc (Nat.le_refl _) _
        have hsrc := (HV.out.1.below hB3).below hBE
        obtain ⟨ud, uc, w4, hrun, hn4, hg4, hat⟩ := append_own ((w2.alloc (.cells (pq (.slice ad zl.length ac) (.slice bd zr.length bc) true false) 26)).alloc (.cells #[] 2)) (w2.alloc (.cells (pq (.slice ad zl.length ac) (.slice bd zr.length bc) true false) 26)).heap.size (w2.alloc (.cells (pq (.slice ad zl.length ac) (.slice bd zr.length bc) true false) 26)).heap.size ld lc zl 24 (ow_empty (w2.alloc (.cells (pq (.slice ad zl.length ac) (.slice bd zr.length bc) true false) 26))) hsrc (by have := HL.out; omega) (by simp)
        rw [hz] at hrun
        have hb4 : Below (w2.alloc (.cells (pq (.slice ad zl.length ac) (.slice bd zr.length bc) true false) 26)).heap.size (w2.alloc (.cells (pq (.slice ad zl.length ac) (.slice bd zr.length bc) true false) 26)) w4 := hBE.grown hg4 (by simp) (fun k hk => by simp at hk; omega)
        have ho4 := hP2.l.below hb4
        have hlt : ∀ k, (Value.slice ad zl.length ac).ownBlock = some k → k < w2.heap.size := hP2.lh
        have hnew : ∀ k, (Value.slice ud zl.length uc).ownBlock = some k → (w2.alloc (.cells (pq (.slice ad zl.length ac) (.slice bd zr.length bc) true false) 26)).heap.size ≤ k := fun k hk => (hn4.lt k hk).1
        have hB4 := hB3.trans (hb4.mono hB3.size)
        have hq4 := (hb4.block _ (by omega)).trans hq
        have p6 := (hb4.block _ (by omega)).trans p5
        have hs4 := hb4.size
        replace hn4 := hn4.mono (base' := w1.heap.size) (by omega)
        have hP4 : Pw w4 w1.heap.size w4.heap.size (.slice ad zl.length ac) (.slice ud zl.length uc) zl zl := ⟨ho4, hn4, (fun k a b => by have := hlt k a; have := hnew k b; omega), (fun k a => by have := hlt k a; omega), (fun k a => (hn4.lt k a).2)⟩
        obtain ⟨gr4, y0, y1, y2, y3⟩ := row4_facts hq4
        obtain ⟨fr4, r0, r1, r2, r3⟩ := row4_facts p6
        obtain ⟨t0, t1, t2, t3⟩ : B4 w4 w.heap.size _ _ _ _ := B4.below ⟨x0, x1, x2, x3⟩ hb4
        obtain ⟨e0, e1, e2, e3⟩ : B4 ((w2.alloc (.cells (pq (.slice ad zl.length ac) (.slice bd zr.length bc) true false) 26)).alloc (.cells #[] 2)) w.heap.size _ _ _ _ := B4.below ⟨x0, x1, x2, x3⟩ hBE
        have hLL := pw_ne hP4 (B := w2.heap.size) (fun k a => by have := hlt k a; omega) (fun k a => by have := hnew k a; omega)
        have HF := hide (And.intro hP4 (And.intro hB4 (And.intro hz (And.intro hs1 (And.intro hs2 (And.intro hs4 hLL))))))
        clear hLL
        have hne3 : ¬ w.heap.size = w2.heap.size := by omega
        have hne4 : ¬ w2.heap.size = w.heap.size := by omega
        clear hP2 hP4 hB3 hB4 p5 p6 hq hq4 HV HL hn4 ho4 hg4 hat hb4 hBE hsrc hlt hnew hs4 hz
        go_wp2_with (at_builtin; refine list_append_run (by rfl) _ _ 24 (by rfl) (by rfl) (by rfl) hrun ?_)
        clear hrun x0 x1 x2 x3 e0 e1 e2 e3 gr fr
        go_wp2
        refine bodyPost_ret (v := .tuple #[.agg (pq (.slice ad zl.length ac) (.slice ud zl.length uc) true true), .bool true]) (by simp [results, Try.results20, go_sem, r0, r1, r2, r3, hne, hne2]) rfl ⟨ad, ac, ud, uc, rfl, ?_, ?_⟩
        · simp only [World.size_setCell]
          have hh := HF.out
          refine Pw.wide (lo := w1.heap.size) (hi := w4.heap.size) ?_ (by omega) (Nat.le_refl _)
          repeat (first | refine Pw.set (B := w.heap.size + 1) ?_ (by omega) | refine Pw.setne (B := w2.heap.size) ?_ HF.out.2.2.2.2.2.2.1 HF.out.2.2.2.2.2.2.2)
          exact HF.out.1
        · have hle : w.heap.size ≤ w.heap.size + 1 := by omega
          have hle2 : w.heap.size ≤ w2.heap.size := by have := HF.out; omega
          repeat (first | refine Below.setCell ?_ hle _ | refine Below.setCell ?_ hle2 _)
          exact HF.out.2.1
      | true =>
        obtain rfl := HYl.out rfl rfl
        have HSM := hide (HSm.out rfl rfl rfl)
        clear HNo HYl HYr HSm fr r0 r1 r2 r3
        go_wp2_with fail
        refine (copyPair_any _ _ zl zr _ _ w1 (HV.out.1.below hB1) (HV.out.2.below hB1) HL.out.1 HL.out.2).mono ?_
        rintro e w2 ⟨ad, ac, bd, bc, rfl, hP, hb2⟩
        have hA : Below w2.heap.size w2 (w2.alloc (.cells (pq (.slice ad zl.length ac) (.slice bd zr.length bc) true true) 26)) := (Below.refl _ _).alloc (Nat.le_refl _) _
        have hq := heap_alloc_new w2 (.cells (pq (.slice ad zl.length ac) (.slice bd zr.length bc) true true) 26)
        have hb3 := hb2.trans (hA.mono hb2.size)
        have hB3 := hB1.trans (hb3.mono hB1.size)
        have hs2 := hb2.size
        have p5 := (hb3.block _ (by omega)).trans p3
        obtain ⟨_, x0, x1, x2, x3⟩ := row4_facts ((hb3.block _ (by omega)).trans p4)
        have hP2 := hP.below hA
        have hz : (w2.alloc (.cells (pq (.slice ad zl.length ac) (.slice bd zr.length bc) true true) 26)).heap.size = w2.heap.size + 1 := by simp
        have hne : ¬ w.heap.size + 1 = w2.heap.size := by omega
        have hne2 : ¬ w2.heap.size = w.heap.size + 1 := by omega
        clear hP hb2 hA hb3 hB1 p3 p4
        obtain ⟨gr, y0, y1, y2, y3⟩ := row4_facts hq
        obtain ⟨fr, r0, r1, r2, r3⟩ := row4_facts p5
        have hsm := HSM.out
        clear HSM
        subst hsm
        have HF := hide (And.intro hP2 (And.intro hB3 (And.intro hz (And.intro hs1 hs2))))
        clear hP2 hB3 p5 hq HV HL x0 x1 hz
        go_wp2
        refine bodyPost_ret (v := .tuple #[.agg (pq (.slice ad zl.length ac) (.slice bd zl.length bc) true true), .bool true]) (by simp [results, Try.results20, go_sem, r0, r1, r2, r3, hne, hne2]) rfl ⟨ad, ac, bd, bc, rfl, ?_, ?_⟩
        · simp only [World.size_setCell, World.size_alloc]
          have hh := HF.out
          refine Pw.wide (lo := w1.heap.size) (hi := w2.heap.size) ?_ (by omega) (by omega)
          repeat (refine Pw.set ?_ (by omega))
          exact HF.out.1
        · have hle : w.heap.size ≤ w.heap.size + 1 := by omega
          have hle2 : w.heap.size ≤ w2.heap.size := by have := HF.out; omega
          repeat (first | refine Below.setCell ?_ hle _ | refine Below.setCell ?_ hle2 _)
          exact HF.out.2.1

end Go.Proofs.Ytplnfddleaoimaa
