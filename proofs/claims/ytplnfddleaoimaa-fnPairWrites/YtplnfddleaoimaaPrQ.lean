/- spec.PairWrite (written by hand and program) -/
import Derived.Test.YtplnfddleaoimaaPrO
namespace Go.Proofs.Ytplnfddleaoimaa
open Go.RowKit
set_option linter.unusedVariables false
set_option linter.unusedSimpArgs false

theorem Pw.putL {w : World} {lo hi p n c j : Nat} {R : Value} {zl zr : List Int} (h : Pw w lo hi (.slice (some ⟨p, 0, none⟩) n c) R zl zr) (hj : j < zl.length) (v : Int) : Pw (w.setCell ⟨p, j, none⟩ (.int .i64 v)) lo hi (.slice (some ⟨p, 0, none⟩) n c) R (zl.set j v) zr :=
  ⟨(h.l.put hj v).1, h.r.set (fun k hk e => by subst e; exact h.ne _ rfl hk), h.ne, h.lh, h.rh⟩
theorem Pw.putR {w : World} {lo hi p n c j : Nat} {L : Value} {zl zr : List Int} (h : Pw w lo hi L (.slice (some ⟨p, 0, none⟩) n c) zl zr) (hj : j < zr.length) (v : Int) : Pw (w.setCell ⟨p, j, none⟩ (.int .i64 v)) lo hi L (.slice (some ⟨p, 0, none⟩) n c) zl (zr.set j v) :=
  ⟨h.l.set (fun k hk e => by subst e; exact h.ne _ hk rfl), (h.r.put hj v).1, h.ne, h.lh, h.rh⟩

set_option maxHeartbeats 2000000 in
theorem specWrite_any (L R : Value) (zl zr : List Int) (lu ru : Bool) (line value : Int) (w : World) (hl : Sl w L zl) (hr : Sl w R zr) (hn : zl.length + zr.length ≤ 1048576) :
    Calls Try.prog 10 #[.agg (pq L R lu ru), .int .i64 line, .int .i64 value] w (Post w (aWrite zl zr lu ru line value)) := by
  have HV := hide (And.intro hl hr)
  obtain ⟨ld, lc, rfl, _⟩ := hl
  obtain ⟨rd, rc, rfl, _⟩ := hr
  have hok := fun W h k => specPairOk_any (.slice ld zl.length lc) (.slice rd zr.length rc) zl zr lu ru W h k hn
  have hli := fun W => lines_any ld rd lc rc zl.length zr.length lu ru W (by omega) (by omega)
  have hin := fun W => l1In_any line 0 (((max zl.length zr.length : Nat) : Int) - 1) W (by omega)
  have einb : ((max zl.length zr.length : Nat) : Int) - 1 + 1 = ((max zl.length zr.length : Nat) : Int) := by omega
  rw [einb] at hin
  have hva := fun W => l1In_any value 0 1000000 W (by decide)
  have HNN : Hid (pairB zl zr lu ru = true → (lu = true → zl.length = max zl.length zr.length) ∧ (ru = true → zr.length = max zl.length zr.length) ∧ (lu = false → ru = false → max zl.length zr.length = 0)) := hide pairB_n
  have HLen : Hid (pairB zl zr lu ru = true → zl.length ≤ 4 ∧ zr.length ≤ 4) := hide pairB_len
  have HNo : Hid ((pairB zl zr lu ru && inB line 0 (max zl.length zr.length : Nat) && inB value 0 (1000000 + 1)) = false → aWrite zl zr lu ru line value = PA.no) := hide (fun h => aWrite_no h)
  have HYs : Hid ((pairB zl zr lu ru && inB line 0 (max zl.length zr.length : Nat) && inB value 0 (1000000 + 1)) = true → aWrite zl zr lu ru line value = ⟨if lu then zl.set line.toNat value else zl, if ru then zr.set line.toNat value else zr, lu, ru, true⟩) := hide (fun h => by unfold aWrite; rw [show kWrite zl zr lu ru line value = true from h]; rfl)
  have HI : Hid (inB line 0 (max zl.length zr.length : Nat) = true → 0 ≤ line ∧ line < (max zl.length zr.length : Nat)) := hide (fun h => by simpa [inB] using h)
  generalize aWrite zl zr lu ru line value = ans at HNo HYs ⊢
  generalize pairB zl zr lu ru = b at hok HNo HYs HNN HLen
  generalize inB value 0 (1000000 + 1) = b2 at hva HNo HYs
  generalize hmx : (max zl.length zr.length : Nat) = M at hli hin HNN HNo HYs HI
  clear hmx
  generalize inB line 0 (M : Int) = r at hin HNo HYs HI
  have HN := hide hn
  have HE := two_boxes w (pq (.slice ld zl.length lc) (.slice rd zr.length rc) lu ru) (pq nilS nilS false false) 26 26
  clear hn einb
  go_enter Try.func10, Try.ntmps10
  go_wp2_with fail
  generalize hW : (World.alloc (World.alloc _ _) _) = W
  obtain ⟨p1, p2, hB0, hsz⟩ := HE.out W hW
  clear HE hW
  refine (hok W (HV.out.1.below hB0) (HV.out.2.below hB0)).mono ?_
  rintro e w1 ⟨rfl, hb1⟩
  have hB1 := hB0.trans (hb1.mono hB0.size)
  have p3 := (hb1.block _ (by omega)).trans p2
  have p4 := (hb1.block _ (by omega)).trans p1
  have hs1 := hb1.size
  rw [hsz] at hs1
  obtain ⟨fr, r0, r1, r2, r3⟩ := row4_facts p3
  obtain ⟨_, x0, x1, x2, x3⟩ := row4_facts p4
  clear hok hB0 p1 p2 hb1 hsz
  cases b with
  | false =>
    obtain rfl := HNo.out rfl
    clear HNo HYs HNN HLen HI HN HV p3 p4 hli hin hva
    go_wp2
    refine bodyPost_ret (v := .tuple #[.agg (pq nilS nilS false false), .bool false]) (by simp [results, Try.results10, go_sem, r0, r1, r2, r3]) rfl (Post.no ?_)
    have hle : w.heap.size ≤ w.heap.size + 1 := by omega
    iterate 4 (refine Below.setCell ?_ hle _)
    exact hB1
  | true =>
    have hNN := HNN.out rfl
    have hLen := HLen.out rfl
    have hw : wrap64 ((M : Int) - 1) = (M : Int) - 1 := Go.IntWalk.wrap64_in _ (by have := HN.out; cases lu <;> cases ru <;> first | (have := hNN.1 rfl; omega) | (have := hNN.2.1 rfl; omega) | (have := hNN.2.2 rfl rfl; omega))
    have HN2 := hide (And.intro hNN hLen)
    have HP := hide (And.intro p3 p4)
    clear HNN hNN HLen hLen fr r0 r1 r2 r3 p3 p4
    go_wp2_with fail
    refine (hli _).mono ?_
    rintro e w2 ⟨rfl, hb2⟩
    have hB2 := hB1.trans (hb2.mono hB1.size)
    have p3 := (hb2.block _ (lt_of_block HP.out.1)).trans HP.out.1
    have p4 := (hb2.block _ (lt_of_block HP.out.2)).trans HP.out.2
    have hs2 := hb2.size
    clear x0 x1 x2 x3 hB1 hb2 hli HP
    obtain ⟨fr, r0, r1, r2, r3⟩ := row4_facts p3
    obtain ⟨_, x0, x1, x2, x3⟩ := row4_facts p4
    go_wp2_with fail
    refine (hin _).mono ?_
    rintro e w3 ⟨rfl, rfl⟩
    clear hin hw
    cases r with
    | false =>
      obtain rfl := HNo.out (by first | rfl | simp)
      clear HNo HYs HI HV HN HN2 p3 p4 hva
      go_wp2
      refine bodyPost_ret (v := .tuple #[.agg (pq nilS nilS false false), .bool false]) (by simp [results, Try.results10, go_sem, r0, r1, r2, r3]) rfl (Post.no ?_)
      have hle : w.heap.size ≤ w.heap.size + 1 := by omega
      iterate 4 (refine Below.setCell ?_ hle _)
      exact hB2
    | true =>
      go_wp2_with fail
      refine (hva _).mono ?_
      rintro e w3 ⟨rfl, rfl⟩
      clear hva
      cases b2 with
      | false =>
        obtain rfl := HNo.out (by first | rfl | simp)
        clear HNo HYs HI HV HN HN2 p3 p4
        go_wp2
        refine bodyPost_ret (v := .tuple #[.agg (pq nilS nilS false false), .bool false]) (by simp [results, Try.results10, go_sem, r0, r1, r2, r3]) rfl (Post.no ?_)
        have hle : w.heap.size ≤ w.heap.size + 1 := by omega
        iterate 4 (refine Below.setCell ?_ hle _)
        exact hB2
      | true =>
        obtain rfl := HYs.out (by first | rfl | simp)
        have hi := HI.out (by first | rfl | trivial)
        obtain ⟨j, rfl⟩ : ∃ j : Nat, line = j := ⟨line.toNat, by omega⟩
        have hj : j < M := by omega
        have hjt : ((j : Int)).toNat = j := by simp
        rw [hjt]
        clear HNo HYs HI hi hjt fr r0 r1 r2 r3
        cases lu with
        | true =>
          have hj1 : j < zl.length := by rw [HN2.out.1.1 (by first | rfl | trivial)]; exact hj
          cases ru with
          | true =>
            have hj2 : j < zr.length := by rw [HN2.out.1.2.1 (by first | rfl | trivial)]; exact hj
            go_wp2_with fail
            refine (copyPair_any _ _ zl zr _ _ _ (HV.out.1.below hB2) (HV.out.2.below hB2) (by have := HN2.out.2; omega) (by have := HN2.out.2; omega)).mono ?_
            rintro e w4 ⟨ad, ac, bd, bc, rfl, hP, hb4⟩
            obtain ⟨ad', ac', e1, hg⟩ := hP.l.form
            simp only [Value.slice.injEq, true_and] at e1
            obtain ⟨rfl, rfl⟩ := e1
            obtain ⟨gl, rfl⟩ := hg (by omega)
            clear hg
            obtain ⟨bd', bc', e1, hg⟩ := hP.r.form
            simp only [Value.slice.injEq, true_and] at e1
            obtain ⟨rfl, rfl⟩ := e1
            obtain ⟨gr, rfl⟩ := hg (by omega)
            clear hg
            have hA : Below w4.heap.size w4 (w4.alloc (.cells (pq (.slice (some ⟨gl, 0, none⟩) zl.length ac) (.slice (some ⟨gr, 0, none⟩) zr.length bc) true true) 26)) := (Below.refl _ _).alloc (Nat.le_refl _) _
            have hq := heap_alloc_new w4 (.cells (pq (.slice (some ⟨gl, 0, none⟩) zl.length ac) (.slice (some ⟨gr, 0, none⟩) zr.length bc) true true) 26)
            have hb5 := hb4.trans (hA.mono hb4.size)
            have hB5 := hB2.trans (hb5.mono hB2.size)
            have hs4 := hb4.size
            have p5 := (hb5.block _ (by have := lt_of_block p3; omega)).trans p3
            obtain ⟨_, y0, y1, y2, y3⟩ := row4_facts ((hb5.block _ (lt_of_block p4)).trans p4)
            have hP2 := hP.below hA
            have hz : (w4.alloc (.cells (pq (.slice (some ⟨gl, 0, none⟩) zl.length ac) (.slice (some ⟨gr, 0, none⟩) zr.length bc) true true) 26)).heap.size = w4.heap.size + 1 := by simp
            have hne : ¬ w.heap.size + 1 = w4.heap.size := by omega
            have hne2 : ¬ w4.heap.size = w.heap.size + 1 := by omega
            have hne0 : ¬ w.heap.size = w4.heap.size := by omega
            have hne1 : ¬ w4.heap.size = w.heap.size := by omega
            obtain ⟨fq, z0, z1, z2, z3⟩ := row4_facts hq
            obtain ⟨fr, r0, r1, r2, r3⟩ := row4_facts p5
            have kl := hP2.l.lt gl rfl
            have kl2 := hP2.lh gl rfl
            have hP3 := hP2.putL hj1 value
            obtain ⟨_, fl, ol, hol⟩ := hP2.l.put hj1 value
            have nl1 : ¬ gl = w4.heap.size := by omega
            have nl2 : ¬ w4.heap.size = gl := by omega
            have nl3 : ¬ gl = w.heap.size + 1 := by omega
            have nl4 : ¬ w.heap.size + 1 = gl := by omega
            have nl5 : ¬ gl = w.heap.size := by omega
            have nl6 : ¬ w.heap.size = gl := by omega
            have kr := hP3.r.lt gr rfl
            have kr2 := hP3.rh gr rfl
            have hP4 := hP3.putR hj2 value
            obtain ⟨_, fs, os, hos⟩ := hP3.r.put hj2 value
            have nr1 : ¬ gr = w4.heap.size := by omega
            have nr2 : ¬ w4.heap.size = gr := by omega
            have nr3 : ¬ gr = w.heap.size + 1 := by omega
            have nr4 : ¬ w.heap.size + 1 = gr := by omega
            have nr5 : ¬ gr = w.heap.size := by omega
            have nr6 : ¬ w.heap.size = gr := by omega
            have nlr : ¬ gl = gr := fun e => hP2.ne gl rfl (by rw [e]; rfl)
            have nrl : ¬ gr = gl := fun e => nlr e.symm
            obtain ⟨_, fs', os', hos'⟩ := hP2.r.put hj2 value
            have HF := hide (And.intro hP4 (And.intro hB5 (And.intro hz (And.intro hs1 (And.intro hs2 hs4)))))
            clear hP hP2 hb4 hA hb5 hB5 hB2 p3 p4 p5 hq hz hs1 hs2 hs4 HN HN2 HV hj x0 x1 x2 x3 hP3 kl kl2 hP4 kr kr2
            go_wp2
            refine bodyPost_ret (v := .tuple #[.agg (pq (.slice (some ⟨gl, 0, none⟩) zl.length ac) (.slice (some ⟨gr, 0, none⟩) zr.length bc) true true), .bool true]) (by simp [results, Try.results10, go_sem, r0, r1, r2, r3, hne, hne2]) rfl ⟨some ⟨gl, 0, none⟩, ac, some ⟨gr, 0, none⟩, bc, ?_, ?_, ?_⟩
            · simp
            · simp only [World.size_setCell, List.length_set, World.size_alloc]
              have hh := HF.out
              refine Pw.wide (lo := w3.heap.size) (hi := w4.heap.size) ?_ (by omega) (by omega)
              iterate 4 (refine Pw.set ?_ (by omega))
              exact HF.out.1
            · have hle : w.heap.size ≤ w.heap.size + 1 := by omega
              have hh := HF.out
              iterate 4 (refine Below.setCell ?_ hle _)
              refine Below.setCell ?_ (by show w.heap.size ≤ gr; have := (hh.1.r.lt gr rfl).1; omega) _
              refine Below.setCell ?_ (by show w.heap.size ≤ gl; have := (hh.1.l.lt gl rfl).1; omega) _
              exact HF.out.2.1
          | false =>
            go_wp2_with fail
            refine (copyPair_any _ _ zl zr _ _ _ (HV.out.1.below hB2) (HV.out.2.below hB2) (by have := HN2.out.2; omega) (by have := HN2.out.2; omega)).mono ?_
            rintro e w4 ⟨ad, ac, bd, bc, rfl, hP, hb4⟩
            obtain ⟨ad', ac', e1, hg⟩ := hP.l.form
            simp only [Value.slice.injEq, true_and] at e1
            obtain ⟨rfl, rfl⟩ := e1
            obtain ⟨gl, rfl⟩ := hg (by omega)
            clear hg
            have hA : Below w4.heap.size w4 (w4.alloc (.cells (pq (.slice (some ⟨gl, 0, none⟩) zl.length ac) (.slice bd zr.length bc) true false) 26)) := (Below.refl _ _).alloc (Nat.le_refl _) _
            have hq := heap_alloc_new w4 (.cells (pq (.slice (some ⟨gl, 0, none⟩) zl.length ac) (.slice bd zr.length bc) true false) 26)
            have hb5 := hb4.trans (hA.mono hb4.size)
            have hB5 := hB2.trans (hb5.mono hB2.size)
            have hs4 := hb4.size
            have p5 := (hb5.block _ (by have := lt_of_block p3; omega)).trans p3
            obtain ⟨_, y0, y1, y2, y3⟩ := row4_facts ((hb5.block _ (lt_of_block p4)).trans p4)
            have hP2 := hP.below hA
            have hz : (w4.alloc (.cells (pq (.slice (some ⟨gl, 0, none⟩) zl.length ac) (.slice bd zr.length bc) true false) 26)).heap.size = w4.heap.size + 1 := by simp
            have hne : ¬ w.heap.size + 1 = w4.heap.size := by omega
            have hne2 : ¬ w4.heap.size = w.heap.size + 1 := by omega
            have hne0 : ¬ w.heap.size = w4.heap.size := by omega
            have hne1 : ¬ w4.heap.size = w.heap.size := by omega
            obtain ⟨fq, z0, z1, z2, z3⟩ := row4_facts hq
            obtain ⟨fr, r0, r1, r2, r3⟩ := row4_facts p5
            have kl := hP2.l.lt gl rfl
            have kl2 := hP2.lh gl rfl
            have hP3 := hP2.putL hj1 value
            obtain ⟨_, fl, ol, hol⟩ := hP2.l.put hj1 value
            have nl1 : ¬ gl = w4.heap.size := by omega
            have nl2 : ¬ w4.heap.size = gl := by omega
            have nl3 : ¬ gl = w.heap.size + 1 := by omega
            have nl4 : ¬ w.heap.size + 1 = gl := by omega
            have nl5 : ¬ gl = w.heap.size := by omega
            have nl6 : ¬ w.heap.size = gl := by omega
            have HF := hide (And.intro hP3 (And.intro hB5 (And.intro hz (And.intro hs1 (And.intro hs2 hs4)))))
            clear hP hP2 hb4 hA hb5 hB5 hB2 p3 p4 p5 hq hz hs1 hs2 hs4 HN HN2 HV hj x0 x1 x2 x3 hP3 kl kl2
            go_wp2
            refine bodyPost_ret (v := .tuple #[.agg (pq (.slice (some ⟨gl, 0, none⟩) zl.length ac) (.slice bd zr.length bc) true false), .bool true]) (by simp [results, Try.results10, go_sem, r0, r1, r2, r3, hne, hne2]) rfl ⟨some ⟨gl, 0, none⟩, ac, bd, bc, ?_, ?_, ?_⟩
            · simp
            · simp only [World.size_setCell, List.length_set, World.size_alloc]
              have hh := HF.out
              refine Pw.wide (lo := w3.heap.size) (hi := w4.heap.size) ?_ (by omega) (by omega)
              iterate 4 (refine Pw.set ?_ (by omega))
              exact HF.out.1
            · have hle : w.heap.size ≤ w.heap.size + 1 := by omega
              have hh := HF.out
              iterate 4 (refine Below.setCell ?_ hle _)
              refine Below.setCell ?_ (by show w.heap.size ≤ gl; have := (hh.1.l.lt gl rfl).1; omega) _
              exact HF.out.2.1
        | false =>
          cases ru with
          | false => exact absurd hj (by rw [HN2.out.1.2.2 (by first | rfl | trivial) (by first | rfl | trivial)]; omega)
          | true =>
            have hj2 : j < zr.length := by rw [HN2.out.1.2.1 (by first | rfl | trivial)]; exact hj
            go_wp2_with fail
            refine (copyPair_any _ _ zl zr _ _ _ (HV.out.1.below hB2) (HV.out.2.below hB2) (by have := HN2.out.2; omega) (by have := HN2.out.2; omega)).mono ?_
            rintro e w4 ⟨ad, ac, bd, bc, rfl, hP, hb4⟩
            obtain ⟨bd', bc', e1, hg⟩ := hP.r.form
            simp only [Value.slice.injEq, true_and] at e1
            obtain ⟨rfl, rfl⟩ := e1
            obtain ⟨gr, rfl⟩ := hg (by omega)
            clear hg
            have hA : Below w4.heap.size w4 (w4.alloc (.cells (pq (.slice ad zl.length ac) (.slice (some ⟨gr, 0, none⟩) zr.length bc) false true) 26)) := (Below.refl _ _).alloc (Nat.le_refl _) _
            have hq := heap_alloc_new w4 (.cells (pq (.slice ad zl.length ac) (.slice (some ⟨gr, 0, none⟩) zr.length bc) false true) 26)
            have hb5 := hb4.trans (hA.mono hb4.size)
            have hB5 := hB2.trans (hb5.mono hB2.size)
            have hs4 := hb4.size
            have p5 := (hb5.block _ (by have := lt_of_block p3; omega)).trans p3
            obtain ⟨_, y0, y1, y2, y3⟩ := row4_facts ((hb5.block _ (lt_of_block p4)).trans p4)
            have hP2 := hP.below hA
            have hz : (w4.alloc (.cells (pq (.slice ad zl.length ac) (.slice (some ⟨gr, 0, none⟩) zr.length bc) false true) 26)).heap.size = w4.heap.size + 1 := by simp
            have hne : ¬ w.heap.size + 1 = w4.heap.size := by omega
            have hne2 : ¬ w4.heap.size = w.heap.size + 1 := by omega
            have hne0 : ¬ w.heap.size = w4.heap.size := by omega
            have hne1 : ¬ w4.heap.size = w.heap.size := by omega
            obtain ⟨fq, z0, z1, z2, z3⟩ := row4_facts hq
            obtain ⟨fr, r0, r1, r2, r3⟩ := row4_facts p5
            have kr := hP2.r.lt gr rfl
            have kr2 := hP2.rh gr rfl
            have hP4 := hP2.putR hj2 value
            obtain ⟨_, fs, os, hos⟩ := hP2.r.put hj2 value
            have nr1 : ¬ gr = w4.heap.size := by omega
            have nr2 : ¬ w4.heap.size = gr := by omega
            have nr3 : ¬ gr = w.heap.size + 1 := by omega
            have nr4 : ¬ w.heap.size + 1 = gr := by omega
            have nr5 : ¬ gr = w.heap.size := by omega
            have nr6 : ¬ w.heap.size = gr := by omega
            have HF := hide (And.intro hP4 (And.intro hB5 (And.intro hz (And.intro hs1 (And.intro hs2 hs4)))))
            clear hP hP2 hb4 hA hb5 hB5 hB2 p3 p4 p5 hq hz hs1 hs2 hs4 HN HN2 HV hj x0 x1 x2 x3 hP4 kr kr2
            go_wp2
            refine bodyPost_ret (v := .tuple #[.agg (pq (.slice ad zl.length ac) (.slice (some ⟨gr, 0, none⟩) zr.length bc) false true), .bool true]) (by simp [results, Try.results10, go_sem, r0, r1, r2, r3, hne, hne2]) rfl ⟨ad, ac, some ⟨gr, 0, none⟩, bc, ?_, ?_, ?_⟩
            · simp
            · simp only [World.size_setCell, List.length_set, World.size_alloc]
              have hh := HF.out
              refine Pw.wide (lo := w3.heap.size) (hi := w4.heap.size) ?_ (by omega) (by omega)
              iterate 4 (refine Pw.set ?_ (by omega))
              exact HF.out.1
            · have hle : w.heap.size ≤ w.heap.size + 1 := by omega
              have hh := HF.out
              iterate 4 (refine Below.setCell ?_ hle _)
              refine Below.setCell ?_ (by show w.heap.size ≤ gr; have := (hh.1.r.lt gr rfl).1; omega) _
              exact HF.out.2.1

end Go.Proofs.Ytplnfddleaoimaa
