/- PairMend of both sides -/
import Derived.Test.YtplnfddleaoimaaPrK
namespace Go.Proofs.Ytplnfddleaoimaa
open Go.RowKit
set_option linter.unusedVariables false
set_option linter.unusedSimpArgs false

def aMend (zl zr : List Int) (lu ru : Bool) : PA :=
  if pairB zl zr lu ru && (lu || ru) then (if lu then ⟨zl, zl, true, true, true⟩ else ⟨zr, zr, true, true, true⟩) else PA.no
theorem aMend_len (zl zr : List Int) (lu ru : Bool) (h : zl.length + zr.length ≤ 1048576) : (aMend zl zr lu ru).zl.length + (aMend zl zr lu ru).zr.length ≤ 1048576 := by
  unfold aMend
  cases hb : pairB zl zr lu ru
  · show 0 + 0 ≤ 1048576; omega
  · have := pairB_len hb
    cases lu <;> cases ru <;> first | (show 0 + 0 ≤ 1048576; omega) | (show zr.length + zr.length ≤ 1048576; omega) | (show zl.length + zl.length ≤ 1048576; omega)
theorem aMend_no {zl zr : List Int} {lu ru : Bool} (h : (pairB zl zr lu ru && (lu || ru)) = false) : aMend zl zr lu ru = PA.no := by unfold aMend; rw [h]; rfl
theorem pairB_same {zl zr : List Int} (h : pairB zl zr true true = true) : zl = zr := by
  simp only [pairB, Bool.and_eq_true] at h
  simpa using h.2

set_option maxHeartbeats 8000000 in
theorem implMend_any (L R : Value) (zl zr : List Int) (lu ru : Bool) (w : World) (hl : Sl w L zl) (hr : Sl w R zr) (hn : zl.length + zr.length ≤ 1048576) :
    Calls Try.prog 18 #[.agg (pq L R lu ru)] w (Post w (aMend zl zr lu ru)) := by
  have HV := hide (And.intro hl hr)
  obtain ⟨ld, lc, rfl, _⟩ := hl
  obtain ⟨rd, rc, rfl, _⟩ := hr
  have hmo := fun W h k => mirrorsOf_any (.slice ld zl.length lc) (.slice rd zr.length rc) zl zr lu ru W h k hn
  have HL : Hid (pairB zl zr lu ru = true → zl.length ≤ 1000 ∧ zr.length ≤ 1000) := hide (fun h => by have := pairB_len h; omega)
  have HNo : Hid ((pairB zl zr lu ru && (lu || ru)) = false → aMend zl zr lu ru = PA.no) := hide aMend_no
  have HYl : Hid (pairB zl zr lu ru = true → lu = true → aMend zl zr lu ru = ⟨zl, zl, true, true, true⟩) := hide (fun h1 h2 => by subst h2; unfold aMend; rw [h1]; rfl)
  have HYr : Hid (pairB zl zr lu ru = true → lu = false → ru = true → aMend zl zr lu ru = ⟨zr, zr, true, true, true⟩) := hide (fun h1 h2 h3 => by subst h2 h3; unfold aMend; rw [h1]; rfl)
  generalize aMend zl zr lu ru = ans at HNo HYl HYr ⊢
  generalize pairB zl zr lu ru = b at hmo HNo HYl HYr HL
  have HE := two_boxes w (pq (.slice ld zl.length lc) (.slice rd zr.length rc) lu ru) (pq nilS nilS false false) 26 26
  clear hn
  go_enter Try.func18, Try.ntmps18
  go_wp2_with fail
  generalize hW : (World.alloc (World.alloc _ _) _) = W
  obtain ⟨p1, p2, hB0, hsz⟩ := HE.out W hW
  clear HE hW
  refine (hmo W (HV.out.1.below hB0) (HV.out.2.below hB0)).mono ?_
  rintro e w1 ⟨hyes, hno, hb1⟩
  have hB1 := hB0.trans (hb1.mono hB0.size)
  have p3 := (hb1.block _ (by omega)).trans p2
  have hs1 := hb1.size
  rw [hsz] at hs1
  clear hmo hB0 p1 p2 HV
  cases b with
  | false =>
    obtain rfl := hno rfl
    obtain rfl := HNo.out rfl
    clear hyes hno HNo HYl HYr HL
    have hA : Below w1.heap.size w1 (w1.alloc (.cells #[.pointer none, .pointer none] 50)) := (Below.refl _ _).alloc (Nat.le_refl _) _
    have hB2 := hB1.trans (hA.mono hB1.size)
    obtain ⟨fr, r0, r1, r2, r3⟩ := row4_facts ((hA.block _ (by omega)).trans p3)
    clear hb1 hA hB1 p3
    go_wp2
    refine bodyPost_ret (v := .tuple #[.agg (pq nilS nilS false false), .bool false]) (by simp [results, Try.results18, go_sem, r0, r1, r2, r3]) rfl (Post.no ?_)
    have hle : w.heap.size ≤ w.heap.size + 1 := by omega
    iterate 4 (refine Below.setCell ?_ hle _)
    exact hB2
  | true =>
    replace HL := hide (HL.out rfl)
    obtain ⟨Bl, Br, ad, ac, bd, bc, rfl, hM⟩ := hyes rfl
    clear hno hyes
    have hA : Below w1.heap.size w1 (w1.alloc (.cells #[pt Bl, pt Br] 50)) := (Below.refl _ _).alloc (Nat.le_refl _) _
    have hq := heap_alloc_new w1 (.cells #[pt Bl, pt Br] 50)
    have hB2 := hB1.trans (hA.mono hB1.size)
    have p4 := (hA.block _ (by omega)).trans p3
    have hM2 := (hM.below hA)
    obtain ⟨_, q0, q1⟩ := two_cells hq
    have hzz : (w1.alloc (.cells #[pt Bl, pt Br] 50)).heap.size = w1.heap.size + 1 := by simp
    have HX := hide (And.intro hM2 (And.intro hB2 (And.intro p4 (And.intro hzz hs1))))
    clear hM hM2 hA hB1 hB2 hb1 hq p3 p4 hzz hs1
    go_wp2_with fail
    generalize hZ : (World.alloc _ _) = Z at HX ⊢
    refine (up_any _ _ Bl Br _ _ zl zr lu ru Z HX.out.1).mono ?_
    rintro e w2 ⟨v, rfl, hpr, hb2⟩
    obtain ⟨hM3, hB3, p5, hzz, hs1⟩ := HX.out
    have hM4 := hM3.below hb2
    have hB4 := hB3.trans (hb2.mono hB3.size)
    have p6 := (hb2.block _ (by omega)).trans p5
    obtain ⟨ua, uc, e1, hcell⟩ := hpr.form
    subst e1
    have hs2 := hb2.size
    have HX2 := hide (And.intro hM4 (And.intro hB4 (And.intro p6 (And.intro hzz (And.intro hs1 hs2)))))
    clear HX hM3 hM4 hB3 hB4 p5 p6 hb2 hpr q0 q1 hZ hzz hs1 hs2
    cases lu with
    | true =>
      obtain rfl := HYl.out (by first | rfl | trivial) (by first | rfl | trivial)
      clear HYl HYr HNo
      obtain ⟨g, rfl, hc⟩ := hcell (by cases ru <;> exact Nat.succ_pos _)
      have hc0 : w2.cell? ⟨g, 0, none⟩ = some (pt Bl) := by have := hc 0 (by cases ru <;> exact Nat.succ_pos _); cases ru <;> exact this
      have hc1 : w2.cell? ⟨Bl, 0, none⟩ = some (.slice ad zl.length ac) := (side_facts HX2.out.1.bl).2.1
      obtain ⟨k, hk, hkl⟩ : ∃ k, (ups true ru Bl Br).length = k ∧ 0 < k := ⟨_, rfl, by cases ru <;> exact Nat.succ_pos _⟩
      have hne : ¬ ((k : Int) = 0) := by omega
      rw [hk]
      clear hc hcell hk
      go_wp2_with fail
      refine (twice_any _ zl w2 HX2.out.1.ol.sl HL.out.1).mono ?_
      rintro e w3 ⟨td, tc, sd, sc, rfl, hP, hb3⟩
      obtain ⟨hM5, hB5, p7, hzz, hs1, hs2⟩ := HX2.out
      have hB6 := hB5.trans (hb3.mono hB5.size)
      have p8 := (hb3.block _ (by omega)).trans p7
      obtain ⟨fr, r0, r1, r2, r3⟩ := row4_facts p8
      have hs3 := hb3.size
      have HF := hide (And.intro hP (And.intro hB6 (And.intro hzz (And.intro hs1 (And.intro hs2 hs3)))))
      clear HX2 hM5 hB5 p7 p8 hB6 hP hb3 hc0 hc1 hzz hs1 hs2 hs3 hne hkl
      go_wp2
      refine bodyPost_ret (v := .tuple #[.agg (pq (.slice td zl.length tc) (.slice sd zl.length sc) true true), .bool true]) (by simp [results, Try.results18, go_sem, r0, r1, r2, r3]) rfl ⟨td, tc, sd, sc, rfl, ?_, ?_⟩
      · simp only [World.size_setCell]
        have hh := HF.out
        refine Pw.wide (lo := w2.heap.size) (hi := w3.heap.size) ?_ (by omega) (Nat.le_refl _)
        iterate 4 (refine Pw.set ?_ (by omega))
        exact HF.out.1
      · have hle : w.heap.size ≤ w.heap.size + 1 := by omega
        iterate 4 (refine Below.setCell ?_ hle _)
        exact HF.out.2.1
    | false =>
      cases ru with
      | true =>
        obtain rfl := HYr.out (by first | rfl | trivial) (by first | rfl | trivial) (by first | rfl | trivial)
        clear HYl HYr HNo
        obtain ⟨g, rfl, hc⟩ := hcell (Nat.succ_pos _)
        have hc0 : w2.cell? ⟨g, 0, none⟩ = some (pt Br) := hc 0 (Nat.succ_pos _)
        have hc1 : w2.cell? ⟨Br, 0, none⟩ = some (.slice bd zr.length bc) := (side_facts HX2.out.1.br).2.1
        obtain ⟨k, hk, hkl⟩ : ∃ k, (ups false true Bl Br).length = k ∧ 0 < k := ⟨_, rfl, Nat.succ_pos _⟩
        have hne : ¬ ((k : Int) = 0) := by omega
        rw [hk]
        clear hc hcell hk
        go_wp2_with fail
        refine (twice_any _ zr w2 HX2.out.1.or.sl HL.out.2).mono ?_
        rintro e w3 ⟨td, tc, sd, sc, rfl, hP, hb3⟩
        obtain ⟨hM5, hB5, p7, hzz, hs1, hs2⟩ := HX2.out
        have hB6 := hB5.trans (hb3.mono hB5.size)
        have p8 := (hb3.block _ (by omega)).trans p7
        obtain ⟨fr, r0, r1, r2, r3⟩ := row4_facts p8
        have hs3 := hb3.size
        have HF := hide (And.intro hP (And.intro hB6 (And.intro hzz (And.intro hs1 (And.intro hs2 hs3)))))
        clear HX2 hM5 hB5 p7 p8 hB6 hP hb3 hc0 hc1 hzz hs1 hs2 hs3 hne hkl
        go_wp2
        refine bodyPost_ret (v := .tuple #[.agg (pq (.slice td zr.length tc) (.slice sd zr.length sc) true true), .bool true]) (by simp [results, Try.results18, go_sem, r0, r1, r2, r3]) rfl ⟨td, tc, sd, sc, rfl, ?_, ?_⟩
        · simp only [World.size_setCell]
          have hh := HF.out
          refine Pw.wide (lo := w2.heap.size) (hi := w3.heap.size) ?_ (by omega) (Nat.le_refl _)
          iterate 4 (refine Pw.set ?_ (by omega))
          exact HF.out.1
        · have hle : w.heap.size ≤ w.heap.size + 1 := by omega
          iterate 4 (refine Below.setCell ?_ hle _)
          exact HF.out.2.1
      | false =>
        obtain rfl := HNo.out (by first | rfl | simp)
        clear HYl HYr HNo hcell
        have he : (ups false false Bl Br).length = 0 := rfl
        rw [he]
        obtain ⟨fr, r0, r1, r2, r3⟩ := row4_facts HX2.out.2.2.1
        go_wp2
        refine bodyPost_ret (v := .tuple #[.agg (pq nilS nilS false false), .bool false]) (by simp [results, Try.results18, go_sem, r0, r1, r2, r3]) rfl (Post.no ?_)
        have hle : w.heap.size ≤ w.heap.size + 1 := by omega
        iterate 4 (refine Below.setCell ?_ hle _)
        exact HX2.out.2.1

end Go.Proofs.Ytplnfddleaoimaa
