/- HmH -/
import Derived.Test.YtlalldlbgnlbjaaGreatDoorYomeGot27
/- the model of a home: a line copied, granted, begun (written by mkHmH.py) -/
namespace Go.Proofs.YtlalldlbgnlbjaaGreatDoor
open Go.RowKit
set_option linter.unusedVariables false
set_option linter.unusedSimpArgs false

/-- a row's form: nothing and no room, or a place and room -/
def Gf (v : Value) (n : Nat) : Prop := (∃ ad, v = .slice ad 0 0 ∧ n = 0) ∨ ∃ g off k, v = .slice (some ⟨g, off, none⟩) n k ∧ n ≤ k
theorem Gf.form {v : Value} {n : Nat} (h : Gf v n) : ∃ a c, v = .slice a n c ∧ n ≤ c := by
  rcases h with ⟨ad, rfl, rfl⟩ | ⟨g, off, k, rfl, h⟩
  · exact ⟨ad, 0, rfl, Nat.le_refl _⟩
  · exact ⟨_, _, rfl, h⟩
theorem Rg.gf {w : World} {base n : Nat} {v : Value} {m : Nat} {f : Nat → Nat → Value} (h : Rg w base v m n f) : Gf v n := by
  rcases h with ⟨⟨ad, rfl⟩, rfl⟩ | ⟨g, off, k, rfl, h1, _⟩
  · exact .inl ⟨ad, rfl, rfl⟩
  · exact .inr ⟨g, off, k, rfl, h1⟩
theorem append_zero (W : World) (t ty e : TypeId) (i0 : TypeInfo) (ht : Tryz.prog.underlying t = some (.slice e)) (hi : Tryz.prog.info? e = some i0) (ad bd : Option Addr) (n k c : Nat) (h : n ≤ k) : (Builtin.append_ #[t, t] ty #[.slice ad n k, .slice bd 0 c]).run Tryz.prog W = .ok (.slice ad n k) W := by
  cases ad <;> cases bd <;> simp [Builtin.append_, run_underlying ht, sizeOf, typeInfo, hi, h, Builtin.lenOf, Builtin.firstCells, loadCells, loadCellsFrom, storeCells]
/-- a row appended to an empty one -/
theorem app_copy (W : World) (m n bytes g : Nat) (row : Value) (f : Nat → Nat → Value) (t ty e : TypeId) (i0 : TypeInfo) (z : Value) (ht : Tryz.prog.underlying t = some (.slice e)) (hi : Tryz.prog.info? e = some i0) (hz0 : i0.zero = some z) (hz1 : i0.size = m) (hz2 : i0.bytes = bytes) (hzs : z.cells.size = m) (hm : 0 < m) (hf : Gf row n) (hs : Sg W row m n f) (hn : n ≤ maxLen) (hby : n * bytes ≤ 140737488355328) :
    ∃ v w', (Builtin.append_ #[t, t] ty #[.slice (some ⟨g, 0, none⟩) 0 0, row]).run Tryz.prog W = .ok v w' ∧ Mv nob W w' ∧ Rg w' W.heap.size v m n f := by
  obtain ⟨a, c, rfl, hc⟩ := hf.form
  by_cases h0 : n = 0
  · subst h0
    exact ⟨_, _, append_zero W t ty e i0 ht hi _ _ 0 0 c (Nat.le_refl _), Mv.refl _ _, .inl ⟨⟨_, rfl⟩, rfl⟩⟩
  · rcases hf with ⟨ad, e, hz⟩ | ⟨g2, off, k, e, q1⟩
    · exact absurd hz h0
    · simp only [Value.slice.injEq, true_and] at e
      obtain ⟨rfl, rfl⟩ := e
      obtain ⟨v', w', hrn, hown, hgr⟩ := run_append_arg_grows (P := Tryz.prog) W t ty _ i0 z m bytes ht hi hz0 hz1 hz2 hzs hm ⟨g, 0, none⟩ 0 0 [] (by simp) (by simp) ⟨g2, off, none⟩ n c (rowG m n f) (rowG_len _ _ _) (Rg.news hm hs) (by omega) (by omega) (by rw [Nat.zero_add]; exact hby)
      refine ⟨v', w', hrn, Mv.of_below ⟨hgr.os, hgr.tape, hgr.output, hgr.size, fun j hj => hgr.block j hj (by simp)⟩, ?_⟩
      have := own_rg (f := f) hown (fun x hx => by simpa using rowG_get (m := m) (n := n) (f := f) (by simpa using hx))
      simpa using this

theorem copy_ids (W : World) (n g : Nat) (row : Value) (f : Nat → Nat → Int) (ty : TypeId) (hf : Gf row n) (hs : Sg W row 1 n (gF f)) (hn : n ≤ 1048576) : ∃ v w', (Builtin.append_ #[22, 22] ty #[.slice (some ⟨g, 0, none⟩) 0 0, row]).run Tryz.prog W = .ok v w' ∧ Mv nob W w' ∧ Rg w' W.heap.size v 1 n (gF f) := by
  obtain ⟨i0, hi, hz0, hz1, hz2⟩ := info_parts Tryz.info2
  exact app_copy W 1 n 8 g row _ _ ty 2 i0 _ Tryz.underlying22 hi hz0 hz1 hz2 rfl (by decide) hf hs (by unfold maxLen; omega) (by omega)
theorem copy_reqs (W : World) (n g : Nat) (row : Value) (f : Nat → Nat → Int) (ty : TypeId) (hf : Gf row n) (hs : Sg W row 2 n (gF f)) (hn : n ≤ 1048576) : ∃ v w', (Builtin.append_ #[29, 29] ty #[.slice (some ⟨g, 0, none⟩) 0 0, row]).run Tryz.prog W = .ok v w' ∧ Mv nob W w' ∧ Rg w' W.heap.size v 2 n (gF f) := by
  obtain ⟨i0, hi, hz0, hz1, hz2⟩ := info_parts infoReq
  exact app_copy W 2 n 16 g row _ _ ty 71 i0 _ Tryz.underlying29 hi hz0 hz1 hz2 rfl (by decide) hf hs (by unfold maxLen; omega) (by omega)
/-- a line and messages, their rows above a place -/
abbrev LnQ (w : World) (base : Nat) (sv qv : Value) (X : Hm.Ln) (M : List Hm.Mg) (B : Bool) : Ending → World → Prop := fun e w' => ∃ sa sc qa qc ta tc, e = .returned (.tuple #[.agg #[.int .i64 X.mem, .int .i64 X.own, .slice sa X.sh.length sc, .int .i64 X.bu, .int .i64 X.wt, .int .i64 X.ac, .slice qa X.q.length qc], .slice ta M.length tc, .bool B]) ∧
  Rg w' base (.slice sa X.sh.length sc) 1 X.sh.length (gF (f1 X.sh)) ∧ Rg w' base (.slice qa X.q.length qc) 2 X.q.length (gF (f2 X.q)) ∧ Rg w' base (.slice ta M.length tc) 6 M.length (gF (f6 M)) ∧ Apt (.slice sa X.sh.length sc) (.slice qa X.q.length qc) (.slice ta M.length tc) ∧ (∀ g, (rb (.slice sa X.sh.length sc) = some g ∨ rb (.slice qa X.q.length qc) = some g ∨ rb (.slice ta M.length tc) = some g) → (rb sv = some g ∨ rb qv = some g) ∨ w.heap.size ≤ g) ∧ Below w.heap.size w w'

theorem f6_one {w : World} {b : Nat} {k f t l wt d : Int} (h : w.heap[b]? = some (.cells #[.int .i64 k, .int .i64 f, .int .i64 t, .int .i64 l, .int .i64 wt, .int .i64 d] 36 (0, 0))) (x : Nat) (hx : x < 1 * 6) : w.cell? ⟨b, 0 + x, none⟩ = some (gF (f6 [[k, f, t, l, wt, d]]) (x / 6) (x % 6)) := by
  match x, hx with
  | 0, _ => exact cell_box 0 h rfl
  | 1, _ => exact cell_box 1 h rfl
  | 2, _ => exact cell_box 2 h rfl
  | 3, _ => exact cell_box 3 h rfl
  | 4, _ => exact cell_box 4 h rfl
  | 5, _ => exact cell_box 5 h rfl
set_option maxRecDepth 20000 in
set_option maxHeartbeats 2000000 in
theorem l4Copy_any (L : Hm.Ln) (sa : Option Addr) (sc : Nat) (qa : Option Addr) (qc : Nat) (w : World) (hs : Sg w (.slice sa L.sh.length sc) 1 L.sh.length (gF (f1 L.sh))) (hfs : Gf (.slice sa L.sh.length sc) L.sh.length) (hq : Sg w (.slice qa L.q.length qc) 2 L.q.length (gF (f2 L.q))) (hfq : Gf (.slice qa L.q.length qc) L.q.length) (hsl : L.sh.length ≤ 1048576) (hql : L.q.length ≤ 1048576) :
    Calls Tryz.prog 28 #[.agg #[.int .i64 L.mem, .int .i64 L.own, .slice sa L.sh.length sc, .int .i64 L.bu, .int .i64 L.wt, .int .i64 L.ac, .slice qa L.q.length qc]] w (fun e w' => ∃ sa' sc' qa' qc', e = .returned (.agg #[.int .i64 L.mem, .int .i64 L.own, .slice sa' L.sh.length sc', .int .i64 L.bu, .int .i64 L.wt, .int .i64 L.ac, .slice qa' L.q.length qc']) ∧ Rg w' w.heap.size (.slice sa' L.sh.length sc') 1 L.sh.length (gF (f1 L.sh)) ∧ Rg w' w.heap.size (.slice qa' L.q.length qc') 2 L.q.length (gF (f2 L.q)) ∧ (∀ g, rb (.slice sa' L.sh.length sc') = some g → rb (.slice qa' L.q.length qc') ≠ some g) ∧ Below w.heap.size w w') := by
  have hs0 := hide hs; have hq0 := hide hq; clear hs hq
  have HB : Hid (Mv nob w w) := hide (Mv.refl _ _)
  go_enter Tryz.func28, Tryz.ntmps28
  refine sk fun K1 h1 => rl ?_
  refine sbp #[.int .i64 L.mem, .int .i64 L.own, .slice sa L.sh.length sc, .int .i64 L.bu, .int .i64 L.wt, .int .i64 L.ac, .slice qa L.q.length qc] 31 fun V1 b0 hb0 m1 bx0 => ?_
  have o_0 : w.heap.size ≤ b0 := by omega
  clear hb0
  refine sbp #[.int .i64 0, .int .i64 0, .slice none 0 0, .int .i64 0, .int .i64 0, .int .i64 0, .slice none 0 0] 31 fun V2 b1 hb1 m2 bx1 => ?_
  have o0_1 := Xlo bx0 hb1
  clear hb1
  refine nt (h1 _ _ (sk fun K2 h2 => rl ?_)); clear h1 K1
  refine sbs 0 #[] 2 fun V3 b2 hb2 m3 bx2 => ?_
  have o1_2 := Xlo bx1 hb2
  clear hb2
  refine sv (.pointer (some ⟨b0, 2, none⟩)) ?_
  replace bx0 := Xbn (Xbn bx0 m2) m3
  refine sl 2 bx0 ?_
  replace HB := Xhn (Xhn (Xhn HB m1) m2) m3
  have szV := HB.out.size
  replace bx1 := Xbn bx1 m3
  have b1z := lt_of_block bx1.out
  have szTRS := lt_of_block bx2.out
  obtain ⟨u0, V4, hrun, hmv, hrg⟩ := copy_ids V3 _ b2 _ _ 22 hfs (hs0.out.below HB.out.below) hsl
  have m4 : Mv (nob) V3 V4 := hmv
  refine sw_valW (by rfl) (run_append_op _ _ 22 (by rfl) (by rfl) (by rfl) hrun) ?_
  refine pt ?_
  obtain ⟨sa1, sc1, rfl, _⟩ := hrg.form
  have RSb : ∀ g, rb (.slice sa1 L.sh.length sc1) = some g → b0 < g ∧ b1 < g := fun g e => by have := (hrg.lt g e).1; omega
  have RSn := fun g e => (hrg.lt g e).1
  have RS := hide (hrg.base szV)
  clear hrun hrg hmv bx2
  refine sv (.pointer (some ⟨b0, 2, none⟩)) ?_
  replace bx0 := Xbn bx0 m4
  refine ss 2 (.slice sa1 L.sh.length sc1) bx0 fun V5 m5 bx0 => ?_
  replace RS := hide (RS.out.mv m5 (fun g e h => by have h : g = b0 := h; have := RSb g e; omega))
  refine nt (h2 _ _ (sk fun K3 h3 => rl ?_)); clear h2 K2
  replace HB := Xhb (Xhn HB m4) m5; replace bx1 := Xbb (Xbn bx1 m4) m5
  have szQ := HB.out.size
  clear szV b1z
  have rsl2 : ∀ g, rb (.slice sa1 L.sh.length sc1) = some g → g < V5.heap.size := fun g e => (RS.out.lt g e).2
  refine sbs 0 #[] 71 fun V6 b2 hb2 m6 bx2 => ?_
  have o1_2 := Xlo bx1 hb2
  have e2_b2 := hb2
  replace RS := hide (RS.out.mv m6 (fun _ _ h => h))
  clear hb2
  refine sv (.pointer (some ⟨b0, 6, none⟩)) ?_
  replace bx0 := Xbn bx0 m6
  refine sl 6 bx0 ?_
  replace HB := Xhn HB m6
  have szV := HB.out.size
  replace bx1 := Xbn bx1 m6
  have b1z := lt_of_block bx1.out
  have szTRQ := lt_of_block bx2.out
  obtain ⟨u0, V7, hrun, hmv, hrg⟩ := copy_reqs V6 _ b2 _ _ 29 hfq (hq0.out.below HB.out.below) hql
  have m7 : Mv (nob) V6 V7 := hmv
  refine sw_valW (by rfl) (run_append_op _ _ 29 (by rfl) (by rfl) (by rfl) hrun) ?_
  refine pt ?_
  replace RS := hide (RS.out.mv m7 (fun _ _ h => h))
  obtain ⟨qa1, qc1, rfl, _⟩ := hrg.form
  have RQb : ∀ g, rb (.slice qa1 L.q.length qc1) = some g → b0 < g ∧ b1 < g := fun g e => by have := (hrg.lt g e).1; omega
  have RQn := fun g e => (hrg.lt g e).1
  have RQ := hide (hrg.base szV)
  clear hrun hrg hmv bx2
  refine sv (.pointer (some ⟨b0, 6, none⟩)) ?_
  replace bx0 := Xbn bx0 m7
  refine ss 6 (.slice qa1 L.q.length qc1) bx0 fun V8 m8 bx0 => ?_
  replace RS := hide (RS.out.mv m8 (fun g e h => by have h : g = b0 := h; have := RSb g e; omega))
  replace RQ := hide (RQ.out.mv m8 (fun g e h => by have h : g = b0 := h; have := RQb g e; omega))
  refine nt (h3 _ _ (sk fun K4 h4 => rl ?_)); clear h3 K3
  replace HB := Xhb (Xhn HB m7) m8; replace bx1 := Xbb (Xbn bx1 m7) m8
  refine sg (.agg #[.int .i64 L.mem, .int .i64 L.own, .slice sa1 L.sh.length sc1, .int .i64 L.bu, .int .i64 L.wt, .int .i64 L.ac, .slice qa1 L.q.length qc1]) (h := by have z0 := cell_box 0 (bx0.out) rfl; have z1 := cell_box 1 (bx0.out) rfl; have z2 := cell_box 2 (bx0.out) rfl; have z3 := cell_box 3 (bx0.out) rfl; have z4 := cell_box 4 (bx0.out) rfl; have z5 := cell_box 5 (bx0.out) rfl; have z6 := cell_box 6 (bx0.out) rfl; go_simp) ?_
  refine ss7 (.int .i64 L.mem) (.int .i64 L.own) (.slice sa1 L.sh.length sc1) (.int .i64 L.bu) (.int .i64 L.wt) (.int .i64 L.ac) (.slice qa1 L.q.length qc1) bx1 fun V9 m9 bx1 => ?_
  replace RS := hide (RS.out.mv m9 (fun g e h => by have h : g = b1 := h; have := RSb g e; omega))
  replace RQ := hide (RQ.out.mv m9 (fun g e h => by have h : g = b1 := h; have := RQb g e; omega))
  refine nt (h4 _ _ (wp_ret ?_)); clear h4 K4
  replace HB := Xhb HB m9; replace bx0 := Xbb bx0 m9
  have q1_0 := cell_box 0 bx1.out rfl
  have q1_1 := cell_box 1 bx1.out rfl
  have q1_2 := cell_box 2 bx1.out rfl
  have q1_3 := cell_box 3 bx1.out rfl
  have q1_4 := cell_box 4 bx1.out rfl
  have q1_5 := cell_box 5 bx1.out rfl
  have q1_6 := cell_box 6 bx1.out rfl
  exact bodyPost_ret (v := .agg #[.int .i64 L.mem, .int .i64 L.own, .slice sa1 L.sh.length sc1, .int .i64 L.bu, .int .i64 L.wt, .int .i64 L.ac, .slice qa1 L.q.length qc1]) (by simp [results, Tryz.results28, go_sem, q1_0, q1_1, q1_2, q1_3, q1_4, q1_5, q1_6]) rfl ⟨_, _, _, _, rfl, RS.out, RQ.out, fun g e e2 => by have := rsl2 g e; have := RQn g e2; omega, HB.out.below⟩

set_option maxRecDepth 20000 in
set_option maxHeartbeats 2000000 in
theorem l4Grant_r (line c : Int) (base : Nat) (L : Hm.Ln) (sa : Option Addr) (sc : Nat) (qa : Option Addr) (qc : Nat) (w : World) (hs : Rg w base (.slice sa L.sh.length sc) 1 L.sh.length (gF (f1 L.sh))) (hq : Rg w base (.slice qa L.q.length qc) 2 L.q.length (gF (f2 L.q))) (hap : ∀ g, rb (.slice sa L.sh.length sc) = some g → rb (.slice qa L.q.length qc) ≠ some g) (hbw : base ≤ w.heap.size) (hok : Ids.ok L.sh = true) (hc1 : 1 ≤ c) (hc5 : c ≤ 5) :
    Calls Tryz.prog 62 #[.agg #[.int .i64 L.mem, .int .i64 L.own, .slice sa L.sh.length sc, .int .i64 L.bu, .int .i64 L.wt, .int .i64 L.ac, .slice qa L.q.length qc], .int .i64 line, .agg #[.int .i64 c, .int .i64 1]] w (fun e w' => ∃ sa' sc' qa' qc' ta' tc', e = .returned (.tuple #[.agg #[.int .i64 ({ L with sh := Ids.withId L.sh c, bu := 0, wt := 0, ac := 0 } : Hm.Ln).mem, .int .i64 ({ L with sh := Ids.withId L.sh c, bu := 0, wt := 0, ac := 0 } : Hm.Ln).own, .slice sa' ({ L with sh := Ids.withId L.sh c, bu := 0, wt := 0, ac := 0 } : Hm.Ln).sh.length sc', .int .i64 ({ L with sh := Ids.withId L.sh c, bu := 0, wt := 0, ac := 0 } : Hm.Ln).bu, .int .i64 ({ L with sh := Ids.withId L.sh c, bu := 0, wt := 0, ac := 0 } : Hm.Ln).wt, .int .i64 ({ L with sh := Ids.withId L.sh c, bu := 0, wt := 0, ac := 0 } : Hm.Ln).ac, .slice qa' ({ L with sh := Ids.withId L.sh c, bu := 0, wt := 0, ac := 0 } : Hm.Ln).q.length qc'], .slice ta' 1 tc']) ∧ Rg w' base (.slice sa' ({ L with sh := Ids.withId L.sh c, bu := 0, wt := 0, ac := 0 } : Hm.Ln).sh.length sc') 1 ({ L with sh := Ids.withId L.sh c, bu := 0, wt := 0, ac := 0 } : Hm.Ln).sh.length (gF (f1 ({ L with sh := Ids.withId L.sh c, bu := 0, wt := 0, ac := 0 } : Hm.Ln).sh)) ∧ Rg w' base (.slice qa' ({ L with sh := Ids.withId L.sh c, bu := 0, wt := 0, ac := 0 } : Hm.Ln).q.length qc') 2 ({ L with sh := Ids.withId L.sh c, bu := 0, wt := 0, ac := 0 } : Hm.Ln).q.length (gF (f2 ({ L with sh := Ids.withId L.sh c, bu := 0, wt := 0, ac := 0 } : Hm.Ln).q)) ∧ Rg w' base (.slice ta' 1 tc') 6 1 (gF (f6 [Hm.mGrant c line 1 L.mem])) ∧ Apt (.slice sa' ({ L with sh := Ids.withId L.sh c, bu := 0, wt := 0, ac := 0 } : Hm.Ln).sh.length sc') (.slice qa' ({ L with sh := Ids.withId L.sh c, bu := 0, wt := 0, ac := 0 } : Hm.Ln).q.length qc') (.slice ta' 1 tc') ∧ (∀ g, (rb (.slice sa' ({ L with sh := Ids.withId L.sh c, bu := 0, wt := 0, ac := 0 } : Hm.Ln).sh.length sc') = some g ∨ rb (.slice qa' ({ L with sh := Ids.withId L.sh c, bu := 0, wt := 0, ac := 0 } : Hm.Ln).q.length qc') = some g ∨ rb (.slice ta' 1 tc') = some g) → (rb (.slice sa L.sh.length sc) = some g ∨ rb (.slice qa L.q.length qc) = some g) ∨ w.heap.size ≤ g) ∧ (∀ g, rb (.slice ta' 1 tc') = some g → w.heap.size ≤ g) ∧ Below w.heap.size w w') := by
  have HB : Hid (Mv nob w w) := hide (Mv.refl _ _)
  have hl5 := ok_len hok
  have RSl := fun g e => (hs.lt g e).2
  have RQl := fun g e => (hq.lt g e).2
  have RS := hide hs; have RQ := hide hq; clear hs hq
  go_enter Tryz.func62, Tryz.ntmps62
  refine sk fun K1 h1 => rl ?_
  refine sbp #[.int .i64 L.mem, .int .i64 L.own, .slice sa L.sh.length sc, .int .i64 L.bu, .int .i64 L.wt, .int .i64 L.ac, .slice qa L.q.length qc] 31 fun V1 b0 hb0 m1 bx0 => ?_
  have o_0 : w.heap.size ≤ b0 := by omega
  replace RS := hide (RS.out.mv m1 (fun _ _ h => h))
  replace RQ := hide (RQ.out.mv m1 (fun _ _ h => h))
  clear hb0
  refine sbp #[.int .i64 c, .int .i64 1] 71 fun V2 b1 hb1 m2 bx1 => ?_
  have o0_1 := Xlo bx0 hb1
  replace RS := hide (RS.out.mv m2 (fun _ _ h => h))
  replace RQ := hide (RQ.out.mv m2 (fun _ _ h => h))
  clear hb1
  refine sbp #[.int .i64 0, .int .i64 0, .slice none 0 0, .int .i64 0, .int .i64 0, .int .i64 0, .slice none 0 0] 31 fun V3 b2 hb2 m3 bx2 => ?_
  have o1_2 := Xlo bx1 hb2
  replace RS := hide (RS.out.mv m3 (fun _ _ h => h))
  replace RQ := hide (RQ.out.mv m3 (fun _ _ h => h))
  clear hb2
  refine sv (.slice none 0 0) ?_
  refine nt (h1 _ _ (sk fun K2 h2 => sk fun K3 h3 => rl ?_)); clear h1 K1
  refine sv (.pointer (some ⟨b1, 1, none⟩)) ?_
  replace bx1 := Xbn bx1 m3
  refine sl 1 bx1 ?_
  refine sg (.bool true) ?_
  refine nt (h3 _ _ (ct (rl ?_))); clear h3 K3
  refine sv (.pointer (some ⟨b0, 2, none⟩)) ?_
  replace bx0 := Xbn (Xbn bx0 m2) m3
  refine sl 2 bx0 ?_
  refine sv (.pointer (some ⟨b1, 0, none⟩)) ?_
  refine sl 0 bx1 ?_
  replace HB := Xhn (Xhn (Xhn HB m1) m2) m3
  have szV := HB.out.size
  have b2z := lt_of_block bx2.out
  refine sw_call (by rfl) (by first | rfl | (go_simp; done)) (l1With_any _ L.sh c V3 (sg_sl RS.out.sg) (by omega)) ?_
  rintro e V4 ⟨u0, rfl, how, hbl⟩
  have m4 : Mv (nob) V3 V4 := Mv.of_below hbl
  refine ⟨_, rfl, ?_⟩
  refine pt ?_
  replace RS := hide (RS.out.mv m4 (fun _ _ h => h))
  replace RQ := hide (RQ.out.mv m4 (fun _ _ h => h))
  have RN := hide ((ow_rg how).base (Nat.le_trans hbw szV))
  have RNn := fun g e => ((ow_rg how).lt g e).1
  obtain ⟨na, nc, rfl, _⟩ := RN.out.form
  have RNb : ∀ g, rb (.slice na (Ids.withId L.sh c).length nc) = some g → b0 < g ∧ b1 < g ∧ b2 < g := fun g e => by have := RNn g e; omega
  have RNq : ∀ g, rb (.slice na (Ids.withId L.sh c).length nc) = some g → rb (.slice qa L.q.length qc) ≠ some g := fun g e e2 => by have := RNn g e; have := RQl g e2; omega
  clear how hbl
  refine sv (.pointer (some ⟨b0, 2, none⟩)) ?_
  replace bx0 := Xbn bx0 m4
  refine ss 2 (.slice na (Ids.withId L.sh c).length nc) bx0 fun V5 m5 bx0 => ?_
  replace RS := hide (RS.out.mv m5 (fun g e h => by have h : g = b0 := h; have := RSl g e; omega))
  replace RQ := hide (RQ.out.mv m5 (fun g e h => by have h : g = b0 := h; have := RQl g e; omega))
  replace RN := hide (RN.out.mv m5 (fun g e h => by have h : g = b0 := h; have := RNb g e; omega))
  refine nt (h2 _ _ (sk fun K4 h4 => rl ?_)); clear h2 K2
  replace HB := Xhb (Xhn HB m4) m5; replace bx1 := Xbb (Xbn bx1 m4) m5; replace bx2 := Xbb (Xbn bx2 m4) m5
  clear RS
  refine sv (.pointer (some ⟨b0, 3, none⟩)) ?_
  refine ss 3 (.int .i64 0) bx0 fun V6 m6 bx0 => ?_
  replace RQ := hide (RQ.out.mv m6 (fun g e h => by have h : g = b0 := h; have := RQl g e; omega))
  replace RN := hide (RN.out.mv m6 (fun g e h => by have h : g = b0 := h; have := RNb g e; omega))
  refine nt (h4 _ _ (sk fun K5 h5 => rl ?_)); clear h4 K4
  refine sv (.pointer (some ⟨b0, 4, none⟩)) ?_
  refine ss 4 (.int .i64 0) bx0 fun V7 m7 bx0 => ?_
  replace RQ := hide (RQ.out.mv m7 (fun g e h => by have h : g = b0 := h; have := RQl g e; omega))
  replace RN := hide (RN.out.mv m7 (fun g e h => by have h : g = b0 := h; have := RNb g e; omega))
  refine nt (h5 _ _ (sk fun K6 h6 => rl ?_)); clear h5 K5
  refine sv (.pointer (some ⟨b0, 5, none⟩)) ?_
  refine ss 5 (.int .i64 0) bx0 fun V8 m8 bx0 => ?_
  replace RQ := hide (RQ.out.mv m8 (fun g e h => by have h : g = b0 := h; have := RQl g e; omega))
  replace RN := hide (RN.out.mv m8 (fun g e h => by have h : g = b0 := h; have := RNb g e; omega))
  refine nt (h6 _ _ (sk fun K7 h7 => ?_)); clear h6 K6
  replace HB := Xhb (Xhb (Xhb HB m6) m7) m8; replace bx1 := Xbb (Xbb (Xbb bx1 m6) m7) m8; replace bx2 := Xbb (Xbb (Xbb bx2 m6) m7) m8
  have szW := HB.out.size
  refine wp_region_but (z := 999) (S := fun w' => Mv (fun x => x = b2) V8.drew w') (by kernel_rfl) (Mv.refl _ _) (fun hS => ?_)
  have m9 : Mv nob V8 V8.drew := Mv.drew _
  obtain ⟨V9, hN⟩ : ∃ V, V8.drew = V := ⟨_, rfl⟩
  rw [hN] at hS m9 ⊢
  clear hN
  replace RQ := hide (RQ.out.mv m9 (fun _ _ h => h))
  replace RN := hide (RN.out.mv m9 (fun _ _ h => h))
  replace bx0 := Xbn bx0 m9; replace bx1 := Xbn bx1 m9
  have rbx0 := bx0; have rbx1 := bx1
  refine tk 0 (.agg #[.int .i64 L.mem, .int .i64 L.own, .slice na (Ids.withId L.sh c).length nc, .int .i64 0, .int .i64 0, .int .i64 0, .slice qa L.q.length qc]) rfl (fun w' hSw => by (try dsimp only at hSw); have z0 := cell_box 0 (hSw.box rbx0.out (show ¬ (b0 = b2) by omega)) rfl; have z1 := cell_box 1 (hSw.box rbx0.out (show ¬ (b0 = b2) by omega)) rfl; have z2 := cell_box 2 (hSw.box rbx0.out (show ¬ (b0 = b2) by omega)) rfl; have z3 := cell_box 3 (hSw.box rbx0.out (show ¬ (b0 = b2) by omega)) rfl; have z4 := cell_box 4 (hSw.box rbx0.out (show ¬ (b0 = b2) by omega)) rfl; have z5 := cell_box 5 (hSw.box rbx0.out (show ¬ (b0 = b2) by omega)) rfl; have z6 := cell_box 6 (hSw.box rbx0.out (show ¬ (b0 = b2) by omega)) rfl; go_simp) ?_
  refine tk0 1 (.pointer (some ⟨b1, 0, none⟩)) rfl ?_
  refine tk 2 (.int .i64 c) rfl (fun w' hSw => by (try dsimp only at hSw); have z0 := cell_box 0 (hSw.box rbx1.out (show ¬ (b1 = b2) by omega)) rfl; go_simp) ?_
  refine tk0 3 (.int .i64 line) rfl ?_
  refine tk0 4 (.pointer (some ⟨b1, 1, none⟩)) rfl ?_
  refine tk 5 (.int .i64 1) rfl (fun w' hSw => by (try dsimp only at hSw); have z0 := cell_box 1 (hSw.box rbx1.out (show ¬ (b1 = b2) by omega)) rfl; go_simp) ?_
  refine tk0 6 (.pointer (some ⟨b0, 0, none⟩)) rfl ?_
  refine tk 7 (.int .i64 L.mem) rfl (fun w' hSw => by (try dsimp only at hSw); have z0 := cell_box 0 (hSw.box rbx0.out (show ¬ (b0 = b2) by omega)) rfl; go_simp) ?_
  refine tk0 8 (.agg #[.int .i64 8, .int .i64 0, .int .i64 c, .int .i64 line, .int .i64 1, .int .i64 L.mem]) rfl ?_
  replace HB := Xhn HB m9; replace bx2 := Xbn bx2 m9
  refine kd_each2 (l := [9, 10]) (by kernel_rfl) rfl ⟨?_, ?_, trivial⟩
  · refine .inl ?_
    refine ⟨_, rfl, by rfl, .inl ⟨.slice (some ⟨V9.heap.size, 0, none⟩) 1 1, V9.alloc (.cells #[.int .i64 8, .int .i64 0, .int .i64 c, .int .i64 line, .int .i64 1, .int .i64 L.mem] 36), (by first | rfl | go_simp), fun _ => hS.step (Mv.alloc _ _) (fun _ _ h => h.elim), ?_⟩⟩
    have m10 : Mv nob V9 (V9.alloc (.cells #[.int .i64 8, .int .i64 0, .int .i64 c, .int .i64 line, .int .i64 1, .int .i64 L.mem] 36)) := Mv.alloc _ _
    have nx := heap_alloc_new V9 (.cells #[.int .i64 8, .int .i64 0, .int .i64 c, .int .i64 line, .int .i64 1, .int .i64 L.mem] 36)
    obtain ⟨V10, hN⟩ : ∃ V, V9.alloc (.cells #[.int .i64 8, .int .i64 0, .int .i64 c, .int .i64 line, .int .i64 1, .int .i64 L.mem] 36) = V := ⟨_, rfl⟩
    rw [hN] at m10 nx ⊢
    clear hN
    refine ptk ?_
    obtain ⟨b3, hb3⟩ : ∃ b3, V9.heap.size = b3 := ⟨_, rfl⟩
    rw [hb3] at nx ⊢
    have o2_3 := Xlo bx2 hb3
    have eq_b3 := hb3
    have rqx := fun g e => (RQ.out.lt g e).2
    have rnx := fun g e => (RN.out.lt g e).2
    replace RQ := hide (RQ.out.mv m10 (fun _ _ h => h))
    replace RN := hide (RN.out.mv m10 (fun _ _ h => h))
    have bx3 := hide nx
    clear nx
    replace hS := hS.step m10 (fun _ _ h => h.elim)
    clear hb3
    refine wpAnyK_re (S' := fun w' => Mv (fun x => x = b2) V10 w') (fun w' h => hS.step h (fun _ _ h => h)) ?_
    replace hS : Mv (fun x => x = b2) V10 V10 := Mv.refl _ _
    replace bx0 := Xbn bx0 m10; replace bx1 := Xbn bx1 m10
    have rbx0 := bx0; have rbx1 := bx1; have rbx3 := bx3
    replace bx2 := Xbn bx2 m10
    refine kd_skipI (i := 10) (w' := ((((((V10.setCell ⟨b2, 0, none⟩ (.int .i64 L.mem)).setCell ⟨b2, 1, none⟩ (.int .i64 L.own)).setCell ⟨b2, 2, none⟩ (.slice na (Ids.withId L.sh c).length nc)).setCell ⟨b2, 3, none⟩ (.int .i64 0)).setCell ⟨b2, 4, none⟩ (.int .i64 0)).setCell ⟨b2, 5, none⟩ (.int .i64 0)).setCell ⟨b2, 6, none⟩ (.slice qa L.q.length qc)) (fun V => Mv (fun g => g = b2) V10 V ∧ V.heap[b2]? = some (.cells #[.int .i64 L.mem, .int .i64 L.own, .slice na (Ids.withId L.sh c).length nc, .int .i64 0, .int .i64 0, .int .i64 0, .slice qa L.q.length qc] 31 (0, 0))) (by kernel_rfl) rfl (by rfl) (by have fr := fun i => frozen_of_row _ _ i _ _ bx2.out; have z0 := cell_box 0 bx2.out rfl; have z1 := cell_box 1 bx2.out rfl; have z2 := cell_box 2 bx2.out rfl; have z3 := cell_box 3 bx2.out rfl; have z4 := cell_box 4 bx2.out rfl; have z5 := cell_box 5 bx2.out rfl; have z6 := cell_box 6 bx2.out rfl; go_simp) ⟨Mv.set (Mv.set (Mv.set (Mv.set (Mv.set (Mv.set (Mv.set (Mv.refl _ _) _ _) _ _) _ _) _ _) _ _) _ _) _ _, (heap_setCell_same _ _ 6 _ _ _ (heap_setCell_same _ _ 5 _ _ _ (heap_setCell_same _ _ 4 _ _ _ (heap_setCell_same _ _ 3 _ _ _ (heap_setCell_same _ _ 2 _ _ _ (heap_setCell_same _ _ 1 _ _ _ (heap_setCell_same _ _ 0 _ _ _ (bx2.out)))))))).trans rfl⟩ (fun V hI _ => hS.step hI.1 (fun _ _ h => h)) ?_
    rintro V11 ⟨m11, nxV11⟩
    refine ptk ?_
    replace RQ := hide (RQ.out.mv m11 (fun g e h => by have h : g = b2 := h; have := RQl g e; omega))
    replace RN := hide (RN.out.mv m11 (fun g e h => by have h : g = b2 := h; have := RNb g e; omega))
    replace bx2 := hide nxV11
    clear nxV11
    replace hS := hS.step m11 (fun _ _ h => h)
    refine tk0 11 (.slice (some ⟨b3, 0, none⟩) 1 1) rfl ?_
    refine wpAnyK_done (by kernel_rfl) ?_
    clear hS rbx0 rbx1 rbx3
    refine then_normal (h7 _ _ (wp_ret ?_)); clear h7 K7
    replace HB := Xhb (Xhn HB m10) m11; replace bx0 := Xbb bx0 m11; replace bx1 := Xbb bx1 m11; replace bx3 := Xbb bx3 m11
    have q2_0 := cell_box 0 bx2.out rfl
    have q2_1 := cell_box 1 bx2.out rfl
    have q2_2 := cell_box 2 bx2.out rfl
    have q2_3 := cell_box 3 bx2.out rfl
    have q2_4 := cell_box 4 bx2.out rfl
    have q2_5 := cell_box 5 bx2.out rfl
    have q2_6 := cell_box 6 bx2.out rfl
    exact bodyPost_ret (v := .tuple #[.agg #[.int .i64 L.mem, .int .i64 L.own, .slice na (Ids.withId L.sh c).length nc, .int .i64 0, .int .i64 0, .int .i64 0, .slice qa L.q.length qc], .slice (some ⟨b3, 0, none⟩) 1 1]) (by simp [results, Tryz.results62, go_sem, q2_0, q2_1, q2_2, q2_3, q2_4, q2_5, q2_6]) rfl ⟨_, _, _, _, _, _, rfl, RN.out, RQ.out, .inr ⟨_, 0, 1, rfl, Nat.le_refl _, by decide, by decide, by omega, ⟨_, _, bx3.out, by simp⟩, fun x hx => (f6_one bx3.out x hx)⟩, ⟨fun g e => ⟨RNq g e, fun e2 => by have e3 : b3 = g := rb_blk e2; have := rnx g e; omega⟩, fun g e e2 => by have e3 : b3 = g := rb_blk e2; have := rqx g e; omega⟩, fun g h => h.elim (fun e => .inr (Nat.le_trans szV (RNn g e))) (fun h => h.elim (fun e => .inl (.inr e)) (fun e => .inr (by have e3 : b3 = g := rb_blk e; omega))), fun g e => (by have e3 : b3 = g := rb_blk e; omega), HB.out.below⟩
  · obtain ⟨V12, hN⟩ : ∃ V, (((((((V9).setCell ⟨b2, 0, none⟩ (.int .i64 L.mem)).setCell ⟨b2, 1, none⟩ (.int .i64 L.own)).setCell ⟨b2, 2, none⟩ (.slice na (Ids.withId L.sh c).length nc)).setCell ⟨b2, 3, none⟩ (.int .i64 0)).setCell ⟨b2, 4, none⟩ (.int .i64 0)).setCell ⟨b2, 5, none⟩ (.int .i64 0)).setCell ⟨b2, 6, none⟩ (.slice qa L.q.length qc) = V := ⟨_, rfl⟩
    have m12 : Mv (fun g => g = b2) V9 V12 := by rw [← hN]; exact Mv.set (Mv.set (Mv.set (Mv.set (Mv.set (Mv.set (Mv.set (Mv.refl _ _) _ _) _ _) _ _) _ _) _ _) _ _) _ _
    have nx : V12.heap[b2]? = some (.cells #[.int .i64 L.mem, .int .i64 L.own, .slice na (Ids.withId L.sh c).length nc, .int .i64 0, .int .i64 0, .int .i64 0, .slice qa L.q.length qc] 31 (0, 0)) := by rw [← hN]; exact (heap_setCell_same _ _ 6 _ _ _ (heap_setCell_same _ _ 5 _ _ _ (heap_setCell_same _ _ 4 _ _ _ (heap_setCell_same _ _ 3 _ _ _ (heap_setCell_same _ _ 2 _ _ _ (heap_setCell_same _ _ 1 _ _ _ (heap_setCell_same _ _ 0 _ _ _ (bx2.out)))))))).trans rfl
    refine .inr ⟨_, rfl, by rfl, V12, (by rw [← hN]; have fr := fun i => frozen_of_row _ _ i _ _ bx2.out; have z0 := cell_box 0 bx2.out rfl; have z1 := cell_box 1 bx2.out rfl; have z2 := cell_box 2 bx2.out rfl; have z3 := cell_box 3 bx2.out rfl; have z4 := cell_box 4 bx2.out rfl; have z5 := cell_box 5 bx2.out rfl; have z6 := cell_box 6 bx2.out rfl; go_simp), ?_⟩
    clear hN
    replace hS := hS.step m12 (fun _ _ h => h)
    refine ⟨fun _ => hS, ?_⟩
    refine ptk ?_
    replace RQ := hide (RQ.out.mv m12 (fun g e h => by have h : g = b2 := h; have := RQl g e; omega))
    replace RN := hide (RN.out.mv m12 (fun g e h => by have h : g = b2 := h; have := RNb g e; omega))
    replace bx2 := hide nx; clear nx
    refine kd_valI (i := 9) (v := .slice (some ⟨V12.heap.size, 0, none⟩) 1 1) (w' := V12.alloc (.cells #[.int .i64 8, .int .i64 0, .int .i64 c, .int .i64 line, .int .i64 1, .int .i64 L.mem] 36)) (fun V => Mv nob V12 V ∧ V.heap[V12.heap.size]? = some (.cells #[.int .i64 8, .int .i64 0, .int .i64 c, .int .i64 line, .int .i64 1, .int .i64 L.mem] 36 (0, 0))) (by kernel_rfl) rfl (by rfl) (by first | rfl | go_simp) ⟨Mv.alloc _ _, heap_alloc_new _ _⟩ (fun V hI _ => hS.step hI.1 (fun _ _ h => h.elim)) ?_
    rintro V13 ⟨m13, nx⟩
    refine ptk ?_
    obtain ⟨b3, hb3⟩ : ∃ b3, V12.heap.size = b3 := ⟨_, rfl⟩
    rw [hb3] at nx ⊢
    have o2_3 := Xlo bx2 hb3
    have eq_b3 := hb3
    have rqx := fun g e => (RQ.out.lt g e).2
    have rnx := fun g e => (RN.out.lt g e).2
    replace RQ := hide (RQ.out.mv m13 (fun _ _ h => h))
    replace RN := hide (RN.out.mv m13 (fun _ _ h => h))
    have bx3 := hide nx
    clear nx
    replace hS := hS.step m13 (fun _ _ h => h.elim)
    clear hb3
    refine wpAnyK_re (S' := fun w' => Mv (fun x => x = b2) V13 w') (fun w' h => hS.step h (fun _ _ h => h)) ?_
    replace hS : Mv (fun x => x = b2) V13 V13 := Mv.refl _ _
    replace bx0 := Xbn (Xbb bx0 m12) m13; replace bx1 := Xbn (Xbb bx1 m12) m13
    have rbx0 := bx0; have rbx1 := bx1; have rbx3 := bx3
    refine tk0 11 (.slice (some ⟨b3, 0, none⟩) 1 1) rfl ?_
    refine wpAnyK_done (by kernel_rfl) ?_
    clear hS rbx0 rbx1 rbx3
    refine then_normal (h7 _ _ (wp_ret ?_)); clear h7 K7
    replace HB := Xhn (Xhb HB m12) m13; replace bx2 := Xbn bx2 m13
    have q2_0 := cell_box 0 bx2.out rfl
    have q2_1 := cell_box 1 bx2.out rfl
    have q2_2 := cell_box 2 bx2.out rfl
    have q2_3 := cell_box 3 bx2.out rfl
    have q2_4 := cell_box 4 bx2.out rfl
    have q2_5 := cell_box 5 bx2.out rfl
    have q2_6 := cell_box 6 bx2.out rfl
    exact bodyPost_ret (v := .tuple #[.agg #[.int .i64 L.mem, .int .i64 L.own, .slice na (Ids.withId L.sh c).length nc, .int .i64 0, .int .i64 0, .int .i64 0, .slice qa L.q.length qc], .slice (some ⟨b3, 0, none⟩) 1 1]) (by simp [results, Tryz.results62, go_sem, q2_0, q2_1, q2_2, q2_3, q2_4, q2_5, q2_6]) rfl ⟨_, _, _, _, _, _, rfl, RN.out, RQ.out, .inr ⟨_, 0, 1, rfl, Nat.le_refl _, by decide, by decide, by omega, ⟨_, _, bx3.out, by simp⟩, fun x hx => (f6_one bx3.out x hx)⟩, ⟨fun g e => ⟨RNq g e, fun e2 => by have e3 : b3 = g := rb_blk e2; have := rnx g e; omega⟩, fun g e e2 => by have e3 : b3 = g := rb_blk e2; have := rqx g e; omega⟩, fun g h => h.elim (fun e => .inr (Nat.le_trans szV (RNn g e))) (fun h => h.elim (fun e => .inl (.inr e)) (fun e => .inr (by have e3 : b3 = g := rb_blk e; omega))), fun g e => (by have e3 : b3 = g := rb_blk e; omega), HB.out.below⟩

set_option maxRecDepth 20000 in
set_option maxHeartbeats 2000000 in
theorem l4Grant_w (line c t : Int) (base : Nat) (L : Hm.Ln) (sa : Option Addr) (sc : Nat) (qa : Option Addr) (qc : Nat) (w : World) (hs : Rg w base (.slice sa L.sh.length sc) 1 L.sh.length (gF (f1 L.sh))) (hq : Rg w base (.slice qa L.q.length qc) 2 L.q.length (gF (f2 L.q))) (hap : ∀ g, rb (.slice sa L.sh.length sc) = some g → rb (.slice qa L.q.length qc) ≠ some g) (hbw : base ≤ w.heap.size) (hok : Ids.ok L.sh = true) (hc1 : 1 ≤ c) (hc5 : c ≤ 5) (ht : ¬ t = 1) :
    Calls Tryz.prog 62 #[.agg #[.int .i64 L.mem, .int .i64 L.own, .slice sa L.sh.length sc, .int .i64 L.bu, .int .i64 L.wt, .int .i64 L.ac, .slice qa L.q.length qc], .int .i64 line, .agg #[.int .i64 c, .int .i64 t]] w (fun e w' => ∃ sa' sc' qa' qc' ta' tc', e = .returned (.tuple #[.agg #[.int .i64 ({ L with own := c, sh := [], bu := 0, wt := 0, ac := 0 } : Hm.Ln).mem, .int .i64 ({ L with own := c, sh := [], bu := 0, wt := 0, ac := 0 } : Hm.Ln).own, .slice sa' ({ L with own := c, sh := [], bu := 0, wt := 0, ac := 0 } : Hm.Ln).sh.length sc', .int .i64 ({ L with own := c, sh := [], bu := 0, wt := 0, ac := 0 } : Hm.Ln).bu, .int .i64 ({ L with own := c, sh := [], bu := 0, wt := 0, ac := 0 } : Hm.Ln).wt, .int .i64 ({ L with own := c, sh := [], bu := 0, wt := 0, ac := 0 } : Hm.Ln).ac, .slice qa' ({ L with own := c, sh := [], bu := 0, wt := 0, ac := 0 } : Hm.Ln).q.length qc'], .slice ta' 1 tc']) ∧ Rg w' base (.slice sa' ({ L with own := c, sh := [], bu := 0, wt := 0, ac := 0 } : Hm.Ln).sh.length sc') 1 ({ L with own := c, sh := [], bu := 0, wt := 0, ac := 0 } : Hm.Ln).sh.length (gF (f1 ({ L with own := c, sh := [], bu := 0, wt := 0, ac := 0 } : Hm.Ln).sh)) ∧ Rg w' base (.slice qa' ({ L with own := c, sh := [], bu := 0, wt := 0, ac := 0 } : Hm.Ln).q.length qc') 2 ({ L with own := c, sh := [], bu := 0, wt := 0, ac := 0 } : Hm.Ln).q.length (gF (f2 ({ L with own := c, sh := [], bu := 0, wt := 0, ac := 0 } : Hm.Ln).q)) ∧ Rg w' base (.slice ta' 1 tc') 6 1 (gF (f6 [Hm.mGrant c line t L.mem])) ∧ Apt (.slice sa' ({ L with own := c, sh := [], bu := 0, wt := 0, ac := 0 } : Hm.Ln).sh.length sc') (.slice qa' ({ L with own := c, sh := [], bu := 0, wt := 0, ac := 0 } : Hm.Ln).q.length qc') (.slice ta' 1 tc') ∧ (∀ g, (rb (.slice sa' ({ L with own := c, sh := [], bu := 0, wt := 0, ac := 0 } : Hm.Ln).sh.length sc') = some g ∨ rb (.slice qa' ({ L with own := c, sh := [], bu := 0, wt := 0, ac := 0 } : Hm.Ln).q.length qc') = some g ∨ rb (.slice ta' 1 tc') = some g) → (rb (.slice sa L.sh.length sc) = some g ∨ rb (.slice qa L.q.length qc) = some g) ∨ w.heap.size ≤ g) ∧ (∀ g, rb (.slice ta' 1 tc') = some g → w.heap.size ≤ g) ∧ Below w.heap.size w w') := by
  have HB : Hid (Mv nob w w) := hide (Mv.refl _ _)
  have hl5 := ok_len hok
  have RSl := fun g e => (hs.lt g e).2
  have RQl := fun g e => (hq.lt g e).2
  have RS := hide hs; have RQ := hide hq; clear hs hq
  go_enter Tryz.func62, Tryz.ntmps62
  refine sk fun K1 h1 => rl ?_
  refine sbp #[.int .i64 L.mem, .int .i64 L.own, .slice sa L.sh.length sc, .int .i64 L.bu, .int .i64 L.wt, .int .i64 L.ac, .slice qa L.q.length qc] 31 fun V1 b0 hb0 m1 bx0 => ?_
  have o_0 : w.heap.size ≤ b0 := by omega
  replace RS := hide (RS.out.mv m1 (fun _ _ h => h))
  replace RQ := hide (RQ.out.mv m1 (fun _ _ h => h))
  clear hb0
  refine sbp #[.int .i64 c, .int .i64 t] 71 fun V2 b1 hb1 m2 bx1 => ?_
  have o0_1 := Xlo bx0 hb1
  replace RS := hide (RS.out.mv m2 (fun _ _ h => h))
  replace RQ := hide (RQ.out.mv m2 (fun _ _ h => h))
  clear hb1
  refine sbp #[.int .i64 0, .int .i64 0, .slice none 0 0, .int .i64 0, .int .i64 0, .int .i64 0, .slice none 0 0] 31 fun V3 b2 hb2 m3 bx2 => ?_
  have o1_2 := Xlo bx1 hb2
  replace RS := hide (RS.out.mv m3 (fun _ _ h => h))
  replace RQ := hide (RQ.out.mv m3 (fun _ _ h => h))
  clear hb2
  refine sv (.slice none 0 0) ?_
  refine nt (h1 _ _ (sk fun K2 h2 => sk fun K3 h3 => rl ?_)); clear h1 K1
  refine sv (.pointer (some ⟨b1, 1, none⟩)) ?_
  replace bx1 := Xbn bx1 m3
  refine sl 1 bx1 ?_
  refine sg (.bool false) (h := by have hd : (t == 1) = false := (by simpa using ht); go_simp) ?_
  refine nt (h3 _ _ (cf (sk fun K4 h4 => rl ?_))); clear h3 K3
  refine sv (.pointer (some ⟨b1, 0, none⟩)) ?_
  refine sl 0 bx1 ?_
  refine sv (.pointer (some ⟨b0, 1, none⟩)) ?_
  replace bx0 := Xbn (Xbn bx0 m2) m3
  refine ss 1 (.int .i64 c) bx0 fun V4 m4 bx0 => ?_
  replace RS := hide (RS.out.mv m4 (fun g e h => by have h : g = b0 := h; have := RSl g e; omega))
  replace RQ := hide (RQ.out.mv m4 (fun g e h => by have h : g = b0 := h; have := RQl g e; omega))
  refine nt (h4 _ _ (rl ?_)); clear h4 K4
  refine sv (.pointer (some ⟨b0, 2, none⟩)) ?_
  refine ss 2 (.slice none 0 0) bx0 fun V5 m5 bx0 => ?_
  replace RS := hide (RS.out.mv m5 (fun g e h => by have h : g = b0 := h; have := RSl g e; omega))
  replace RQ := hide (RQ.out.mv m5 (fun g e h => by have h : g = b0 := h; have := RQl g e; omega))
  refine nt (h2 _ _ (sk fun K5 h5 => rl ?_)); clear h2 K2
  refine sv (.pointer (some ⟨b0, 3, none⟩)) ?_
  refine ss 3 (.int .i64 0) bx0 fun V6 m6 bx0 => ?_
  replace RS := hide (RS.out.mv m6 (fun g e h => by have h : g = b0 := h; have := RSl g e; omega))
  replace RQ := hide (RQ.out.mv m6 (fun g e h => by have h : g = b0 := h; have := RQl g e; omega))
  refine nt (h5 _ _ (sk fun K6 h6 => rl ?_)); clear h5 K5
  refine sv (.pointer (some ⟨b0, 4, none⟩)) ?_
  refine ss 4 (.int .i64 0) bx0 fun V7 m7 bx0 => ?_
  replace RS := hide (RS.out.mv m7 (fun g e h => by have h : g = b0 := h; have := RSl g e; omega))
  replace RQ := hide (RQ.out.mv m7 (fun g e h => by have h : g = b0 := h; have := RQl g e; omega))
  refine nt (h6 _ _ (sk fun K7 h7 => rl ?_)); clear h6 K6
  refine sv (.pointer (some ⟨b0, 5, none⟩)) ?_
  refine ss 5 (.int .i64 0) bx0 fun V8 m8 bx0 => ?_
  replace RS := hide (RS.out.mv m8 (fun g e h => by have h : g = b0 := h; have := RSl g e; omega))
  replace RQ := hide (RQ.out.mv m8 (fun g e h => by have h : g = b0 := h; have := RQl g e; omega))
  refine nt (h7 _ _ (sk fun K8 h8 => ?_)); clear h7 K7
  replace HB := Xhb (Xhb (Xhb (Xhb (Xhb (Xhn (Xhn (Xhn HB m1) m2) m3) m4) m5) m6) m7) m8; replace bx1 := Xbb (Xbb (Xbb (Xbb (Xbb bx1 m4) m5) m6) m7) m8; replace bx2 := Xbb (Xbb (Xbb (Xbb (Xbb bx2 m4) m5) m6) m7) m8
  have szW := HB.out.size
  refine wp_region_but (z := 999) (S := fun w' => Mv (fun x => x = b2) V8.drew w') (by kernel_rfl) (Mv.refl _ _) (fun hS => ?_)
  have m9 : Mv nob V8 V8.drew := Mv.drew _
  obtain ⟨V9, hN⟩ : ∃ V, V8.drew = V := ⟨_, rfl⟩
  rw [hN] at hS m9 ⊢
  clear hN
  replace RS := hide (RS.out.mv m9 (fun _ _ h => h))
  replace RQ := hide (RQ.out.mv m9 (fun _ _ h => h))
  replace bx0 := Xbn bx0 m9; replace bx1 := Xbn bx1 m9
  have rbx0 := bx0; have rbx1 := bx1
  refine tk 0 (.agg #[.int .i64 L.mem, .int .i64 c, .slice none 0 0, .int .i64 0, .int .i64 0, .int .i64 0, .slice qa L.q.length qc]) rfl (fun w' hSw => by (try dsimp only at hSw); have z0 := cell_box 0 (hSw.box rbx0.out (show ¬ (b0 = b2) by omega)) rfl; have z1 := cell_box 1 (hSw.box rbx0.out (show ¬ (b0 = b2) by omega)) rfl; have z2 := cell_box 2 (hSw.box rbx0.out (show ¬ (b0 = b2) by omega)) rfl; have z3 := cell_box 3 (hSw.box rbx0.out (show ¬ (b0 = b2) by omega)) rfl; have z4 := cell_box 4 (hSw.box rbx0.out (show ¬ (b0 = b2) by omega)) rfl; have z5 := cell_box 5 (hSw.box rbx0.out (show ¬ (b0 = b2) by omega)) rfl; have z6 := cell_box 6 (hSw.box rbx0.out (show ¬ (b0 = b2) by omega)) rfl; go_simp) ?_
  refine tk0 1 (.pointer (some ⟨b1, 0, none⟩)) rfl ?_
  refine tk 2 (.int .i64 c) rfl (fun w' hSw => by (try dsimp only at hSw); have z0 := cell_box 0 (hSw.box rbx1.out (show ¬ (b1 = b2) by omega)) rfl; go_simp) ?_
  refine tk0 3 (.int .i64 line) rfl ?_
  refine tk0 4 (.pointer (some ⟨b1, 1, none⟩)) rfl ?_
  refine tk 5 (.int .i64 t) rfl (fun w' hSw => by (try dsimp only at hSw); have z0 := cell_box 1 (hSw.box rbx1.out (show ¬ (b1 = b2) by omega)) rfl; go_simp) ?_
  refine tk0 6 (.pointer (some ⟨b0, 0, none⟩)) rfl ?_
  refine tk 7 (.int .i64 L.mem) rfl (fun w' hSw => by (try dsimp only at hSw); have z0 := cell_box 0 (hSw.box rbx0.out (show ¬ (b0 = b2) by omega)) rfl; go_simp) ?_
  refine tk0 8 (.agg #[.int .i64 8, .int .i64 0, .int .i64 c, .int .i64 line, .int .i64 t, .int .i64 L.mem]) rfl ?_
  replace HB := Xhn HB m9; replace bx2 := Xbn bx2 m9
  refine kd_each2 (l := [9, 10]) (by kernel_rfl) rfl ⟨?_, ?_, trivial⟩
  · refine .inl ?_
    refine ⟨_, rfl, by rfl, .inl ⟨.slice (some ⟨V9.heap.size, 0, none⟩) 1 1, V9.alloc (.cells #[.int .i64 8, .int .i64 0, .int .i64 c, .int .i64 line, .int .i64 t, .int .i64 L.mem] 36), (by first | rfl | go_simp), fun _ => hS.step (Mv.alloc _ _) (fun _ _ h => h.elim), ?_⟩⟩
    have m10 : Mv nob V9 (V9.alloc (.cells #[.int .i64 8, .int .i64 0, .int .i64 c, .int .i64 line, .int .i64 t, .int .i64 L.mem] 36)) := Mv.alloc _ _
    have nx := heap_alloc_new V9 (.cells #[.int .i64 8, .int .i64 0, .int .i64 c, .int .i64 line, .int .i64 t, .int .i64 L.mem] 36)
    obtain ⟨V10, hN⟩ : ∃ V, V9.alloc (.cells #[.int .i64 8, .int .i64 0, .int .i64 c, .int .i64 line, .int .i64 t, .int .i64 L.mem] 36) = V := ⟨_, rfl⟩
    rw [hN] at m10 nx ⊢
    clear hN
    refine ptk ?_
    obtain ⟨b3, hb3⟩ : ∃ b3, V9.heap.size = b3 := ⟨_, rfl⟩
    rw [hb3] at nx ⊢
    have o2_3 := Xlo bx2 hb3
    have eq_b3 := hb3
    have rqx := fun g e => (RQ.out.lt g e).2
    replace RS := hide (RS.out.mv m10 (fun _ _ h => h))
    replace RQ := hide (RQ.out.mv m10 (fun _ _ h => h))
    have bx3 := hide nx
    clear nx
    replace hS := hS.step m10 (fun _ _ h => h.elim)
    clear hb3
    refine wpAnyK_re (S' := fun w' => Mv (fun x => x = b2) V10 w') (fun w' h => hS.step h (fun _ _ h => h)) ?_
    replace hS : Mv (fun x => x = b2) V10 V10 := Mv.refl _ _
    replace bx0 := Xbn bx0 m10; replace bx1 := Xbn bx1 m10
    have rbx0 := bx0; have rbx1 := bx1; have rbx3 := bx3
    replace bx2 := Xbn bx2 m10
    refine kd_skipI (i := 10) (w' := ((((((V10.setCell ⟨b2, 0, none⟩ (.int .i64 L.mem)).setCell ⟨b2, 1, none⟩ (.int .i64 c)).setCell ⟨b2, 2, none⟩ (.slice none 0 0)).setCell ⟨b2, 3, none⟩ (.int .i64 0)).setCell ⟨b2, 4, none⟩ (.int .i64 0)).setCell ⟨b2, 5, none⟩ (.int .i64 0)).setCell ⟨b2, 6, none⟩ (.slice qa L.q.length qc)) (fun V => Mv (fun g => g = b2) V10 V ∧ V.heap[b2]? = some (.cells #[.int .i64 L.mem, .int .i64 c, .slice none 0 0, .int .i64 0, .int .i64 0, .int .i64 0, .slice qa L.q.length qc] 31 (0, 0))) (by kernel_rfl) rfl (by rfl) (by have fr := fun i => frozen_of_row _ _ i _ _ bx2.out; have z0 := cell_box 0 bx2.out rfl; have z1 := cell_box 1 bx2.out rfl; have z2 := cell_box 2 bx2.out rfl; have z3 := cell_box 3 bx2.out rfl; have z4 := cell_box 4 bx2.out rfl; have z5 := cell_box 5 bx2.out rfl; have z6 := cell_box 6 bx2.out rfl; go_simp) ⟨Mv.set (Mv.set (Mv.set (Mv.set (Mv.set (Mv.set (Mv.set (Mv.refl _ _) _ _) _ _) _ _) _ _) _ _) _ _) _ _, (heap_setCell_same _ _ 6 _ _ _ (heap_setCell_same _ _ 5 _ _ _ (heap_setCell_same _ _ 4 _ _ _ (heap_setCell_same _ _ 3 _ _ _ (heap_setCell_same _ _ 2 _ _ _ (heap_setCell_same _ _ 1 _ _ _ (heap_setCell_same _ _ 0 _ _ _ (bx2.out)))))))).trans rfl⟩ (fun V hI _ => hS.step hI.1 (fun _ _ h => h)) ?_
    rintro V11 ⟨m11, nxV11⟩
    refine ptk ?_
    replace RS := hide (RS.out.mv m11 (fun g e h => by have h : g = b2 := h; have := RSl g e; omega))
    replace RQ := hide (RQ.out.mv m11 (fun g e h => by have h : g = b2 := h; have := RQl g e; omega))
    replace bx2 := hide nxV11
    clear nxV11
    replace hS := hS.step m11 (fun _ _ h => h)
    refine tk0 11 (.slice (some ⟨b3, 0, none⟩) 1 1) rfl ?_
    refine wpAnyK_done (by kernel_rfl) ?_
    clear hS rbx0 rbx1 rbx3
    refine then_normal (h8 _ _ (wp_ret ?_)); clear h8 K8
    replace HB := Xhb (Xhn HB m10) m11; replace bx0 := Xbb bx0 m11; replace bx1 := Xbb bx1 m11; replace bx3 := Xbb bx3 m11
    have q2_0 := cell_box 0 bx2.out rfl
    have q2_1 := cell_box 1 bx2.out rfl
    have q2_2 := cell_box 2 bx2.out rfl
    have q2_3 := cell_box 3 bx2.out rfl
    have q2_4 := cell_box 4 bx2.out rfl
    have q2_5 := cell_box 5 bx2.out rfl
    have q2_6 := cell_box 6 bx2.out rfl
    exact bodyPost_ret (v := .tuple #[.agg #[.int .i64 L.mem, .int .i64 c, .slice none 0 0, .int .i64 0, .int .i64 0, .int .i64 0, .slice qa L.q.length qc], .slice (some ⟨b3, 0, none⟩) 1 1]) (by simp [results, Tryz.results62, go_sem, q2_0, q2_1, q2_2, q2_3, q2_4, q2_5, q2_6]) rfl ⟨_, _, _, _, _, _, rfl, rg_nil _ _ _ _, RQ.out, .inr ⟨_, 0, 1, rfl, Nat.le_refl _, by decide, by decide, by omega, ⟨_, _, bx3.out, by simp⟩, fun x hx => (f6_one bx3.out x hx)⟩, ⟨fun g e => absurd e (by simp [rb]), fun g e e2 => by have e3 : b3 = g := rb_blk e2; have := rqx g e; omega⟩, fun g h => h.elim (fun e => absurd e (by simp [rb])) (fun h => h.elim (fun e => .inl (.inr e)) (fun e => .inr (by have e3 : b3 = g := rb_blk e; omega))), fun g e => (by have e3 : b3 = g := rb_blk e; omega), HB.out.below⟩
  · obtain ⟨V12, hN⟩ : ∃ V, (((((((V9).setCell ⟨b2, 0, none⟩ (.int .i64 L.mem)).setCell ⟨b2, 1, none⟩ (.int .i64 c)).setCell ⟨b2, 2, none⟩ (.slice none 0 0)).setCell ⟨b2, 3, none⟩ (.int .i64 0)).setCell ⟨b2, 4, none⟩ (.int .i64 0)).setCell ⟨b2, 5, none⟩ (.int .i64 0)).setCell ⟨b2, 6, none⟩ (.slice qa L.q.length qc) = V := ⟨_, rfl⟩
    have m12 : Mv (fun g => g = b2) V9 V12 := by rw [← hN]; exact Mv.set (Mv.set (Mv.set (Mv.set (Mv.set (Mv.set (Mv.set (Mv.refl _ _) _ _) _ _) _ _) _ _) _ _) _ _) _ _
    have nx : V12.heap[b2]? = some (.cells #[.int .i64 L.mem, .int .i64 c, .slice none 0 0, .int .i64 0, .int .i64 0, .int .i64 0, .slice qa L.q.length qc] 31 (0, 0)) := by rw [← hN]; exact (heap_setCell_same _ _ 6 _ _ _ (heap_setCell_same _ _ 5 _ _ _ (heap_setCell_same _ _ 4 _ _ _ (heap_setCell_same _ _ 3 _ _ _ (heap_setCell_same _ _ 2 _ _ _ (heap_setCell_same _ _ 1 _ _ _ (heap_setCell_same _ _ 0 _ _ _ (bx2.out)))))))).trans rfl
    refine .inr ⟨_, rfl, by rfl, V12, (by rw [← hN]; have fr := fun i => frozen_of_row _ _ i _ _ bx2.out; have z0 := cell_box 0 bx2.out rfl; have z1 := cell_box 1 bx2.out rfl; have z2 := cell_box 2 bx2.out rfl; have z3 := cell_box 3 bx2.out rfl; have z4 := cell_box 4 bx2.out rfl; have z5 := cell_box 5 bx2.out rfl; have z6 := cell_box 6 bx2.out rfl; go_simp), ?_⟩
    clear hN
    replace hS := hS.step m12 (fun _ _ h => h)
    refine ⟨fun _ => hS, ?_⟩
    refine ptk ?_
    replace RS := hide (RS.out.mv m12 (fun g e h => by have h : g = b2 := h; have := RSl g e; omega))
    replace RQ := hide (RQ.out.mv m12 (fun g e h => by have h : g = b2 := h; have := RQl g e; omega))
    replace bx2 := hide nx; clear nx
    refine kd_valI (i := 9) (v := .slice (some ⟨V12.heap.size, 0, none⟩) 1 1) (w' := V12.alloc (.cells #[.int .i64 8, .int .i64 0, .int .i64 c, .int .i64 line, .int .i64 t, .int .i64 L.mem] 36)) (fun V => Mv nob V12 V ∧ V.heap[V12.heap.size]? = some (.cells #[.int .i64 8, .int .i64 0, .int .i64 c, .int .i64 line, .int .i64 t, .int .i64 L.mem] 36 (0, 0))) (by kernel_rfl) rfl (by rfl) (by first | rfl | go_simp) ⟨Mv.alloc _ _, heap_alloc_new _ _⟩ (fun V hI _ => hS.step hI.1 (fun _ _ h => h.elim)) ?_
    rintro V13 ⟨m13, nx⟩
    refine ptk ?_
    obtain ⟨b3, hb3⟩ : ∃ b3, V12.heap.size = b3 := ⟨_, rfl⟩
    rw [hb3] at nx ⊢
    have o2_3 := Xlo bx2 hb3
    have eq_b3 := hb3
    have rqx := fun g e => (RQ.out.lt g e).2
    replace RS := hide (RS.out.mv m13 (fun _ _ h => h))
    replace RQ := hide (RQ.out.mv m13 (fun _ _ h => h))
    have bx3 := hide nx
    clear nx
    replace hS := hS.step m13 (fun _ _ h => h.elim)
    clear hb3
    refine wpAnyK_re (S' := fun w' => Mv (fun x => x = b2) V13 w') (fun w' h => hS.step h (fun _ _ h => h)) ?_
    replace hS : Mv (fun x => x = b2) V13 V13 := Mv.refl _ _
    replace bx0 := Xbn (Xbb bx0 m12) m13; replace bx1 := Xbn (Xbb bx1 m12) m13
    have rbx0 := bx0; have rbx1 := bx1; have rbx3 := bx3
    refine tk0 11 (.slice (some ⟨b3, 0, none⟩) 1 1) rfl ?_
    refine wpAnyK_done (by kernel_rfl) ?_
    clear hS rbx0 rbx1 rbx3
    refine then_normal (h8 _ _ (wp_ret ?_)); clear h8 K8
    replace HB := Xhn (Xhb HB m12) m13; replace bx2 := Xbn bx2 m13
    have q2_0 := cell_box 0 bx2.out rfl
    have q2_1 := cell_box 1 bx2.out rfl
    have q2_2 := cell_box 2 bx2.out rfl
    have q2_3 := cell_box 3 bx2.out rfl
    have q2_4 := cell_box 4 bx2.out rfl
    have q2_5 := cell_box 5 bx2.out rfl
    have q2_6 := cell_box 6 bx2.out rfl
    exact bodyPost_ret (v := .tuple #[.agg #[.int .i64 L.mem, .int .i64 c, .slice none 0 0, .int .i64 0, .int .i64 0, .int .i64 0, .slice qa L.q.length qc], .slice (some ⟨b3, 0, none⟩) 1 1]) (by simp [results, Tryz.results62, go_sem, q2_0, q2_1, q2_2, q2_3, q2_4, q2_5, q2_6]) rfl ⟨_, _, _, _, _, _, rfl, rg_nil _ _ _ _, RQ.out, .inr ⟨_, 0, 1, rfl, Nat.le_refl _, by decide, by decide, by omega, ⟨_, _, bx3.out, by simp⟩, fun x hx => (f6_one bx3.out x hx)⟩, ⟨fun g e => absurd e (by simp [rb]), fun g e e2 => by have e3 : b3 = g := rb_blk e2; have := rqx g e; omega⟩, fun g h => h.elim (fun e => absurd e (by simp [rb])) (fun h => h.elim (fun e => .inl (.inr e)) (fun e => .inr (by have e3 : b3 = g := rb_blk e; omega))), fun g e => (by have e3 : b3 = g := rb_blk e; omega), HB.out.below⟩

end Go.Proofs.YtlalldlbgnlbjaaGreatDoor
