/- HmJ -/
import Derived.Test.YtlalldlbgnlbjaaGreatDoorYomeGot28
/- the model of a home: begun (written by mkHmJ.py) -/
namespace Go.Proofs.YtlalldlbgnlbjaaGreatDoor
open Go.RowKit
set_option linter.unusedVariables false
set_option linter.unusedSimpArgs false

theorem add_msg1 (W : World) (base b3 : Nat) (k f t l wt d : Int) (ty : TypeId) (b cp : Nat) (hc : W.heap[b]? = some (.cells #[.int .i64 k, .int .i64 f, .int .i64 t, .int .i64 l, .int .i64 wt, .int .i64 d] 36 (0, 0))) (hb : base ≤ W.heap.size) :
    ∃ g off k' w', (Builtin.append_ #[32, 32] ty #[.slice (some ⟨b3, 0, none⟩) 0 0, .slice (some ⟨b, 0, none⟩) 1 cp]).run Tryz.prog W = .ok (.slice (some ⟨g, off, none⟩) 1 k') w' ∧ Mv nob W w' ∧ Rg w' base (.slice (some ⟨g, off, none⟩) 1 k') 6 1 (gF (f6 [[k, f, t, l, wt, d]])) ∧ W.heap.size ≤ g := by
  obtain ⟨g, off, k', w', h1, h2, h3, h4⟩ := add_msg W base (.slice (some ⟨b3, 0, none⟩) 0 0) [] k f t l wt d ty b cp hc (.inl ⟨⟨_, rfl⟩, rfl⟩) (by simp) hb
  exact ⟨g, off, k', w', h1, (Mv.of_grown h2).mono (fun g _ e => by simp [rb] at e), h3, h4.resolve_left (by simp [rb])⟩
abbrev GrP (w : World) (base : Nat) (sv qv : Value) (X : Hm.Ln) (m : Hm.Mg) : Ending → World → Prop := fun e w' => ∃ sa sc qa qc ta tc, e = .returned (.tuple #[.agg #[.int .i64 X.mem, .int .i64 X.own, .slice sa X.sh.length sc, .int .i64 X.bu, .int .i64 X.wt, .int .i64 X.ac, .slice qa X.q.length qc], .slice ta 1 tc]) ∧ Rg w' base (.slice sa X.sh.length sc) 1 X.sh.length (gF (f1 X.sh)) ∧ Rg w' base (.slice qa X.q.length qc) 2 X.q.length (gF (f2 X.q)) ∧ Rg w' base (.slice ta 1 tc) 6 1 (gF (f6 [m])) ∧ Apt (.slice sa X.sh.length sc) (.slice qa X.q.length qc) (.slice ta 1 tc) ∧ (∀ g, (rb (.slice sa X.sh.length sc) = some g ∨ rb (.slice qa X.q.length qc) = some g ∨ rb (.slice ta 1 tc) = some g) → (rb sv = some g ∨ rb qv = some g) ∨ w.heap.size ≤ g) ∧ (∀ g, rb (.slice ta 1 tc) = some g → w.heap.size ≤ g) ∧ Below w.heap.size w w'
theorem l4Grant_any (line c t : Int) (base : Nat) (L : Hm.Ln) (sa : Option Addr) (sc : Nat) (qa : Option Addr) (qc : Nat) (w : World) (hs : Rg w base (.slice sa L.sh.length sc) 1 L.sh.length (gF (f1 L.sh))) (hq : Rg w base (.slice qa L.q.length qc) 2 L.q.length (gF (f2 L.q))) (hap : ∀ g, rb (.slice sa L.sh.length sc) = some g → rb (.slice qa L.q.length qc) ≠ some g) (hbw : base ≤ w.heap.size) (hok : Ids.ok L.sh = true) (hc1 : 1 ≤ c) (hc5 : c ≤ 5) :
    Calls Tryz.prog 62 #[.agg #[.int .i64 L.mem, .int .i64 L.own, .slice sa L.sh.length sc, .int .i64 L.bu, .int .i64 L.wt, .int .i64 L.ac, .slice qa L.q.length qc], .int .i64 line, .agg #[.int .i64 c, .int .i64 t]] w (GrP w base (.slice sa L.sh.length sc) (.slice qa L.q.length qc) (Hm.grantL L c t) (Hm.mGrant c line t L.mem)) := by
  by_cases ht : t = 1
  · subst ht
    rw [Hm.grantL_read rfl]
    exact l4Grant_r line c base L sa sc qa qc w hs hq hap hbw hok hc1 hc5
  · rw [Hm.grantL_write ht]
    exact l4Grant_w line c t base L sa sc qa qc w hs hq hap hbw hok hc1 hc5 ht
set_option maxRecDepth 20000 in
set_option maxHeartbeats 2000000 in
theorem l4Begun_o (line c t : Int) (base : Nat) (L : Hm.Ln) (sa : Option Addr) (sc : Nat) (qa : Option Addr) (qc : Nat) (w : World) (hs : Rg w base (.slice sa L.sh.length sc) 1 L.sh.length (gF (f1 L.sh))) (hq : Rg w base (.slice qa L.q.length qc) 2 L.q.length (gF (f2 L.q))) (hap : ∀ g, rb (.slice sa L.sh.length sc) = some g → rb (.slice qa L.q.length qc) ≠ some g) (hbw : base ≤ w.heap.size) (hok : Ids.ok L.sh = true) (hc1 : 1 ≤ c) (hc5 : c ≤ 5) (ho : L.own = c) :
    Calls Tryz.prog 60 #[.agg #[.int .i64 L.mem, .int .i64 L.own, .slice sa L.sh.length sc, .int .i64 L.bu, .int .i64 L.wt, .int .i64 L.ac, .slice qa L.q.length qc], .int .i64 line, .agg #[.int .i64 c, .int .i64 t]] w (LnQ w base (.slice sa L.sh.length sc) (.slice qa L.q.length qc) L [] false) := by
  have HB : Hid (Mv nob w w) := hide (Mv.refl _ _)
  have hl5 := ok_len hok
  have RSl := fun g e => (hs.lt g e).2
  have RQl := fun g e => (hq.lt g e).2
  have RS := hide hs; have RQ := hide hq; clear hs hq
  go_enter Tryz.func60, Tryz.ntmps60
  refine sk fun K1 h1 => rl ?_
  refine sbp #[.int .i64 L.mem, .int .i64 L.own, .slice sa L.sh.length sc, .int .i64 L.bu, .int .i64 L.wt, .int .i64 L.ac, .slice qa L.q.length qc] 31 fun V1 b0 hb0 m1 bx0 => ?_
  have o_0 : w.heap.size ≤ b0 := by omega
  replace RS := hide (RS.out.mv m1 (fun _ _ h => h))
  replace RQ := hide (RQ.out.mv m1 (fun _ _ h => h))
  clear hb0
  refine sbp #[.int .i64 c, .int .i64 t] 71 fun V2 b1 hb1 m2 bx1 => ?_
  have o0_1 := Xlo bx0 hb1
  replace RS := hide (RS.out.mv m2 (fun _ _ h => h))
  replace RQ := hide (RQ.out.mv m2 (fun _ _ h => h))
  clear hb1
  refine sbp #[.int .i64 0, .int .i64 0, .slice none 0 0, .int .i64 0, .int .i64 0, .int .i64 0, .slice none 0 0] 31 fun V3 b2 hb2 m3 bx2 => ?_
  have o1_2 := Xlo bx1 hb2
  replace RS := hide (RS.out.mv m3 (fun _ _ h => h))
  replace RQ := hide (RQ.out.mv m3 (fun _ _ h => h))
  clear hb2
  refine sv (.slice none 0 0) ?_
  refine sv (.bool false) ?_
  refine nt (h1 _ _ (sk fun K2 h2 => sk fun K3 h3 => rl ?_)); clear h1 K1
  refine sv (.pointer (some ⟨b0, 1, none⟩)) ?_
  replace bx0 := Xbn (Xbn bx0 m2) m3
  refine sl 1 bx0 ?_
  refine sv (.pointer (some ⟨b1, 0, none⟩)) ?_
  replace bx1 := Xbn bx1 m3
  refine sl 0 bx1 ?_
  refine sg (.bool true) (h := by have hd : (L.own == c) = true := (by simpa using ho); go_simp) ?_
  refine nt (h3 _ _ (ct (sk fun K4 h4 => rl ?_))); clear h3 K3
  refine sg (.agg #[.int .i64 L.mem, .int .i64 L.own, .slice sa L.sh.length sc, .int .i64 L.bu, .int .i64 L.wt, .int .i64 L.ac, .slice qa L.q.length qc]) (h := by have z0 := cell_box 0 (bx0.out) rfl; have z1 := cell_box 1 (bx0.out) rfl; have z2 := cell_box 2 (bx0.out) rfl; have z3 := cell_box 3 (bx0.out) rfl; have z4 := cell_box 4 (bx0.out) rfl; have z5 := cell_box 5 (bx0.out) rfl; have z6 := cell_box 6 (bx0.out) rfl; go_simp) ?_
  refine ss7 (.int .i64 L.mem) (.int .i64 L.own) (.slice sa L.sh.length sc) (.int .i64 L.bu) (.int .i64 L.wt) (.int .i64 L.ac) (.slice qa L.q.length qc) bx2 fun V4 m4 bx2 => ?_
  replace RS := hide (RS.out.mv m4 (fun g e h => by have h : g = b2 := h; have := RSl g e; omega))
  replace RQ := hide (RQ.out.mv m4 (fun g e h => by have h : g = b2 := h; have := RQl g e; omega))
  refine sv (.slice none 0 0) ?_
  refine sv (.bool false) ?_
  refine nt (h4 _ _ (wp_ret (then_ret ?_))); clear h4 K4; clear h2 K2
  replace HB := Xhb (Xhn (Xhn (Xhn HB m1) m2) m3) m4; replace bx0 := Xbb bx0 m4; replace bx1 := Xbb bx1 m4
  have q2_0 := cell_box 0 bx2.out rfl
  have q2_1 := cell_box 1 bx2.out rfl
  have q2_2 := cell_box 2 bx2.out rfl
  have q2_3 := cell_box 3 bx2.out rfl
  have q2_4 := cell_box 4 bx2.out rfl
  have q2_5 := cell_box 5 bx2.out rfl
  have q2_6 := cell_box 6 bx2.out rfl
  exact bodyPost_ret (v := .tuple #[.agg #[.int .i64 L.mem, .int .i64 L.own, .slice sa L.sh.length sc, .int .i64 L.bu, .int .i64 L.wt, .int .i64 L.ac, .slice qa L.q.length qc], .slice none 0 0, .bool false]) (by simp [results, Tryz.results60, go_sem, q2_0, q2_1, q2_2, q2_3, q2_4, q2_5, q2_6]) rfl ⟨_, _, _, _, _, _, rfl, RS.out, RQ.out, rg_nil _ _ _ _, ⟨fun g e => ⟨hap g e, by simp [rb]⟩, fun g e => by simp [rb]⟩, fun g h => .inl (h.elim .inl (fun h => h.elim .inr (fun e => absurd e (by simp [rb])))), HB.out.below⟩

set_option maxRecDepth 20000 in
set_option maxHeartbeats 2000000 in
theorem l4Begun_f (line c t : Int) (base : Nat) (L : Hm.Ln) (sa : Option Addr) (sc : Nat) (qa : Option Addr) (qc : Nat) (w : World) (hs : Rg w base (.slice sa L.sh.length sc) 1 L.sh.length (gF (f1 L.sh))) (hq : Rg w base (.slice qa L.q.length qc) 2 L.q.length (gF (f2 L.q))) (hap : ∀ g, rb (.slice sa L.sh.length sc) = some g → rb (.slice qa L.q.length qc) ≠ some g) (hbw : base ≤ w.heap.size) (hok : Ids.ok L.sh = true) (hc1 : 1 ≤ c) (hc5 : c ≤ 5) (ho : ¬ L.own = c) (hf : ¬ L.own = 0) :
    Calls Tryz.prog 60 #[.agg #[.int .i64 L.mem, .int .i64 L.own, .slice sa L.sh.length sc, .int .i64 L.bu, .int .i64 L.wt, .int .i64 L.ac, .slice qa L.q.length qc], .int .i64 line, .agg #[.int .i64 c, .int .i64 t]] w (LnQ w base (.slice sa L.sh.length sc) (.slice qa L.q.length qc) { L with bu := c, wt := t, ac := 1 } [Hm.mFetch L.own line t] true) := by
  have HB : Hid (Mv nob w w) := hide (Mv.refl _ _)
  have hl5 := ok_len hok
  have RSl := fun g e => (hs.lt g e).2
  have RQl := fun g e => (hq.lt g e).2
  have RS := hide hs; have RQ := hide hq; clear hs hq
  go_enter Tryz.func60, Tryz.ntmps60
  refine sk fun K1 h1 => rl ?_
  refine sbp #[.int .i64 L.mem, .int .i64 L.own, .slice sa L.sh.length sc, .int .i64 L.bu, .int .i64 L.wt, .int .i64 L.ac, .slice qa L.q.length qc] 31 fun V1 b0 hb0 m1 bx0 => ?_
  have o_0 : w.heap.size ≤ b0 := by omega
  replace RS := hide (RS.out.mv m1 (fun _ _ h => h))
  replace RQ := hide (RQ.out.mv m1 (fun _ _ h => h))
  clear hb0
  refine sbp #[.int .i64 c, .int .i64 t] 71 fun V2 b1 hb1 m2 bx1 => ?_
  have o0_1 := Xlo bx0 hb1
  replace RS := hide (RS.out.mv m2 (fun _ _ h => h))
  replace RQ := hide (RQ.out.mv m2 (fun _ _ h => h))
  clear hb1
  refine sbp #[.int .i64 0, .int .i64 0, .slice none 0 0, .int .i64 0, .int .i64 0, .int .i64 0, .slice none 0 0] 31 fun V3 b2 hb2 m3 bx2 => ?_
  have o1_2 := Xlo bx1 hb2
  replace RS := hide (RS.out.mv m3 (fun _ _ h => h))
  replace RQ := hide (RQ.out.mv m3 (fun _ _ h => h))
  clear hb2
  refine sv (.slice none 0 0) ?_
  refine sv (.bool false) ?_
  refine nt (h1 _ _ (sk fun K2 h2 => sk fun K3 h3 => rl ?_)); clear h1 K1
  refine sv (.pointer (some ⟨b0, 1, none⟩)) ?_
  replace bx0 := Xbn (Xbn bx0 m2) m3
  refine sl 1 bx0 ?_
  refine sv (.pointer (some ⟨b1, 0, none⟩)) ?_
  replace bx1 := Xbn bx1 m3
  refine sl 0 bx1 ?_
  refine sg (.bool false) (h := by have hd : (L.own == c) = false := (by simpa using ho); go_simp) ?_
  refine nt (h3 _ _ (cf (wp_skip (then_normal (h2 _ _ (sk fun K4 h4 => rl ?_)))))); clear h3 K3; clear h2 K2
  refine sbs 0 #[] 36 fun V4 b3 hb3 m4 bx3 => ?_
  have o2_3 := Xlo bx2 hb3
  replace RS := hide (RS.out.mv m4 (fun _ _ h => h))
  replace RQ := hide (RQ.out.mv m4 (fun _ _ h => h))
  clear hb3
  refine sv (.slice (some ⟨b3, 0, none⟩) 0 0) ?_
  refine nt (h4 _ _ (sk fun K5 h5 => sk fun K6 h6 => rl ?_)); clear h4 K4
  refine sv (.pointer (some ⟨b0, 1, none⟩)) ?_
  replace bx0 := Xbn bx0 m4
  refine sl 1 bx0 ?_
  refine sg (.bool true) (h := by have hd : (L.own != 0) = true := (by simpa using hf); go_simp) ?_
  refine nt (h6 _ _ (ct (rl ?_))); clear h6 K6
  refine sv (.slice (some ⟨b3, 0, none⟩) 0 0) ?_
  refine sv (.pointer (some ⟨b0, 1, none⟩)) ?_
  refine sl 1 bx0 ?_
  refine sv (.int .i64 line) ?_
  refine sv (.pointer (some ⟨b1, 1, none⟩)) ?_
  replace bx1 := Xbn bx1 m4
  refine sl 1 bx1 ?_
  refine sv (.agg #[.int .i64 5, .int .i64 0, .int .i64 L.own, .int .i64 line, .int .i64 t, .int .i64 0]) ?_
  refine sbs 1 #[.int .i64 5, .int .i64 0, .int .i64 L.own, .int .i64 line, .int .i64 t, .int .i64 0] 36 fun V5 b4 hb4 m5 bx4 => ?_
  have o3_4 := Xlo bx3 hb4
  replace RS := hide (RS.out.mv m5 (fun _ _ h => h))
  replace RQ := hide (RQ.out.mv m5 (fun _ _ h => h))
  clear hb4
  replace HB := Xhn (Xhn (Xhn (Xhn (Xhn HB m1) m2) m3) m4) m5
  have szV := HB.out.size
  replace bx2 := Xbn (Xbn bx2 m4) m5
  have b2z := lt_of_block bx2.out
  obtain ⟨gx, ox, kx, V6, hrun, hmv, hrg, hlo⟩ := add_msg1 V5 base b3 5 0 L.own line t 0 32 b4 1 bx4.out (Nat.le_trans hbw szV)
  have m6 : Mv (nob) V5 V6 := hmv
  refine sw_valW (by rfl) (run_append_op _ _ 32 (by rfl) (by rfl) (by rfl) hrun) ?_
  refine pt ?_
  replace RS := hide (RS.out.mv m6 (fun _ _ h => h))
  replace RQ := hide (RQ.out.mv m6 (fun _ _ h => h))
  have RT := hide hrg
  have RTb : ∀ g, rb (.slice (some ⟨gx, ox, none⟩) 1 kx) = some g → b0 < g ∧ b1 < g ∧ b2 < g ∧ w.heap.size ≤ g := fun g e => by have e2 : gx = g := rb_blk e; omega
  replace bx3 := Xbn bx3 m5
  clear hrun hrg hmv bx4 bx3
  refine sv (.slice (some ⟨gx, ox, none⟩) 1 kx) ?_
  refine nt (h5 _ _ (sk fun K7 h7 => sk fun K8 h8 => rl ?_)); clear h5 K5
  refine sv (.slice (some ⟨gx, ox, none⟩) 1 kx) ?_
  refine sg (.int .i64 (1 : Int)) ?_
  refine sg (.bool false) (h := by have hd : ((1 : Int) == 0) = false := (by decide); go_simp) ?_
  refine nt (h8 _ _ (cf (wp_skip (then_normal (h7 _ _ (sk fun K9 h9 => rl ?_)))))); clear h8 K8; clear h7 K7
  refine sv (.pointer (some ⟨b1, 0, none⟩)) ?_
  replace bx1 := Xbn (Xbn bx1 m5) m6
  refine sl 0 bx1 ?_
  refine sv (.pointer (some ⟨b0, 3, none⟩)) ?_
  replace bx0 := Xbn (Xbn bx0 m5) m6
  refine ss 3 (.int .i64 c) bx0 fun V7 m7 bx0 => ?_
  replace RS := hide (RS.out.mv m7 (fun g e h => by have h : g = b0 := h; have := RSl g e; omega))
  replace RQ := hide (RQ.out.mv m7 (fun g e h => by have h : g = b0 := h; have := RQl g e; omega))
  replace RT := hide (RT.out.mv m7 (fun g e h => by have h : g = b0 := h; have := RTb g e; omega))
  refine nt (h9 _ _ (sk fun K10 h10 => rl ?_)); clear h9 K9
  refine sv (.pointer (some ⟨b1, 1, none⟩)) ?_
  replace bx1 := Xbb bx1 m7
  refine sl 1 bx1 ?_
  refine sv (.pointer (some ⟨b0, 4, none⟩)) ?_
  refine ss 4 (.int .i64 t) bx0 fun V8 m8 bx0 => ?_
  replace RS := hide (RS.out.mv m8 (fun g e h => by have h : g = b0 := h; have := RSl g e; omega))
  replace RQ := hide (RQ.out.mv m8 (fun g e h => by have h : g = b0 := h; have := RQl g e; omega))
  replace RT := hide (RT.out.mv m8 (fun g e h => by have h : g = b0 := h; have := RTb g e; omega))
  refine nt (h10 _ _ (sk fun K11 h11 => rl ?_)); clear h10 K10
  refine sv (.slice (some ⟨gx, ox, none⟩) 1 kx) ?_
  refine sg (.int .i64 (1 : Int)) ?_
  refine sv (.pointer (some ⟨b0, 5, none⟩)) ?_
  refine ss 5 (.int .i64 (1 : Int)) bx0 fun V9 m9 bx0 => ?_
  replace RS := hide (RS.out.mv m9 (fun g e h => by have h : g = b0 := h; have := RSl g e; omega))
  replace RQ := hide (RQ.out.mv m9 (fun g e h => by have h : g = b0 := h; have := RQl g e; omega))
  replace RT := hide (RT.out.mv m9 (fun g e h => by have h : g = b0 := h; have := RTb g e; omega))
  refine nt (h11 _ _ (sk fun K12 h12 => rl ?_)); clear h11 K11
  refine sg (.agg #[.int .i64 L.mem, .int .i64 L.own, .slice sa L.sh.length sc, .int .i64 c, .int .i64 t, .int .i64 (1 : Int), .slice qa L.q.length qc]) (h := by have z0 := cell_box 0 (bx0.out) rfl; have z1 := cell_box 1 (bx0.out) rfl; have z2 := cell_box 2 (bx0.out) rfl; have z3 := cell_box 3 (bx0.out) rfl; have z4 := cell_box 4 (bx0.out) rfl; have z5 := cell_box 5 (bx0.out) rfl; have z6 := cell_box 6 (bx0.out) rfl; go_simp) ?_
  refine sv (.slice (some ⟨gx, ox, none⟩) 1 kx) ?_
  replace bx2 := Xbb (Xbb (Xbb (Xbn bx2 m6) m7) m8) m9
  refine ss7 (.int .i64 L.mem) (.int .i64 L.own) (.slice sa L.sh.length sc) (.int .i64 c) (.int .i64 t) (.int .i64 (1 : Int)) (.slice qa L.q.length qc) bx2 fun V10 m10 bx2 => ?_
  replace RS := hide (RS.out.mv m10 (fun g e h => by have h : g = b2 := h; have := RSl g e; omega))
  replace RQ := hide (RQ.out.mv m10 (fun g e h => by have h : g = b2 := h; have := RQl g e; omega))
  replace RT := hide (RT.out.mv m10 (fun g e h => by have h : g = b2 := h; have := RTb g e; omega))
  refine sv (.slice (some ⟨gx, ox, none⟩) 1 kx) ?_
  refine sv (.bool true) ?_
  refine nt (h12 _ _ (wp_ret ?_)); clear h12 K12
  replace HB := Xhb (Xhb (Xhb (Xhb (Xhn HB m6) m7) m8) m9) m10; replace bx1 := Xbb (Xbb (Xbb bx1 m8) m9) m10; replace bx0 := Xbb bx0 m10
  have q2_0 := cell_box 0 bx2.out rfl
  have q2_1 := cell_box 1 bx2.out rfl
  have q2_2 := cell_box 2 bx2.out rfl
  have q2_3 := cell_box 3 bx2.out rfl
  have q2_4 := cell_box 4 bx2.out rfl
  have q2_5 := cell_box 5 bx2.out rfl
  have q2_6 := cell_box 6 bx2.out rfl
  exact bodyPost_ret (v := .tuple #[.agg #[.int .i64 L.mem, .int .i64 L.own, .slice sa L.sh.length sc, .int .i64 c, .int .i64 t, .int .i64 (1 : Int), .slice qa L.q.length qc], .slice (some ⟨gx, ox, none⟩) 1 kx, .bool true]) (by simp [results, Tryz.results60, go_sem, q2_0, q2_1, q2_2, q2_3, q2_4, q2_5, q2_6]) rfl ⟨_, _, _, _, _, _, rfl, RS.out, RQ.out, RT.out, ⟨fun g e => ⟨hap g e, fun e2 => by have := (RTb g e2).2.2.2; have := RSl g e; omega⟩, fun g e e2 => by have := (RTb g e2).2.2.2; have := RQl g e; omega⟩, fun g h => h.elim (fun e => .inl (.inl e)) (fun h => h.elim (fun e => .inl (.inr e)) (fun e => .inr (RTb g e).2.2.2)), HB.out.below⟩

set_option maxRecDepth 20000 in
set_option maxHeartbeats 2000000 in
theorem l4Begun_r (line c : Int) (base : Nat) (L : Hm.Ln) (sa : Option Addr) (sc : Nat) (qa : Option Addr) (qc : Nat) (w : World) (hs : Rg w base (.slice sa L.sh.length sc) 1 L.sh.length (gF (f1 L.sh))) (hq : Rg w base (.slice qa L.q.length qc) 2 L.q.length (gF (f2 L.q))) (hap : ∀ g, rb (.slice sa L.sh.length sc) = some g → rb (.slice qa L.q.length qc) ≠ some g) (hbw : base ≤ w.heap.size) (hok : Ids.ok L.sh = true) (hc1 : 1 ≤ c) (hc5 : c ≤ 5) (ho : ¬ L.own = c) (hf : L.own = 0) :
    Calls Tryz.prog 60 #[.agg #[.int .i64 L.mem, .int .i64 L.own, .slice sa L.sh.length sc, .int .i64 L.bu, .int .i64 L.wt, .int .i64 L.ac, .slice qa L.q.length qc], .int .i64 line, .agg #[.int .i64 c, .int .i64 1]] w (LnQ w base (.slice sa L.sh.length sc) (.slice qa L.q.length qc) (Hm.grantL L c 1) [Hm.mGrant c line 1 L.mem] true) := by
  have HB : Hid (Mv nob w w) := hide (Mv.refl _ _)
  have hl5 := ok_len hok
  have RSl := fun g e => (hs.lt g e).2
  have RQl := fun g e => (hq.lt g e).2
  have RS := hide hs; have RQ := hide hq; clear hs hq
  have hfh := hide hf; clear hf
  go_enter Tryz.func60, Tryz.ntmps60
  refine sk fun K1 h1 => rl ?_
  refine sbp #[.int .i64 L.mem, .int .i64 L.own, .slice sa L.sh.length sc, .int .i64 L.bu, .int .i64 L.wt, .int .i64 L.ac, .slice qa L.q.length qc] 31 fun V1 b0 hb0 m1 bx0 => ?_
  have o_0 : w.heap.size ≤ b0 := by omega
  replace RS := hide (RS.out.mv m1 (fun _ _ h => h))
  replace RQ := hide (RQ.out.mv m1 (fun _ _ h => h))
  clear hb0
  refine sbp #[.int .i64 c, .int .i64 1] 71 fun V2 b1 hb1 m2 bx1 => ?_
  have o0_1 := Xlo bx0 hb1
  replace RS := hide (RS.out.mv m2 (fun _ _ h => h))
  replace RQ := hide (RQ.out.mv m2 (fun _ _ h => h))
  clear hb1
  refine sbp #[.int .i64 0, .int .i64 0, .slice none 0 0, .int .i64 0, .int .i64 0, .int .i64 0, .slice none 0 0] 31 fun V3 b2 hb2 m3 bx2 => ?_
  have o1_2 := Xlo bx1 hb2
  replace RS := hide (RS.out.mv m3 (fun _ _ h => h))
  replace RQ := hide (RQ.out.mv m3 (fun _ _ h => h))
  clear hb2
  refine sv (.slice none 0 0) ?_
  refine sv (.bool false) ?_
  refine nt (h1 _ _ (sk fun K2 h2 => sk fun K3 h3 => rl ?_)); clear h1 K1
  refine sv (.pointer (some ⟨b0, 1, none⟩)) ?_
  replace bx0 := Xbn (Xbn bx0 m2) m3
  refine sl 1 bx0 ?_
  refine sv (.pointer (some ⟨b1, 0, none⟩)) ?_
  replace bx1 := Xbn bx1 m3
  refine sl 0 bx1 ?_
  refine sg (.bool false) (h := by have hd : (L.own == c) = false := (by simpa using ho); go_simp) ?_
  refine nt (h3 _ _ (cf (wp_skip (then_normal (h2 _ _ (sk fun K4 h4 => rl ?_)))))); clear h3 K3; clear h2 K2
  refine sbs 0 #[] 36 fun V4 b3 hb3 m4 bx3 => ?_
  have o2_3 := Xlo bx2 hb3
  replace RS := hide (RS.out.mv m4 (fun _ _ h => h))
  replace RQ := hide (RQ.out.mv m4 (fun _ _ h => h))
  clear hb3
  refine sv (.slice (some ⟨b3, 0, none⟩) 0 0) ?_
  refine nt (h4 _ _ (sk fun K5 h5 => sk fun K6 h6 => rl ?_)); clear h4 K4
  refine sv (.pointer (some ⟨b0, 1, none⟩)) ?_
  replace bx0 := Xbn bx0 m4
  refine sl 1 bx0 ?_
  refine sg (.bool false) (h := by have hd : (L.own != 0) = false := (by simp [hfh.out]); go_simp) ?_
  refine nt (h6 _ _ (cf (sk fun K7 h7 => rl ?_))); clear h6 K6
  refine sv (.pointer (some ⟨b1, 1, none⟩)) ?_
  replace bx1 := Xbn bx1 m4
  refine sl 1 bx1 ?_
  refine sg (.bool false) ?_
  refine nt (h7 _ _ (cf (wp_skip (then_normal (h5 _ _ (sk fun K8 h8 => sk fun K9 h9 => rl ?_)))))); clear h7 K7; clear h5 K5
  refine sv (.slice (some ⟨b3, 0, none⟩) 0 0) ?_
  refine sg (.int .i64 (0 : Int)) ?_
  refine sg (.bool true) ?_
  refine nt (h9 _ _ (ct (sk fun K10 h10 => rl ?_))); clear h9 K9
  replace HB := Xhn (Xhn (Xhn (Xhn HB m1) m2) m3) m4; replace bx2 := Xbn bx2 m4
  refine sg (.agg #[.int .i64 L.mem, .int .i64 L.own, .slice sa L.sh.length sc, .int .i64 L.bu, .int .i64 L.wt, .int .i64 L.ac, .slice qa L.q.length qc]) (h := by have z0 := cell_box 0 (bx0.out) rfl; have z1 := cell_box 1 (bx0.out) rfl; have z2 := cell_box 2 (bx0.out) rfl; have z3 := cell_box 3 (bx0.out) rfl; have z4 := cell_box 4 (bx0.out) rfl; have z5 := cell_box 5 (bx0.out) rfl; have z6 := cell_box 6 (bx0.out) rfl; go_simp) ?_
  refine sv (.int .i64 line) ?_
  refine sg (.agg #[.int .i64 c, .int .i64 1]) (h := by have z0 := cell_box 0 (bx1.out) rfl; have z1 := cell_box 1 (bx1.out) rfl; go_simp) ?_
  have szG := HB.out.size
  have bnz := lt_of_block bx3.out
  obtain ⟨N3, hN3⟩ : ∃ N, V4.heap.size = N := ⟨_, rfl⟩
  refine sw_call (by rfl) (by first | rfl | (go_simp; done)) (l4Grant_any line c 1 base L sa sc qa qc V4 RS.out RQ.out hap (Nat.le_trans hbw szG) hok hc1 hc5) ?_
  rintro e V5 ⟨sa3, sc3, qa3, qc3, ta3, tc3, rfl, gs, gq, gt, gap, gfr, gtn, hbl⟩
  have m5 : Mv (nob) V4 V5 := Mv.of_below hbl
  refine ⟨_, rfl, ?_⟩
  refine pt ?_
  replace RS := hide (RS.out.mv m5 (fun _ _ h => h))
  replace RQ := hide (RQ.out.mv m5 (fun _ _ h => h))
  obtain ⟨N4, hN4⟩ : ∃ N, V5.heap.size = N := ⟨_, rfl⟩
  have GNb : ∀ g, (rb (.slice sa3 (Hm.grantL L c 1).sh.length sc3) = some g ∨ rb (.slice qa3 (Hm.grantL L c 1).q.length qc3) = some g ∨ rb (.slice ta3 1 tc3) = some g) → (g < w.heap.size ∨ N3 ≤ g) ∧ g < N4 := fun g h => ⟨(gfr g h).elim (fun q => .inl (q.elim (RSl g) (RQl g))) (fun q => .inr (hN3 ▸ q)), hN4 ▸ (rows_lt gs gq gt g h).2⟩
  have GS := hide gs
  have GQ := hide gq
  have GT := hide gt
  rw [hN3] at bnz
  clear gs gq gt gtn hbl RS RQ hN3
  refine sv (.tuple #[.agg #[.int .i64 (Hm.grantL L c 1).mem, .int .i64 (Hm.grantL L c 1).own, .slice sa3 (Hm.grantL L c 1).sh.length sc3, .int .i64 (Hm.grantL L c 1).bu, .int .i64 (Hm.grantL L c 1).wt, .int .i64 (Hm.grantL L c 1).ac, .slice qa3 (Hm.grantL L c 1).q.length qc3], .slice ta3 1 tc3]) ?_
  refine sv (.agg #[.int .i64 (Hm.grantL L c 1).mem, .int .i64 (Hm.grantL L c 1).own, .slice sa3 (Hm.grantL L c 1).sh.length sc3, .int .i64 (Hm.grantL L c 1).bu, .int .i64 (Hm.grantL L c 1).wt, .int .i64 (Hm.grantL L c 1).ac, .slice qa3 (Hm.grantL L c 1).q.length qc3]) ?_
  refine sv (.slice ta3 1 tc3) ?_
  replace bx3 := Xbn bx3 m5
  refine sbp #[.int .i64 0, .int .i64 0, .slice none 0 0, .int .i64 0, .int .i64 0, .int .i64 0, .slice none 0 0] 31 fun V6 b4 hb4 m6 bx4 => ?_
  have o3_4 := Xlo bx3 hb4
  have e4_b4 := hb4
  replace GS := hide (GS.out.mv m6 (fun _ _ h => h))
  replace GQ := hide (GQ.out.mv m6 (fun _ _ h => h))
  replace GT := hide (GT.out.mv m6 (fun _ _ h => h))
  clear hb4
  refine ss7 (.int .i64 (Hm.grantL L c 1).mem) (.int .i64 (Hm.grantL L c 1).own) (.slice sa3 (Hm.grantL L c 1).sh.length sc3) (.int .i64 (Hm.grantL L c 1).bu) (.int .i64 (Hm.grantL L c 1).wt) (.int .i64 (Hm.grantL L c 1).ac) (.slice qa3 (Hm.grantL L c 1).q.length qc3) bx4 fun V7 m7 bx4 => ?_
  replace GS := hide (GS.out.mv m7 (fun g e h => by have h : g = b4 := h; have := GNb g (.inl e); omega))
  replace GQ := hide (GQ.out.mv m7 (fun g e h => by have h : g = b4 := h; have := GNb g (.inr (.inl e)); omega))
  replace GT := hide (GT.out.mv m7 (fun g e h => by have h : g = b4 := h; have := GNb g (.inr (.inr e)); omega))
  refine sv (.slice ta3 1 tc3) ?_
  refine nt (h10 _ _ (sk fun K11 h11 => rl ?_)); clear h10 K10
  refine sg (.agg #[.int .i64 (Hm.grantL L c 1).mem, .int .i64 (Hm.grantL L c 1).own, .slice sa3 (Hm.grantL L c 1).sh.length sc3, .int .i64 (Hm.grantL L c 1).bu, .int .i64 (Hm.grantL L c 1).wt, .int .i64 (Hm.grantL L c 1).ac, .slice qa3 (Hm.grantL L c 1).q.length qc3]) (h := by have z0 := cell_box 0 (bx4.out) rfl; have z1 := cell_box 1 (bx4.out) rfl; have z2 := cell_box 2 (bx4.out) rfl; have z3 := cell_box 3 (bx4.out) rfl; have z4 := cell_box 4 (bx4.out) rfl; have z5 := cell_box 5 (bx4.out) rfl; have z6 := cell_box 6 (bx4.out) rfl; go_simp) ?_
  refine sv (.slice ta3 1 tc3) ?_
  replace bx2 := Xbb (Xbn (Xbn bx2 m5) m6) m7
  refine ss7 (.int .i64 (Hm.grantL L c 1).mem) (.int .i64 (Hm.grantL L c 1).own) (.slice sa3 (Hm.grantL L c 1).sh.length sc3) (.int .i64 (Hm.grantL L c 1).bu) (.int .i64 (Hm.grantL L c 1).wt) (.int .i64 (Hm.grantL L c 1).ac) (.slice qa3 (Hm.grantL L c 1).q.length qc3) bx2 fun V8 m8 bx2 => ?_
  replace GS := hide (GS.out.mv m8 (fun g e h => by have h : g = b2 := h; have := GNb g (.inl e); omega))
  replace GQ := hide (GQ.out.mv m8 (fun g e h => by have h : g = b2 := h; have := GNb g (.inr (.inl e)); omega))
  replace GT := hide (GT.out.mv m8 (fun g e h => by have h : g = b2 := h; have := GNb g (.inr (.inr e)); omega))
  refine sv (.slice ta3 1 tc3) ?_
  refine sv (.bool true) ?_
  refine nt (h11 _ _ (wp_ret (then_ret ?_))); clear h11 K11; clear h8 K8
  replace HB := Xhb (Xhb (Xhn (Xhn HB m5) m6) m7) m8; replace bx0 := Xbb (Xbb (Xbn (Xbn bx0 m5) m6) m7) m8; replace bx1 := Xbb (Xbb (Xbn (Xbn bx1 m5) m6) m7) m8; replace bx3 := Xbb (Xbb (Xbn bx3 m6) m7) m8; replace bx4 := Xbb bx4 m8
  have q2_0 := cell_box 0 bx2.out rfl
  have q2_1 := cell_box 1 bx2.out rfl
  have q2_2 := cell_box 2 bx2.out rfl
  have q2_3 := cell_box 3 bx2.out rfl
  have q2_4 := cell_box 4 bx2.out rfl
  have q2_5 := cell_box 5 bx2.out rfl
  have q2_6 := cell_box 6 bx2.out rfl
  exact bodyPost_ret (v := .tuple #[.agg #[.int .i64 (Hm.grantL L c 1).mem, .int .i64 (Hm.grantL L c 1).own, .slice sa3 (Hm.grantL L c 1).sh.length sc3, .int .i64 (Hm.grantL L c 1).bu, .int .i64 (Hm.grantL L c 1).wt, .int .i64 (Hm.grantL L c 1).ac, .slice qa3 (Hm.grantL L c 1).q.length qc3], .slice ta3 1 tc3, .bool true]) (by simp [results, Tryz.results60, go_sem, q2_0, q2_1, q2_2, q2_3, q2_4, q2_5, q2_6]) rfl ⟨_, _, _, _, _, _, rfl, GS.out, GQ.out, GT.out, gap, fun g h => (gfr g h).elim .inl (fun q => .inr (Nat.le_trans szG q)), HB.out.below⟩

set_option maxRecDepth 20000 in
set_option maxHeartbeats 2000000 in
theorem l4Begun_w (line c : Int) (base : Nat) (L : Hm.Ln) (sa : Option Addr) (sc : Nat) (qa : Option Addr) (qc : Nat) (w : World) (hs : Rg w base (.slice sa L.sh.length sc) 1 L.sh.length (gF (f1 L.sh))) (hq : Rg w base (.slice qa L.q.length qc) 2 L.q.length (gF (f2 L.q))) (hap : ∀ g, rb (.slice sa L.sh.length sc) = some g → rb (.slice qa L.q.length qc) ≠ some g) (hbw : base ≤ w.heap.size) (hok : Ids.ok L.sh = true) (hc1 : 1 ≤ c) (hc5 : c ≤ 5) (ho : ¬ L.own = c) (hf : L.own = 0) :
    Calls Tryz.prog 60 #[.agg #[.int .i64 L.mem, .int .i64 L.own, .slice sa L.sh.length sc, .int .i64 L.bu, .int .i64 L.wt, .int .i64 L.ac, .slice qa L.q.length qc], .int .i64 line, .agg #[.int .i64 c, .int .i64 2]] w (LnQ w base (.slice sa L.sh.length sc) (.slice qa L.q.length qc) (Hm.begL L line c 2) (Hm.begM L line c 2) true) := by
  have HB : Hid (Mv nob w w) := hide (Mv.refl _ _)
  have hl5 := ok_len hok
  have RSl := fun g e => (hs.lt g e).2
  have RQl := fun g e => (hq.lt g e).2
  have RS := hide hs; have RQ := hide hq; clear hs hq
  have hfh := hide hf; clear hf
  go_enter Tryz.func60, Tryz.ntmps60
  refine sk fun K1 h1 => rl ?_
  refine sbp #[.int .i64 L.mem, .int .i64 L.own, .slice sa L.sh.length sc, .int .i64 L.bu, .int .i64 L.wt, .int .i64 L.ac, .slice qa L.q.length qc] 31 fun V1 b0 hb0 m1 bx0 => ?_
  have o_0 : w.heap.size ≤ b0 := by omega
  replace RS := hide (RS.out.mv m1 (fun _ _ h => h))
  replace RQ := hide (RQ.out.mv m1 (fun _ _ h => h))
  clear hb0
  refine sbp #[.int .i64 c, .int .i64 2] 71 fun V2 b1 hb1 m2 bx1 => ?_
  have o0_1 := Xlo bx0 hb1
  replace RS := hide (RS.out.mv m2 (fun _ _ h => h))
  replace RQ := hide (RQ.out.mv m2 (fun _ _ h => h))
  clear hb1
  refine sbp #[.int .i64 0, .int .i64 0, .slice none 0 0, .int .i64 0, .int .i64 0, .int .i64 0, .slice none 0 0] 31 fun V3 b2 hb2 m3 bx2 => ?_
  have o1_2 := Xlo bx1 hb2
  replace RS := hide (RS.out.mv m3 (fun _ _ h => h))
  replace RQ := hide (RQ.out.mv m3 (fun _ _ h => h))
  clear hb2
  refine sv (.slice none 0 0) ?_
  refine sv (.bool false) ?_
  refine nt (h1 _ _ (sk fun K2 h2 => sk fun K3 h3 => rl ?_)); clear h1 K1
  refine sv (.pointer (some ⟨b0, 1, none⟩)) ?_
  replace bx0 := Xbn (Xbn bx0 m2) m3
  refine sl 1 bx0 ?_
  refine sv (.pointer (some ⟨b1, 0, none⟩)) ?_
  replace bx1 := Xbn bx1 m3
  refine sl 0 bx1 ?_
  refine sg (.bool false) (h := by have hd : (L.own == c) = false := (by simpa using ho); go_simp) ?_
  refine nt (h3 _ _ (cf (wp_skip (then_normal (h2 _ _ (sk fun K4 h4 => rl ?_)))))); clear h3 K3; clear h2 K2
  refine sbs 0 #[] 36 fun V4 b3 hb3 m4 bx3 => ?_
  have o2_3 := Xlo bx2 hb3
  replace RS := hide (RS.out.mv m4 (fun _ _ h => h))
  replace RQ := hide (RQ.out.mv m4 (fun _ _ h => h))
  clear hb3
  refine sv (.slice (some ⟨b3, 0, none⟩) 0 0) ?_
  refine nt (h4 _ _ (sk fun K5 h5 => sk fun K6 h6 => rl ?_)); clear h4 K4
  refine sv (.pointer (some ⟨b0, 1, none⟩)) ?_
  replace bx0 := Xbn bx0 m4
  refine sl 1 bx0 ?_
  refine sg (.bool false) (h := by have hd : (L.own != 0) = false := (by simp [hfh.out]); go_simp) ?_
  refine nt (h6 _ _ (cf (sk fun K7 h7 => rl ?_))); clear h6 K6
  refine sv (.pointer (some ⟨b1, 1, none⟩)) ?_
  replace bx1 := Xbn bx1 m4
  refine sl 1 bx1 ?_
  refine sg (.bool true) ?_
  refine nt (h7 _ _ (ct (sk fun K8 h8 => rl ?_))); clear h7 K7
  replace HB := Xhn (Xhn (Xhn (Xhn HB m1) m2) m3) m4; replace bx2 := Xbn bx2 m4
  obtain ⟨os, hos⟩ : ∃ os, Ids.withoutId L.sh c = os := ⟨_, rfl⟩
  have hle : os.length ≤ 5 := by rw [← hos]; have := List.length_filter_le (fun n => !(n == c)) L.sh; simp only [Ids.withoutId]; omega
  refine sv (.pointer (some ⟨b0, 2, none⟩)) ?_
  refine sl 2 bx0 ?_
  refine sv (.pointer (some ⟨b1, 0, none⟩)) ?_
  refine sl 0 bx1 ?_
  have szV := HB.out.size
  have b3z := lt_of_block bx3.out
  have b3e : b3 = b3 := rfl
  refine sw_call (by rfl) (by first | rfl | (go_simp; done)) (l1Without_any _ L.sh c V4 (sg_sl RS.out.sg) (by omega)) ?_
  rintro e V5 ⟨u0, rfl, how, hbl⟩
  have m5 : Mv (nob) V4 V5 := Mv.of_below hbl
  refine ⟨_, rfl, ?_⟩
  refine pt ?_
  replace RS := hide (RS.out.mv m5 (fun _ _ h => h))
  replace RQ := hide (RQ.out.mv m5 (fun _ _ h => h))
  rw [hos] at how
  obtain ⟨N5, hN5⟩ : ∃ N, V5.heap.size = N := ⟨_, rfl⟩
  have RN := hide (ow_rg how)
  have RNl := fun g e => hN5 ▸ ((ow_rg how).lt g e).2
  have b3z5 : b3 < N5 := hN5 ▸ Nat.lt_of_lt_of_le b3z hbl.size
  have hw5 : w.heap.size ≤ N5 := hN5 ▸ Nat.le_trans szV hbl.size
  obtain ⟨na, nc, rfl, _⟩ := RN.out.form
  obtain ⟨N6, hN6⟩ : ∃ N, V4.heap.size = N := ⟨_, rfl⟩
  rw [hN6] at RN
  clear how hbl hN6 bx3 b3z szV
  refine sv (.slice na os.length nc) ?_
  refine nt (h8 _ _ (sk fun K9 h9 => rl ?_)); clear h8 K8
  refine sv (.int .i64 0) ?_
  refine nt (h9 _ _ (wp_block ?_)); clear h9 K9
  replace HB := Xhn HB m5; replace bx0 := Xbn bx0 m5; replace bx1 := Xbn bx1 m5; replace bx2 := Xbn bx2 m5
  have SZ : Hid (N5 ≤ V5.heap.size) := hide (Nat.le_of_eq hN5.symm)
  clear hN5
  refine wp_loop_ghost (fun m a' w' => ∃ (j : Nat) (M : List Hm.Mg) (taj : Option Addr) (tcj : Nat) (u41 : Value) (u42 : Value) (u43 : Value) (u44 : Value) (u45 : Value) (u46 : Value) (u47 : Value) (u48 : Value) (u49 : Value) (u50 : Value) (u51 : Value) (u52 : Value) (u53 : Value) (u54 : Value) (u55 : Value), m = os.length - j + 1 ∧ a' = ⟨#[.agg #[.int .i64 L.mem, .int .i64 L.own, .slice sa L.sh.length sc, .int .i64 L.bu, .int .i64 L.wt, .int .i64 L.ac, .slice qa L.q.length qc], .int .i64 line, .agg #[.int .i64 c, .int .i64 2], .pointer (some ⟨b0, 0, none⟩), undef, .pointer (some ⟨b1, 0, none⟩), .pointer (some ⟨b2, 0, none⟩), .slice none 0 0, .bool false, .slice taj M.length tcj, .slice na os.length nc, .int .i64 (j : Int), undef, undef, .pointer (some ⟨b0, 1, none⟩), .int .i64 L.own, .pointer (some ⟨b1, 0, none⟩), .int .i64 c, .bool false, undef, .slice (some ⟨b3, 0, none⟩) 0 0, .pointer (some ⟨b0, 1, none⟩), .int .i64 L.own, .bool false, undef, undef, undef, undef, undef, undef, undef, undef, undef, .pointer (some ⟨b1, 1, none⟩), .int .i64 2, .bool true, .pointer (some ⟨b0, 2, none⟩), .slice sa L.sh.length sc, .pointer (some ⟨b1, 0, none⟩), .int .i64 c, .slice na os.length nc, u41, u42, u43, u44, u45, u46, u47, u48, u49, u50, u51, u52, u53, u54, u55, undef, undef, undef, undef, undef, undef, undef, undef, undef, undef, undef, undef, undef, undef, undef, undef, undef, undef, undef, undef, undef, undef, undef], []⟩ ∧ (Mv nob w w') ∧ (Rg w' base (.slice sa L.sh.length sc) 1 L.sh.length (gF (f1 L.sh))) ∧ (Rg w' base (.slice qa L.q.length qc) 2 L.q.length (gF (f2 L.q))) ∧ (Rg w' N6 (.slice na os.length nc) 1 os.length (gF (f1 os))) ∧ (N5 ≤ w'.heap.size) ∧ (Rg w' base (.slice taj M.length tcj) 6 M.length (gF (f6 M))) ∧ (∀ g, rb (.slice taj M.length tcj) = some g → N5 ≤ g) ∧ (M = (os.take j).map (fun k => Hm.mInv k line) ∧ j ≤ os.length) ∧ (w'.heap[b0]? = some (.cells #[.int .i64 L.mem, .int .i64 L.own, .slice sa L.sh.length sc, .int .i64 L.bu, .int .i64 L.wt, .int .i64 L.ac, .slice qa L.q.length qc] 31 (0, 0))) ∧ (w'.heap[b1]? = some (.cells #[.int .i64 c, .int .i64 2] 71 (0, 0))) ∧ (w'.heap[b2]? = some (.cells #[.int .i64 0, .int .i64 0, .slice none 0 0, .int .i64 0, .int .i64 0, .int .i64 0, .slice none 0 0] 31 (0, 0)))) (os.length - 0 + 1) ⟨0, [], some ⟨b3, 0, none⟩, 0, _, _, _, _, _, _, _, _, _, _, _, _, _, _, _, rfl, rfl, (HB.out), (RS.out), (RQ.out), (RN.out), (SZ.out), (.inl ⟨⟨_, rfl⟩, rfl⟩), (fun g e => absurd e (by simp [rb])), (by simp), (bx0.out), (bx1.out), (bx2.out)⟩ (fun m a' VL1 hI => ?_)
  obtain ⟨j, M, taj, tcj, u41, u42, u43, u44, u45, u46, u47, u48, u49, u50, u51, u52, u53, u54, u55, rfl, rfl, i_HB, i_RS, i_RQ, i_RN, i_SZ, i_RT, i_TN, i_EM, i_bx0, i_bx1, i_bx2⟩ := hI
  clear HB RS RQ bx0 bx1 bx2 RN SZ
  have HB := hide i_HB
  clear i_HB
  have RS := hide i_RS
  clear i_RS
  have RQ := hide i_RQ
  clear i_RQ
  have RN := hide i_RN
  clear i_RN
  have SZ := hide i_SZ
  clear i_SZ
  have RT := hide i_RT
  clear i_RT
  have TN := hide i_TN
  clear i_TN
  have EM := hide i_EM
  clear i_EM
  have bx0 := hide i_bx0
  clear i_bx0
  have bx1 := hide i_bx1
  clear i_bx1
  have bx2 := hide i_bx2
  clear i_bx2
  refine sk fun K10 h10 => sk fun K11 h11 => rl ?_
  have EMj := EM.out.2
  by_cases hlt : j < os.length
  · refine sv (.int .i64 (j : Int)) ?_
    refine sv (.slice na os.length nc) ?_
    refine sg (.int .i64 (os.length : Int)) ?_
    refine sg (.bool true) (h := by have hd : decide (j < os.length) = true := (by simp; omega); have hd2 : decide ((j : Int) < (os.length : Int)) = true := (by simp; omega); go_simp) ?_
    refine nt (h11 _ _ (ct (wp_skip (then_normal (h10 _ _ (sk fun K12 h12 => wp_block (rl ?_))))))); clear h11 K11; clear h10 K10
    obtain ⟨g0, o0, e0, _, _, _, _, hcell⟩ := RN.out.rows (by omega)
    subst e0
    obtain ⟨x, hx⟩ : ∃ x, os.getD j 0 = x := ⟨_, rfl⟩
    have z0 : VL1.cell? ⟨g0, o0 + j, none⟩ = some (.int .i64 x) := by have := hcell j (by omega); rw [Nat.div_one] at this; rw [← hx]; exact this
    clear hcell
    have hML : M.length ≤ 1048576 := by rw [EM.out.1]; simp; omega
    have hl : M.length + 1 = (M ++ [[4, 0, x, line, 0, 0]]).length := by simp
    refine sv (.slice taj M.length tcj) ?_
    refine sv (.slice (some ⟨g0, o0, none⟩) os.length nc) ?_
    refine sv (.int .i64 (j : Int)) ?_
    refine sg (.pointer (some ⟨g0, o0 + j, none⟩)) (h := by have h1 : (j : Int) < (os.length : Int) := (by omega); go_simp) ?_
    refine sg (.int .i64 x) (h := by have z1 := z0; go_simp) ?_
    refine sv (.int .i64 line) ?_
    refine sv (.agg #[.int .i64 4, .int .i64 0, .int .i64 x, .int .i64 line, .int .i64 0, .int .i64 0]) ?_
    refine sbs 1 #[.int .i64 4, .int .i64 0, .int .i64 x, .int .i64 line, .int .i64 0, .int .i64 0] 36 fun V6 b3 hb3 m6 bx3 => ?_
    have o2_3 := Xlo bx2 hb3
    replace RS := hide (RS.out.mv m6 (fun _ _ h => h))
    replace RQ := hide (RQ.out.mv m6 (fun _ _ h => h))
    replace RN := hide (RN.out.mv m6 (fun _ _ h => h))
    replace SZ := hide (Nat.le_trans SZ.out (m6).size)
    replace RT := hide (RT.out.mv m6 (fun _ _ h => h))
    clear hb3
    have ht1 := TN.out
    replace HB := Xhn HB m6
    have szV2 := HB.out.size
    have sz5 := SZ.out
    obtain ⟨gx, ox, kx, V7, hrun, hgr, hrg, hbl⟩ := add_msg V6 base (.slice taj M.length tcj) M 4 0 x line 0 0 32 b3 1 bx3.out RT.out hML (Nat.le_trans hbw szV2)
    have m7 : Mv (fun x => rb (.slice taj M.length tcj) = some x) V6 V7 := Mv.of_grown hgr
    refine sw_valW (by rfl) (run_append_op _ _ 32 (by rfl) (by rfl) (by rfl) hrun) ?_
    refine pt ?_
    replace HB := hide (HB.out.step m7 (fun g hg e => by have := ht1 g e; omega))
    replace RS := hide (RS.out.mv m7 (fun g e h => by have := ht1 g h; have := RSl g e; omega))
    replace RQ := hide (RQ.out.mv m7 (fun g e h => by have := ht1 g h; have := RQl g e; omega))
    replace bx0 := Xbn bx0 m6
    replace bx0 := hide (m7.box bx0.out (fun h => by have := ht1 _ h; omega))
    replace bx1 := Xbn bx1 m6
    replace bx1 := hide (m7.box bx1.out (fun h => by have := ht1 _ h; omega))
    replace bx2 := Xbn bx2 m6
    replace bx2 := hide (m7.box bx2.out (fun h => by have := ht1 _ h; omega))
    replace RN := hide (RN.out.mv m7 (fun g e h => by have := ht1 g h; have := RNl g e; omega))
    replace SZ := hide (Nat.le_trans SZ.out (m7).size)
    rw [hl] at hrg ⊢
    have RT2 := hide hrg; clear RT; have RT := RT2; clear RT2
    replace TN : Hid (∀ g, rb (.slice (some ⟨gx, ox, none⟩) (M ++ [[4, 0, x, line, 0, 0]]).length kx) = some g → N5 ≤ g) := hide (fun g e => by have e2 : gx = g := rb_blk e; subst e2; exact hbl.elim (fun q => ht1 gx q) (fun q => by omega))
    clear hrun hgr hrg hbl szV2 sz5 ht1 hl bx3
    refine sv (.slice (some ⟨gx, ox, none⟩) (M ++ [[4, 0, x, line, 0, 0]]).length kx) ?_
    refine wpList_nil (inb_norm (then_normal (h12 _ _ (rl ?_)))); clear h12 K12
    refine sv (.int .i64 (j : Int)) ?_
    refine sg (.int .i64 ((j + 1 : Nat) : Int)) (h := by have hw : IntKind.i64.wrap ((j : Int) + 1) = ((j + 1 : Nat) : Int) := (by rw [i64wrap (by omega)]; omega); go_simp) ?_
    refine sv (.int .i64 ((j + 1 : Nat) : Int)) ?_
    refine wpList_nil (then_normal ?_)
    have EN : M ++ [[4, 0, x, line, 0, 0]] = (os.take (j + 1)).map (fun k => Hm.mInv k line) ∧ j + 1 ≤ os.length := ⟨by rw [EM.out.1, take_snoc os j hlt, List.map_append, hx]; rfl, hlt⟩
    exact ⟨(os.length - (j + 1) + 1), (by omega), (j + 1), (M ++ [[4, 0, x, line, 0, 0]]), (some ⟨gx, ox, none⟩), kx, _, _, _, _, _, _, _, _, _, _, _, _, _, _, _, rfl, rfl, (HB.out), (RS.out), (RQ.out), (RN.out), (SZ.out), (RT.out), (TN.out), (EN), (bx0.out), (bx1.out), (bx2.out)⟩
  · refine sv (.int .i64 (j : Int)) ?_
    refine sv (.slice na os.length nc) ?_
    refine sg (.int .i64 (os.length : Int)) ?_
    refine sg (.bool false) (h := by have hd : decide (j < os.length) = false := (by simp; omega); have hd2 : decide ((j : Int) < (os.length : Int)) = false := (by simp; omega); go_simp) ?_
    refine nt (h11 _ _ (cf (wp_exit (then_exit (then_exit (inb_here rfl (then_normal (h5 _ _ (sk fun K13 h13 => sk fun K14 h14 => rl ?_))))))))); clear h11 K11; clear h10 K10; clear h5 K5
    have e1 := EM.out.1
    obtain rfl : j = os.length := by omega
    rw [List.take_length] at e1
    by_cases he : os = []
    · clear RN RT
      subst he
      obtain rfl : M = [] := e1
      have ha : Hm.askM L line c 2 = [] := by rw [Hm.askM_write hfh.out (by decide), hos]; rfl
      refine sv (.slice taj ([] : List Hm.Mg).length tcj) ?_
      refine sg (.int .i64 (([] : List Hm.Mg).length : Int)) ?_
      refine sg (.bool true) (h := by have hd : (([] : List Hm.Mg).length : Int) = 0 := rfl; go_simp) ?_
      refine nt (h14 _ _ (ct (sk fun K15 h15 => rl ?_))); clear h14 K14
      refine sg (.agg #[.int .i64 L.mem, .int .i64 L.own, .slice sa L.sh.length sc, .int .i64 L.bu, .int .i64 L.wt, .int .i64 L.ac, .slice qa L.q.length qc]) (h := by have z0 := cell_box 0 (bx0.out) rfl; have z1 := cell_box 1 (bx0.out) rfl; have z2 := cell_box 2 (bx0.out) rfl; have z3 := cell_box 3 (bx0.out) rfl; have z4 := cell_box 4 (bx0.out) rfl; have z5 := cell_box 5 (bx0.out) rfl; have z6 := cell_box 6 (bx0.out) rfl; go_simp) ?_
      refine sv (.int .i64 line) ?_
      refine sg (.agg #[.int .i64 c, .int .i64 2]) (h := by have z0 := cell_box 0 (bx1.out) rfl; have z1 := cell_box 1 (bx1.out) rfl; go_simp) ?_
      have szG := HB.out.size
      have bnz := SZ.out
      obtain ⟨N3, hN3⟩ : ∃ N, VL1.heap.size = N := ⟨_, rfl⟩
      refine sw_call (by rfl) (by first | rfl | (go_simp; done)) (l4Grant_any line c 2 base L sa sc qa qc VL1 RS.out RQ.out hap (Nat.le_trans hbw szG) hok hc1 hc5) ?_
      rintro e V8 ⟨sa3, sc3, qa3, qc3, ta3, tc3, rfl, gs, gq, gt, gap, gfr, gtn, hbl⟩
      have m8 : Mv (nob) VL1 V8 := Mv.of_below hbl
      refine ⟨_, rfl, ?_⟩
      refine pt ?_
      replace RS := hide (RS.out.mv m8 (fun _ _ h => h))
      replace RQ := hide (RQ.out.mv m8 (fun _ _ h => h))
      replace SZ := hide (Nat.le_trans SZ.out (m8).size)
      obtain ⟨N4, hN4⟩ : ∃ N, V8.heap.size = N := ⟨_, rfl⟩
      have GNb : ∀ g, (rb (.slice sa3 (Hm.grantL L c 2).sh.length sc3) = some g ∨ rb (.slice qa3 (Hm.grantL L c 2).q.length qc3) = some g ∨ rb (.slice ta3 1 tc3) = some g) → (g < w.heap.size ∨ N3 ≤ g) ∧ g < N4 := fun g h => ⟨(gfr g h).elim (fun q => .inl (q.elim (RSl g) (RQl g))) (fun q => .inr (hN3 ▸ q)), hN4 ▸ (rows_lt gs gq gt g h).2⟩
      have GS := hide gs
      have GQ := hide gq
      have GT := hide gt
      rw [hN3] at bnz
      clear gs gq gt gtn hbl RS RQ hN3
      refine sv (.tuple #[.agg #[.int .i64 (Hm.grantL L c 2).mem, .int .i64 (Hm.grantL L c 2).own, .slice sa3 (Hm.grantL L c 2).sh.length sc3, .int .i64 (Hm.grantL L c 2).bu, .int .i64 (Hm.grantL L c 2).wt, .int .i64 (Hm.grantL L c 2).ac, .slice qa3 (Hm.grantL L c 2).q.length qc3], .slice ta3 1 tc3]) ?_
      refine sv (.agg #[.int .i64 (Hm.grantL L c 2).mem, .int .i64 (Hm.grantL L c 2).own, .slice sa3 (Hm.grantL L c 2).sh.length sc3, .int .i64 (Hm.grantL L c 2).bu, .int .i64 (Hm.grantL L c 2).wt, .int .i64 (Hm.grantL L c 2).ac, .slice qa3 (Hm.grantL L c 2).q.length qc3]) ?_
      refine sv (.slice ta3 1 tc3) ?_
      replace bx2 := Xbn bx2 m8
      refine sbp #[.int .i64 0, .int .i64 0, .slice none 0 0, .int .i64 0, .int .i64 0, .int .i64 0, .slice none 0 0] 31 fun V9 b3 hb3 m9 bx3 => ?_
      have o2_3 := Xlo bx2 hb3
      have e4_b3 := hb3
      replace SZ := hide (Nat.le_trans SZ.out (m9).size)
      replace GS := hide (GS.out.mv m9 (fun _ _ h => h))
      replace GQ := hide (GQ.out.mv m9 (fun _ _ h => h))
      replace GT := hide (GT.out.mv m9 (fun _ _ h => h))
      clear hb3
      refine ss7 (.int .i64 (Hm.grantL L c 2).mem) (.int .i64 (Hm.grantL L c 2).own) (.slice sa3 (Hm.grantL L c 2).sh.length sc3) (.int .i64 (Hm.grantL L c 2).bu) (.int .i64 (Hm.grantL L c 2).wt) (.int .i64 (Hm.grantL L c 2).ac) (.slice qa3 (Hm.grantL L c 2).q.length qc3) bx3 fun V10 m10 bx3 => ?_
      replace SZ := hide (Nat.le_trans SZ.out (m10).size)
      replace GS := hide (GS.out.mv m10 (fun g e h => by have h : g = b3 := h; have := GNb g (.inl e); omega))
      replace GQ := hide (GQ.out.mv m10 (fun g e h => by have h : g = b3 := h; have := GNb g (.inr (.inl e)); omega))
      replace GT := hide (GT.out.mv m10 (fun g e h => by have h : g = b3 := h; have := GNb g (.inr (.inr e)); omega))
      refine sv (.slice ta3 1 tc3) ?_
      refine nt (h15 _ _ (sk fun K16 h16 => rl ?_)); clear h15 K15
      refine sg (.agg #[.int .i64 (Hm.grantL L c 2).mem, .int .i64 (Hm.grantL L c 2).own, .slice sa3 (Hm.grantL L c 2).sh.length sc3, .int .i64 (Hm.grantL L c 2).bu, .int .i64 (Hm.grantL L c 2).wt, .int .i64 (Hm.grantL L c 2).ac, .slice qa3 (Hm.grantL L c 2).q.length qc3]) (h := by have z0 := cell_box 0 (bx3.out) rfl; have z1 := cell_box 1 (bx3.out) rfl; have z2 := cell_box 2 (bx3.out) rfl; have z3 := cell_box 3 (bx3.out) rfl; have z4 := cell_box 4 (bx3.out) rfl; have z5 := cell_box 5 (bx3.out) rfl; have z6 := cell_box 6 (bx3.out) rfl; go_simp) ?_
      refine sv (.slice ta3 1 tc3) ?_
      replace bx2 := Xbb (Xbn bx2 m9) m10
      refine ss7 (.int .i64 (Hm.grantL L c 2).mem) (.int .i64 (Hm.grantL L c 2).own) (.slice sa3 (Hm.grantL L c 2).sh.length sc3) (.int .i64 (Hm.grantL L c 2).bu) (.int .i64 (Hm.grantL L c 2).wt) (.int .i64 (Hm.grantL L c 2).ac) (.slice qa3 (Hm.grantL L c 2).q.length qc3) bx2 fun V11 m11 bx2 => ?_
      replace SZ := hide (Nat.le_trans SZ.out (m11).size)
      replace GS := hide (GS.out.mv m11 (fun g e h => by have h : g = b2 := h; have := GNb g (.inl e); omega))
      replace GQ := hide (GQ.out.mv m11 (fun g e h => by have h : g = b2 := h; have := GNb g (.inr (.inl e)); omega))
      replace GT := hide (GT.out.mv m11 (fun g e h => by have h : g = b2 := h; have := GNb g (.inr (.inr e)); omega))
      refine sv (.slice ta3 1 tc3) ?_
      refine sv (.bool true) ?_
      refine nt (h16 _ _ (wp_ret (then_ret ?_))); clear h16 K16; clear h13 K13
      replace HB := Xhb (Xhb (Xhn (Xhn HB m8) m9) m10) m11; replace bx0 := Xbb (Xbb (Xbn (Xbn bx0 m8) m9) m10) m11; replace bx1 := Xbb (Xbb (Xbn (Xbn bx1 m8) m9) m10) m11; replace bx3 := Xbb bx3 m11
      have q2_0 := cell_box 0 bx2.out rfl
      have q2_1 := cell_box 1 bx2.out rfl
      have q2_2 := cell_box 2 bx2.out rfl
      have q2_3 := cell_box 3 bx2.out rfl
      have q2_4 := cell_box 4 bx2.out rfl
      have q2_5 := cell_box 5 bx2.out rfl
      have q2_6 := cell_box 6 bx2.out rfl
      exact bodyPost_ret (v := .tuple #[.agg #[.int .i64 (Hm.grantL L c 2).mem, .int .i64 (Hm.grantL L c 2).own, .slice sa3 (Hm.grantL L c 2).sh.length sc3, .int .i64 (Hm.grantL L c 2).bu, .int .i64 (Hm.grantL L c 2).wt, .int .i64 (Hm.grantL L c 2).ac, .slice qa3 (Hm.grantL L c 2).q.length qc3], .slice ta3 1 tc3, .bool true]) (by simp [results, Tryz.results60, go_sem, q2_0, q2_1, q2_2, q2_3, q2_4, q2_5, q2_6]) rfl (by rw [Hm.begL_grant ha, Hm.begM_grant ha]; exact ⟨_, _, _, _, _, _, rfl, GS.out, GQ.out, GT.out, gap, fun g h => (gfr g h).elim .inl (fun q => .inr (Nat.le_trans szG q)), HB.out.below⟩)
    · clear RN
      have hM0 : ¬ M.length = 0 := by rw [e1, List.length_map]; exact fun e => he (List.eq_nil_of_length_eq_zero e)
      have ha : Hm.askM L line c 2 = M := by rw [Hm.askM_write hfh.out (by decide), hos, e1]
      have hne : ¬ Hm.askM L line c 2 = [] := by rw [ha]; exact fun e => hM0 (by rw [e]; rfl)
      refine sv (.slice taj M.length tcj) ?_
      refine sg (.int .i64 (M.length : Int)) ?_
      refine sg (.bool false) (h := by have hd : ((M.length : Int) == 0) = false := (by rw [beq_eq_false_iff_ne]; intro h; omega); go_simp) ?_
      refine nt (h14 _ _ (cf (wp_skip (then_normal (h13 _ _ (sk fun K17 h17 => rl ?_)))))); clear h14 K14; clear h13 K13
      refine sv (.pointer (some ⟨b1, 0, none⟩)) ?_
      refine sl 0 bx1 ?_
      refine sv (.pointer (some ⟨b0, 3, none⟩)) ?_
      refine ss 3 (.int .i64 c) bx0 fun V12 m12 bx0 => ?_
      replace RS := hide (RS.out.mv m12 (fun g e h => by have h : g = b0 := h; have := RSl g e; omega))
      replace RQ := hide (RQ.out.mv m12 (fun g e h => by have h : g = b0 := h; have := RQl g e; omega))
      replace SZ := hide (Nat.le_trans SZ.out (m12).size)
      replace RT := hide (RT.out.mv m12 (fun g e h => by have h : g = b0 := h; have := TN.out g e; omega))
      refine nt (h17 _ _ (sk fun K18 h18 => rl ?_)); clear h17 K17
      refine sv (.pointer (some ⟨b1, 1, none⟩)) ?_
      replace bx1 := Xbb bx1 m12
      refine sl 1 bx1 ?_
      refine sv (.pointer (some ⟨b0, 4, none⟩)) ?_
      refine ss 4 (.int .i64 2) bx0 fun V13 m13 bx0 => ?_
      replace RS := hide (RS.out.mv m13 (fun g e h => by have h : g = b0 := h; have := RSl g e; omega))
      replace RQ := hide (RQ.out.mv m13 (fun g e h => by have h : g = b0 := h; have := RQl g e; omega))
      replace SZ := hide (Nat.le_trans SZ.out (m13).size)
      replace RT := hide (RT.out.mv m13 (fun g e h => by have h : g = b0 := h; have := TN.out g e; omega))
      refine nt (h18 _ _ (sk fun K19 h19 => rl ?_)); clear h18 K18
      refine sv (.slice taj M.length tcj) ?_
      refine sg (.int .i64 (M.length : Int)) ?_
      refine sv (.pointer (some ⟨b0, 5, none⟩)) ?_
      refine ss 5 (.int .i64 (M.length : Int)) bx0 fun V14 m14 bx0 => ?_
      replace RS := hide (RS.out.mv m14 (fun g e h => by have h : g = b0 := h; have := RSl g e; omega))
      replace RQ := hide (RQ.out.mv m14 (fun g e h => by have h : g = b0 := h; have := RQl g e; omega))
      replace SZ := hide (Nat.le_trans SZ.out (m14).size)
      replace RT := hide (RT.out.mv m14 (fun g e h => by have h : g = b0 := h; have := TN.out g e; omega))
      refine nt (h19 _ _ (sk fun K20 h20 => rl ?_)); clear h19 K19
      refine sg (.agg #[.int .i64 L.mem, .int .i64 L.own, .slice sa L.sh.length sc, .int .i64 c, .int .i64 2, .int .i64 (M.length : Int), .slice qa L.q.length qc]) (h := by have z0 := cell_box 0 (bx0.out) rfl; have z1 := cell_box 1 (bx0.out) rfl; have z2 := cell_box 2 (bx0.out) rfl; have z3 := cell_box 3 (bx0.out) rfl; have z4 := cell_box 4 (bx0.out) rfl; have z5 := cell_box 5 (bx0.out) rfl; have z6 := cell_box 6 (bx0.out) rfl; go_simp) ?_
      refine sv (.slice taj M.length tcj) ?_
      replace bx2 := Xbb (Xbb (Xbb bx2 m12) m13) m14
      refine ss7 (.int .i64 L.mem) (.int .i64 L.own) (.slice sa L.sh.length sc) (.int .i64 c) (.int .i64 2) (.int .i64 (M.length : Int)) (.slice qa L.q.length qc) bx2 fun V15 m15 bx2 => ?_
      replace RS := hide (RS.out.mv m15 (fun g e h => by have h : g = b2 := h; have := RSl g e; omega))
      replace RQ := hide (RQ.out.mv m15 (fun g e h => by have h : g = b2 := h; have := RQl g e; omega))
      replace SZ := hide (Nat.le_trans SZ.out (m15).size)
      replace RT := hide (RT.out.mv m15 (fun g e h => by have h : g = b2 := h; have := TN.out g e; omega))
      refine sv (.slice taj M.length tcj) ?_
      refine sv (.bool true) ?_
      refine nt (h20 _ _ (wp_ret ?_)); clear h20 K20
      replace HB := Xhb (Xhb (Xhb (Xhb HB m12) m13) m14) m15; replace bx1 := Xbb (Xbb (Xbb bx1 m13) m14) m15; replace bx0 := Xbb bx0 m15
      have q2_0 := cell_box 0 bx2.out rfl
      have q2_1 := cell_box 1 bx2.out rfl
      have q2_2 := cell_box 2 bx2.out rfl
      have q2_3 := cell_box 3 bx2.out rfl
      have q2_4 := cell_box 4 bx2.out rfl
      have q2_5 := cell_box 5 bx2.out rfl
      have q2_6 := cell_box 6 bx2.out rfl
      exact bodyPost_ret (v := .tuple #[.agg #[.int .i64 L.mem, .int .i64 L.own, .slice sa L.sh.length sc, .int .i64 c, .int .i64 2, .int .i64 (M.length : Int), .slice qa L.q.length qc], .slice taj M.length tcj, .bool true]) (by simp [results, Tryz.results60, go_sem, q2_0, q2_1, q2_2, q2_3, q2_4, q2_5, q2_6]) rfl (by rw [Hm.begL_ask hne, Hm.begM_ask hne, ha]; exact ⟨_, _, _, _, _, _, rfl, RS.out, RQ.out, RT.out, ⟨fun g e => ⟨hap g e, fun e2 => by have := TN.out g e2; have := RSl g e; omega⟩, fun g e e2 => by have := TN.out g e2; have := RQl g e; omega⟩, fun g h => h.elim (fun e => .inl (.inl e)) (fun h => h.elim (fun e => .inl (.inr e)) (fun e => .inr (Nat.le_trans hw5 (TN.out g e)))), HB.out.below⟩)

theorem l4Begun_any (line c t : Int) (base : Nat) (L : Hm.Ln) (sa : Option Addr) (sc : Nat) (qa : Option Addr) (qc : Nat) (w : World) (hs : Rg w base (.slice sa L.sh.length sc) 1 L.sh.length (gF (f1 L.sh))) (hq : Rg w base (.slice qa L.q.length qc) 2 L.q.length (gF (f2 L.q))) (hap : ∀ g, rb (.slice sa L.sh.length sc) = some g → rb (.slice qa L.q.length qc) ≠ some g) (hbw : base ≤ w.heap.size) (hok : Ids.ok L.sh = true) (hc1 : 1 ≤ c) (hc5 : c ≤ 5) (ht : t = 1 ∨ t = 2) (ho : ¬ L.own = c) :
    Calls Tryz.prog 60 #[.agg #[.int .i64 L.mem, .int .i64 L.own, .slice sa L.sh.length sc, .int .i64 L.bu, .int .i64 L.wt, .int .i64 L.ac, .slice qa L.q.length qc], .int .i64 line, .agg #[.int .i64 c, .int .i64 t]] w (LnQ w base (.slice sa L.sh.length sc) (.slice qa L.q.length qc) (Hm.begL L line c t) (Hm.begM L line c t) true) := by
  by_cases hf : L.own = 0
  · rcases ht with rfl | rfl
    · have ha := Hm.askM_read (line := line) (c := c) (t := 1) hf rfl
      rw [Hm.begL_grant ha, Hm.begM_grant ha]
      exact l4Begun_r line c base L sa sc qa qc w hs hq hap hbw hok hc1 hc5 ho hf
    · exact l4Begun_w line c base L sa sc qa qc w hs hq hap hbw hok hc1 hc5 ho hf
  · have ha := Hm.askM_fetch (line := line) (c := c) (t := t) hf
    have hne : ¬ Hm.askM L line c t = [] := by rw [ha]; simp
    rw [Hm.begL_ask hne, Hm.begM_ask hne, ha]
    exact l4Begun_f line c t base L sa sc qa qc w hs hq hap hbw hok hc1 hc5 ho hf
end Go.Proofs.YtlalldlbgnlbjaaGreatDoor
