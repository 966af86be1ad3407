/- HnF -/
import Derived.Test.YtlalldlbgnlbjaaGreatDoorYomeGot49
/- the model of a home is told something (written by mkHnF.py) -/
namespace Go.Proofs.YtlalldlbgnlbjaaGreatDoor
open Go.RowKit
set_option linter.unusedVariables false
set_option linter.unusedSimpArgs false

/-- a line and messages, their rows above a place; the queue's own block may have been written -/
abbrev LnG (w : World) (base : Nat) (sv qv : Value) (X : Hm.Ln) (M : List Hm.Mg) (B : Bool) : Ending → World → Prop := fun e w' => ∃ sa sc qa qc ta tc, e = .returned (.tuple #[.agg #[.int .i64 X.mem, .int .i64 X.own, .slice sa X.sh.length sc, .int .i64 X.bu, .int .i64 X.wt, .int .i64 X.ac, .slice qa X.q.length qc], .slice ta M.length tc, .bool B]) ∧
  Rg w' base (.slice sa X.sh.length sc) 1 X.sh.length (gF (f1 X.sh)) ∧ Rg w' base (.slice qa X.q.length qc) 2 X.q.length (gF (f2 X.q)) ∧ Rg w' base (.slice ta M.length tc) 6 M.length (gF (f6 M)) ∧ Apt (.slice sa X.sh.length sc) (.slice qa X.q.length qc) (.slice ta M.length tc) ∧ (∀ g, (rb (.slice sa X.sh.length sc) = some g ∨ rb (.slice qa X.q.length qc) = some g ∨ rb (.slice ta M.length tc) = some g) → (rb sv = some g ∨ rb qv = some g) ∨ w.heap.size ≤ g) ∧ Mv (fun g => rb qv = some g) w w'

set_option maxRecDepth 20000 in
set_option maxHeartbeats 2000000 in
theorem sgot_1_free (c to l t d : Int) (base : Nat) (L : Hm.Ln) (sa : Option Addr) (sc : Nat) (qa : Option Addr) (qc : Nat) (w : World) (hs : Rg w base (.slice sa L.sh.length sc) 1 L.sh.length (gF (f1 L.sh))) (hq : Rg w base (.slice qa L.q.length qc) 2 L.q.length (gF (f2 L.q))) (hap : ∀ g, rb (.slice sa L.sh.length sc) = some g → rb (.slice qa L.q.length qc) ≠ some g) (hbw : base ≤ w.heap.size) (hbu : L.bu = 0) (X : Hm.Ln) (M : List Hm.Mg) (B : Bool) (hcall : ∀ (base : Nat) (sa : Option Addr) (sc : Nat) (qa : Option Addr) (qc : Nat) (w : World), Rg w base (.slice sa L.sh.length sc) 1 L.sh.length (gF (f1 L.sh)) → Rg w base (.slice qa L.q.length qc) 2 L.q.length (gF (f2 L.q)) → (∀ g, rb (.slice sa L.sh.length sc) = some g → rb (.slice qa L.q.length qc) ≠ some g) → base ≤ w.heap.size → Calls Tryz.prog 60 #[.agg #[.int .i64 L.mem, .int .i64 L.own, .slice sa L.sh.length sc, .int .i64 L.bu, .int .i64 L.wt, .int .i64 L.ac, .slice qa L.q.length qc], .int .i64 l, .agg #[.int .i64 c, .int .i64 1]] w (LnQ w base (.slice sa L.sh.length sc) (.slice qa L.q.length qc) X M B)) :
    Calls Tryz.prog 27 #[.agg #[.int .i64 L.mem, .int .i64 L.own, .slice sa L.sh.length sc, .int .i64 L.bu, .int .i64 L.wt, .int .i64 L.ac, .slice qa L.q.length qc], .agg #[.int .i64 1, .int .i64 c, .int .i64 to, .int .i64 l, .int .i64 t, .int .i64 d]] w (LnG w base (.slice sa L.sh.length sc) (.slice qa L.q.length qc) X M B) := by
  have hbv : Hid ((L.bu == 0) = true) := hide (by simp [hbu])
  clear hbu
  have HC := hide hcall; clear hcall
  have HB : Hid (Mv (fun g => rb (.slice qa L.q.length qc) = some g) w w) := hide (Mv.refl _ _)
  have RWl : ∀ g, (rb (.slice sa L.sh.length sc) = some g ∨ rb (.slice qa L.q.length qc) = some g ∨ rb (.slice none 0 0) = some g) → g < w.heap.size := fun g h => h.elim (fun e => (hs.lt g e).2) (fun h => h.elim (fun e => (hq.lt g e).2) (fun e => absurd e (by simp [rb])))
  have RS := hide hs; have RQ := hide hq; clear hs hq
  have RT : Hid (Rg w base (.slice none 0 0) 6 0 (gF (f6 []))) := hide (rg_nil _ _ _ _)
  have AP : Apt (.slice sa L.sh.length sc) (.slice qa L.q.length qc) (.slice none 0 0) := ⟨fun g e => ⟨hap g e, by simp [rb]⟩, fun g e => by simp [rb]⟩
  have FO : ∀ g, (rb (.slice sa L.sh.length sc) = some g ∨ rb (.slice qa L.q.length qc) = some g ∨ rb (.slice none 0 0) = some g) → (rb (.slice sa L.sh.length sc) = some g ∨ rb (.slice qa L.q.length qc) = some g) ∨ w.heap.size ≤ g := fun g h => h.elim (fun e => .inl (.inl e)) (fun h => h.elim (fun e => .inl (.inr e)) (fun e => absurd e (by simp [rb])))
  go_enter Tryz.func27, Tryz.ntmps27
  refine sk fun K1 h1 => rl ?_
  refine sbp #[.int .i64 L.mem, .int .i64 L.own, .slice sa L.sh.length sc, .int .i64 L.bu, .int .i64 L.wt, .int .i64 L.ac, .slice qa L.q.length qc] 31 fun V1 b0 hb0 m1 bx0 => ?_
  have o_0 : w.heap.size ≤ b0 := by omega
  replace RS := hide (RS.out.mv m1 (fun _ _ h => h))
  replace RQ := hide (RQ.out.mv m1 (fun _ _ h => h))
  replace RT := hide (RT.out.mv m1 (fun _ _ h => h))
  clear hb0
  refine sbp #[.int .i64 1, .int .i64 c, .int .i64 to, .int .i64 l, .int .i64 t, .int .i64 d] 36 fun V2 b1 hb1 m2 bx1 => ?_
  have o0_1 := Xlo bx0 hb1
  replace RS := hide (RS.out.mv m2 (fun _ _ h => h))
  replace RQ := hide (RQ.out.mv m2 (fun _ _ h => h))
  replace RT := hide (RT.out.mv m2 (fun _ _ h => h))
  clear hb1
  refine sbp #[.int .i64 0, .int .i64 0, .slice none 0 0, .int .i64 0, .int .i64 0, .int .i64 0, .slice none 0 0] 31 fun V3 b2 hb2 m3 bx2 => ?_
  have o1_2 := Xlo bx1 hb2
  replace RS := hide (RS.out.mv m3 (fun _ _ h => h))
  replace RQ := hide (RQ.out.mv m3 (fun _ _ h => h))
  replace RT := hide (RT.out.mv m3 (fun _ _ h => h))
  clear hb2
  refine sv (.slice none 0 0) ?_
  refine sv (.bool false) ?_
  refine nt (h1 _ _ (sk fun K2 h2 => sk fun K3 h3 => rl ?_)); clear h1 K1
  replace HB := Xhn (Xhn (Xhn HB m1) m2) m3; replace bx0 := Xbn (Xbn bx0 m2) m3; replace bx1 := Xbn bx1 m3
  have NB : Hid (∀ g, (rb (.slice sa L.sh.length sc) = some g ∨ rb (.slice qa L.q.length qc) = some g ∨ rb (.slice none 0 0) = some g) → g ≠ b0 ∧ g ≠ b1 ∧ g ≠ b2) := hide (fun g h => by have := RWl g h; omega)
  clear RWl
  refine sv (.pointer (some ⟨b1, 0, none⟩)) ?_
  refine sl 0 bx1 ?_
  refine nt (h3 _ _ (wp_block (sk fun K4 h4 => sk fun K5 h5 => rl ?_))); clear h3 K3
  refine sg (.bool true) ?_
  refine sv (.bool true) ?_
  refine nt (h5 _ _ (ct (wp_skip (then_normal (h4 _ _ (ct (sk fun K6 h6 => rl ?_))))))); clear h5 K5; clear h4 K4
  refine sv (.pointer (some ⟨b1, 1, none⟩)) ?_
  refine sl 1 bx1 ?_
  refine sv (.pointer (some ⟨b1, 0, none⟩)) ?_
  refine sl 0 bx1 ?_
  refine sv (.agg #[.int .i64 c, .int .i64 1]) ?_
  refine sbp #[.int .i64 0, .int .i64 0] 71 fun V4 b3 hb3 m4 bx3 => ?_
  have o2_3 := Xlo bx2 hb3
  replace NB : Hid (∀ g, (rb (.slice sa L.sh.length sc) = some g ∨ rb (.slice qa L.q.length qc) = some g ∨ rb (.slice none 0 0) = some g) → g ≠ b0 ∧ g ≠ b1 ∧ g ≠ b2 ∧ g ≠ b3) := hide (fun g h => by have h1 := NB.out g h; have h2 := rows_lt RS.out RQ.out RT.out g h; exact (by omega))
  replace RS := hide (RS.out.mv m4 (fun _ _ h => h))
  replace RQ := hide (RQ.out.mv m4 (fun _ _ h => h))
  replace RT := hide (RT.out.mv m4 (fun _ _ h => h))
  clear hb3
  refine ss2 (.int .i64 c) (.int .i64 1) bx3 fun V5 m5 bx3 => ?_
  replace RS := hide (RS.out.mv m5 (fun g e h => by have h : g = b3 := h; have := NB.out g (.inl e); omega))
  replace RQ := hide (RQ.out.mv m5 (fun g e h => by have h : g = b3 := h; have := NB.out g (.inr (.inl e)); omega))
  replace RT := hide (RT.out.mv m5 (fun g e h => by have h : g = b3 := h; have := NB.out g (.inr (.inr e)); omega))
  refine nt (h6 _ _ (sk fun K7 h7 => sk fun K8 h8 => rl ?_)); clear h6 K6
  refine sv (.pointer (some ⟨b0, 3, none⟩)) ?_
  replace bx0 := Xbb (Xbn bx0 m4) m5
  refine sl 3 bx0 ?_
  refine sg (.bool true) (h := by have hd := hbv.out; go_simp) ?_
  refine nt (h8 _ _ (ct (sk fun K9 h9 => rl ?_))); clear h8 K8
  refine sg (.agg #[.int .i64 L.mem, .int .i64 L.own, .slice sa L.sh.length sc, .int .i64 L.bu, .int .i64 L.wt, .int .i64 L.ac, .slice qa L.q.length qc]) (h := by have z0 := cell_box 0 (bx0.out) rfl; have z1 := cell_box 1 (bx0.out) rfl; have z2 := cell_box 2 (bx0.out) rfl; have z3 := cell_box 3 (bx0.out) rfl; have z4 := cell_box 4 (bx0.out) rfl; have z5 := cell_box 5 (bx0.out) rfl; have z6 := cell_box 6 (bx0.out) rfl; go_simp) ?_
  refine sv (.pointer (some ⟨b1, 3, none⟩)) ?_
  replace bx1 := Xbb (Xbn bx1 m4) m5
  refine sl 3 bx1 ?_
  refine sg (.agg #[.int .i64 c, .int .i64 1]) (h := by have z0 := cell_box 0 (bx3.out) rfl; have z1 := cell_box 1 (bx3.out) rfl; go_simp) ?_
  replace HB := Xhb (Xhn HB m4) m5
  have szV := HB.out.size
  have hbV := Nat.le_trans hbw szV
  have bz_b0 := lt_of_block bx0.out
  have bz_b1 := lt_of_block bx1.out
  replace bx2 := Xbb (Xbn bx2 m4) m5
  have bz_b2 := lt_of_block bx2.out
  have bz_b3 := lt_of_block bx3.out
  refine sw_call (by rfl) (by first | rfl | (go_simp; done)) (HC.out base _ _ _ _ V5 RS.out RQ.out (fun g e => (AP.1 g e).1) hbV) ?_
  rintro e V6 ⟨sa3, sc3, qa3, qc3, ta3, tc3, rfl, gs, gq, gt, gap, gfr, hbl⟩
  have m6 : Mv (nob) V5 V6 := Mv.of_below hbl
  refine ⟨_, rfl, ?_⟩
  refine pt ?_
  replace NB : Hid (∀ g, (rb (.slice sa3 X.sh.length sc3) = some g ∨ rb (.slice qa3 X.q.length qc3) = some g ∨ rb (.slice ta3 M.length tc3) = some g) → g ≠ b0 ∧ g ≠ b1 ∧ g ≠ b2 ∧ g ≠ b3) := hide (fun g h => (gfr g h).elim (fun q => by have := NB.out g (q.elim .inl (fun e => .inr (.inl e))); omega) (fun q => by omega))
  replace FO : ∀ g, (rb (.slice sa3 X.sh.length sc3) = some g ∨ rb (.slice qa3 X.q.length qc3) = some g ∨ rb (.slice ta3 M.length tc3) = some g) → (rb (.slice sa L.sh.length sc) = some g ∨ rb (.slice qa L.q.length qc) = some g) ∨ w.heap.size ≤ g := fun g h => (gfr g h).elim (fun q => FO g (q.elim .inl (fun e => .inr (.inl e)))) (fun q => .inr (Nat.le_trans szV q))
  replace RS := hide gs; replace RQ := hide gq; replace RT := hide gt
  replace AP := gap
  clear gs gq gt gap gfr
  clear hbl szV hbV bz_b0 bz_b1 bz_b2 bz_b3
  refine sv (.agg #[.int .i64 X.mem, .int .i64 X.own, .slice sa3 X.sh.length sc3, .int .i64 X.bu, .int .i64 X.wt, .int .i64 X.ac, .slice qa3 X.q.length qc3]) ?_
  refine sv (.slice ta3 M.length tc3) ?_
  refine sv (.bool B) ?_
  replace bx2 := Xbn bx2 m6
  refine ss7 (.int .i64 X.mem) (.int .i64 X.own) (.slice sa3 X.sh.length sc3) (.int .i64 X.bu) (.int .i64 X.wt) (.int .i64 X.ac) (.slice qa3 X.q.length qc3) bx2 fun V7 m7 bx2 => ?_
  replace RS := hide (RS.out.mv m7 (fun g e h => by have h : g = b2 := h; have := NB.out g (.inl e); omega))
  replace RQ := hide (RQ.out.mv m7 (fun g e h => by have h : g = b2 := h; have := NB.out g (.inr (.inl e)); omega))
  replace RT := hide (RT.out.mv m7 (fun g e h => by have h : g = b2 := h; have := NB.out g (.inr (.inr e)); omega))
  refine sv (.slice ta3 M.length tc3) ?_
  refine sv (.bool B) ?_
  refine nt (h9 _ _ (wp_ret (then_ret (inb_ret (then_ret ?_))))); clear h9 K9; clear h7 K7; clear h2 K2
  replace HB := Xhb (Xhn HB m6) m7; replace bx0 := Xbb (Xbn bx0 m6) m7; replace bx1 := Xbb (Xbn bx1 m6) m7; replace bx3 := Xbb (Xbn bx3 m6) m7
  have q2_0 := cell_box 0 bx2.out rfl
  have q2_1 := cell_box 1 bx2.out rfl
  have q2_2 := cell_box 2 bx2.out rfl
  have q2_3 := cell_box 3 bx2.out rfl
  have q2_4 := cell_box 4 bx2.out rfl
  have q2_5 := cell_box 5 bx2.out rfl
  have q2_6 := cell_box 6 bx2.out rfl
  exact bodyPost_ret (v := .tuple #[.agg #[.int .i64 X.mem, .int .i64 X.own, .slice sa3 X.sh.length sc3, .int .i64 X.bu, .int .i64 X.wt, .int .i64 X.ac, .slice qa3 X.q.length qc3], .slice ta3 M.length tc3, .bool B]) (by simp [results, Tryz.results27, go_sem, q2_0, q2_1, q2_2, q2_3, q2_4, q2_5, q2_6]) rfl ⟨_, _, _, _, _, _, rfl, RS.out, RQ.out, RT.out, AP, FO, HB.out⟩

set_option maxRecDepth 20000 in
set_option maxHeartbeats 2000000 in
theorem sgot_1_full (c to l t d : Int) (base : Nat) (L : Hm.Ln) (sa : Option Addr) (sc : Nat) (qa : Option Addr) (qc : Nat) (w : World) (hs : Rg w base (.slice sa L.sh.length sc) 1 L.sh.length (gF (f1 L.sh))) (hq : Rg w base (.slice qa L.q.length qc) 2 L.q.length (gF (f2 L.q))) (hap : ∀ g, rb (.slice sa L.sh.length sc) = some g → rb (.slice qa L.q.length qc) ≠ some g) (hbw : base ≤ w.heap.size) (hbu : ¬ L.bu = 0) (hf : L.q.length = 10) :
    Calls Tryz.prog 27 #[.agg #[.int .i64 L.mem, .int .i64 L.own, .slice sa L.sh.length sc, .int .i64 L.bu, .int .i64 L.wt, .int .i64 L.ac, .slice qa L.q.length qc], .agg #[.int .i64 1, .int .i64 c, .int .i64 to, .int .i64 l, .int .i64 t, .int .i64 d]] w (LnG w base (.slice sa L.sh.length sc) (.slice qa L.q.length qc) L [] false) := by
  have hbv : Hid ((L.bu == 0) = false) := hide (by simpa using hbu)
  clear hbu
  have HB : Hid (Mv (fun g => rb (.slice qa L.q.length qc) = some g) w w) := hide (Mv.refl _ _)
  have RWl : ∀ g, (rb (.slice sa L.sh.length sc) = some g ∨ rb (.slice qa L.q.length qc) = some g ∨ rb (.slice none 0 0) = some g) → g < w.heap.size := fun g h => h.elim (fun e => (hs.lt g e).2) (fun h => h.elim (fun e => (hq.lt g e).2) (fun e => absurd e (by simp [rb])))
  have RS := hide hs; have RQ := hide hq; clear hs hq
  have RT : Hid (Rg w base (.slice none 0 0) 6 0 (gF (f6 []))) := hide (rg_nil _ _ _ _)
  have AP : Apt (.slice sa L.sh.length sc) (.slice qa L.q.length qc) (.slice none 0 0) := ⟨fun g e => ⟨hap g e, by simp [rb]⟩, fun g e => by simp [rb]⟩
  have FO : ∀ g, (rb (.slice sa L.sh.length sc) = some g ∨ rb (.slice qa L.q.length qc) = some g ∨ rb (.slice none 0 0) = some g) → (rb (.slice sa L.sh.length sc) = some g ∨ rb (.slice qa L.q.length qc) = some g) ∨ w.heap.size ≤ g := fun g h => h.elim (fun e => .inl (.inl e)) (fun h => h.elim (fun e => .inl (.inr e)) (fun e => absurd e (by simp [rb])))
  go_enter Tryz.func27, Tryz.ntmps27
  refine sk fun K1 h1 => rl ?_
  refine sbp #[.int .i64 L.mem, .int .i64 L.own, .slice sa L.sh.length sc, .int .i64 L.bu, .int .i64 L.wt, .int .i64 L.ac, .slice qa L.q.length qc] 31 fun V1 b0 hb0 m1 bx0 => ?_
  have o_0 : w.heap.size ≤ b0 := by omega
  replace RS := hide (RS.out.mv m1 (fun _ _ h => h))
  replace RQ := hide (RQ.out.mv m1 (fun _ _ h => h))
  replace RT := hide (RT.out.mv m1 (fun _ _ h => h))
  clear hb0
  refine sbp #[.int .i64 1, .int .i64 c, .int .i64 to, .int .i64 l, .int .i64 t, .int .i64 d] 36 fun V2 b1 hb1 m2 bx1 => ?_
  have o0_1 := Xlo bx0 hb1
  replace RS := hide (RS.out.mv m2 (fun _ _ h => h))
  replace RQ := hide (RQ.out.mv m2 (fun _ _ h => h))
  replace RT := hide (RT.out.mv m2 (fun _ _ h => h))
  clear hb1
  refine sbp #[.int .i64 0, .int .i64 0, .slice none 0 0, .int .i64 0, .int .i64 0, .int .i64 0, .slice none 0 0] 31 fun V3 b2 hb2 m3 bx2 => ?_
  have o1_2 := Xlo bx1 hb2
  replace RS := hide (RS.out.mv m3 (fun _ _ h => h))
  replace RQ := hide (RQ.out.mv m3 (fun _ _ h => h))
  replace RT := hide (RT.out.mv m3 (fun _ _ h => h))
  clear hb2
  refine sv (.slice none 0 0) ?_
  refine sv (.bool false) ?_
  refine nt (h1 _ _ (sk fun K2 h2 => sk fun K3 h3 => rl ?_)); clear h1 K1
  replace HB := Xhn (Xhn (Xhn HB m1) m2) m3; replace bx0 := Xbn (Xbn bx0 m2) m3; replace bx1 := Xbn bx1 m3
  have NB : Hid (∀ g, (rb (.slice sa L.sh.length sc) = some g ∨ rb (.slice qa L.q.length qc) = some g ∨ rb (.slice none 0 0) = some g) → g ≠ b0 ∧ g ≠ b1 ∧ g ≠ b2) := hide (fun g h => by have := RWl g h; omega)
  clear RWl
  refine sv (.pointer (some ⟨b1, 0, none⟩)) ?_
  refine sl 0 bx1 ?_
  refine nt (h3 _ _ (wp_block (sk fun K4 h4 => sk fun K5 h5 => rl ?_))); clear h3 K3
  refine sg (.bool true) ?_
  refine sv (.bool true) ?_
  refine nt (h5 _ _ (ct (wp_skip (then_normal (h4 _ _ (ct (sk fun K6 h6 => rl ?_))))))); clear h5 K5; clear h4 K4
  refine sv (.pointer (some ⟨b1, 1, none⟩)) ?_
  refine sl 1 bx1 ?_
  refine sv (.pointer (some ⟨b1, 0, none⟩)) ?_
  refine sl 0 bx1 ?_
  refine sv (.agg #[.int .i64 c, .int .i64 1]) ?_
  refine sbp #[.int .i64 0, .int .i64 0] 71 fun V4 b3 hb3 m4 bx3 => ?_
  have o2_3 := Xlo bx2 hb3
  replace NB : Hid (∀ g, (rb (.slice sa L.sh.length sc) = some g ∨ rb (.slice qa L.q.length qc) = some g ∨ rb (.slice none 0 0) = some g) → g ≠ b0 ∧ g ≠ b1 ∧ g ≠ b2 ∧ g ≠ b3) := hide (fun g h => by have h1 := NB.out g h; have h2 := rows_lt RS.out RQ.out RT.out g h; exact (by omega))
  replace RS := hide (RS.out.mv m4 (fun _ _ h => h))
  replace RQ := hide (RQ.out.mv m4 (fun _ _ h => h))
  replace RT := hide (RT.out.mv m4 (fun _ _ h => h))
  clear hb3
  refine ss2 (.int .i64 c) (.int .i64 1) bx3 fun V5 m5 bx3 => ?_
  replace RS := hide (RS.out.mv m5 (fun g e h => by have h : g = b3 := h; have := NB.out g (.inl e); omega))
  replace RQ := hide (RQ.out.mv m5 (fun g e h => by have h : g = b3 := h; have := NB.out g (.inr (.inl e)); omega))
  replace RT := hide (RT.out.mv m5 (fun g e h => by have h : g = b3 := h; have := NB.out g (.inr (.inr e)); omega))
  refine nt (h6 _ _ (sk fun K7 h7 => sk fun K8 h8 => rl ?_)); clear h6 K6
  refine sv (.pointer (some ⟨b0, 3, none⟩)) ?_
  replace bx0 := Xbb (Xbn bx0 m4) m5
  refine sl 3 bx0 ?_
  refine sg (.bool false) (h := by have hd := hbv.out; go_simp) ?_
  refine nt (h8 _ _ (cf (wp_skip (then_normal (h7 _ _ (sk fun K9 h9 => sk fun K10 h10 => rl ?_)))))); clear h8 K8; clear h7 K7
  refine sv (.pointer (some ⟨b0, 6, none⟩)) ?_
  refine sl 6 bx0 ?_
  refine sg (.int .i64 (L.q.length : Int)) ?_
  refine sg (.bool true) (h := by have hd : decide (L.q.length = 10) = true := decide_eq_true (by omega); have hd2 : ((L.q.length : Int) == 10) = true := (by simp; omega); go_simp) ?_
  refine sv (.bool true) ?_
  with_reducible refine sp ?_
  with_reducible refine sp ?_
  with_reducible refine sp ?_
  with_reducible refine sp ?_
  refine sg (.bool true) ?_
  refine nt (h10 _ _ (ct (sk fun K11 h11 => rl ?_))); clear h10 K10
  refine sg (.agg #[.int .i64 L.mem, .int .i64 L.own, .slice sa L.sh.length sc, .int .i64 L.bu, .int .i64 L.wt, .int .i64 L.ac, .slice qa L.q.length qc]) (h := by have z0 := cell_box 0 (bx0.out) rfl; have z1 := cell_box 1 (bx0.out) rfl; have z2 := cell_box 2 (bx0.out) rfl; have z3 := cell_box 3 (bx0.out) rfl; have z4 := cell_box 4 (bx0.out) rfl; have z5 := cell_box 5 (bx0.out) rfl; have z6 := cell_box 6 (bx0.out) rfl; go_simp) ?_
  replace bx2 := Xbb (Xbn bx2 m4) m5
  refine ss7 (.int .i64 L.mem) (.int .i64 L.own) (.slice sa L.sh.length sc) (.int .i64 L.bu) (.int .i64 L.wt) (.int .i64 L.ac) (.slice qa L.q.length qc) bx2 fun V6 m6 bx2 => ?_
  replace RS := hide (RS.out.mv m6 (fun g e h => by have h : g = b2 := h; have := NB.out g (.inl e); omega))
  replace RQ := hide (RQ.out.mv m6 (fun g e h => by have h : g = b2 := h; have := NB.out g (.inr (.inl e)); omega))
  replace RT := hide (RT.out.mv m6 (fun g e h => by have h : g = b2 := h; have := NB.out g (.inr (.inr e)); omega))
  refine sv (.slice none 0 0) ?_
  refine sv (.bool false) ?_
  refine nt (h11 _ _ (wp_ret (then_ret (inb_ret (then_ret ?_))))); clear h11 K11; clear h9 K9; clear h2 K2
  replace HB := Xhb (Xhb (Xhn HB m4) m5) m6; replace bx1 := Xbb (Xbb (Xbn bx1 m4) m5) m6; replace bx0 := Xbb bx0 m6; replace bx3 := Xbb bx3 m6
  have q2_0 := cell_box 0 bx2.out rfl
  have q2_1 := cell_box 1 bx2.out rfl
  have q2_2 := cell_box 2 bx2.out rfl
  have q2_3 := cell_box 3 bx2.out rfl
  have q2_4 := cell_box 4 bx2.out rfl
  have q2_5 := cell_box 5 bx2.out rfl
  have q2_6 := cell_box 6 bx2.out rfl
  exact bodyPost_ret (v := .tuple #[.agg #[.int .i64 L.mem, .int .i64 L.own, .slice sa L.sh.length sc, .int .i64 L.bu, .int .i64 L.wt, .int .i64 L.ac, .slice qa L.q.length qc], .slice none 0 0, .bool false]) (by simp [results, Tryz.results27, go_sem, q2_0, q2_1, q2_2, q2_3, q2_4, q2_5, q2_6]) rfl ⟨_, _, _, _, _, _, rfl, RS.out, RQ.out, RT.out, AP, FO, HB.out⟩

set_option maxRecDepth 20000 in
set_option maxHeartbeats 2000000 in
theorem sgot_1_waits (c to l t d : Int) (base : Nat) (L : Hm.Ln) (sa : Option Addr) (sc : Nat) (qa : Option Addr) (qc : Nat) (w : World) (hs : Rg w base (.slice sa L.sh.length sc) 1 L.sh.length (gF (f1 L.sh))) (hq : Rg w base (.slice qa L.q.length qc) 2 L.q.length (gF (f2 L.q))) (hap : ∀ g, rb (.slice sa L.sh.length sc) = some g → rb (.slice qa L.q.length qc) ≠ some g) (hbw : base ≤ w.heap.size) (hbu : ¬ L.bu = 0) (hn : L.q.length < 10) (hw : ((L.q.any fun r => r.1 == c) || (L.bu == c)) = true) :
    Calls Tryz.prog 27 #[.agg #[.int .i64 L.mem, .int .i64 L.own, .slice sa L.sh.length sc, .int .i64 L.bu, .int .i64 L.wt, .int .i64 L.ac, .slice qa L.q.length qc], .agg #[.int .i64 1, .int .i64 c, .int .i64 to, .int .i64 l, .int .i64 t, .int .i64 d]] w (LnG w base (.slice sa L.sh.length sc) (.slice qa L.q.length qc) L [] false) := by
  have hbv : Hid ((L.bu == 0) = false) := hide (by simpa using hbu)
  clear hbu
  have HW := hide hw; clear hw
  have HB : Hid (Mv (fun g => rb (.slice qa L.q.length qc) = some g) w w) := hide (Mv.refl _ _)
  have RWl : ∀ g, (rb (.slice sa L.sh.length sc) = some g ∨ rb (.slice qa L.q.length qc) = some g ∨ rb (.slice none 0 0) = some g) → g < w.heap.size := fun g h => h.elim (fun e => (hs.lt g e).2) (fun h => h.elim (fun e => (hq.lt g e).2) (fun e => absurd e (by simp [rb])))
  have RS := hide hs; have RQ := hide hq; clear hs hq
  have RT : Hid (Rg w base (.slice none 0 0) 6 0 (gF (f6 []))) := hide (rg_nil _ _ _ _)
  have AP : Apt (.slice sa L.sh.length sc) (.slice qa L.q.length qc) (.slice none 0 0) := ⟨fun g e => ⟨hap g e, by simp [rb]⟩, fun g e => by simp [rb]⟩
  have FO : ∀ g, (rb (.slice sa L.sh.length sc) = some g ∨ rb (.slice qa L.q.length qc) = some g ∨ rb (.slice none 0 0) = some g) → (rb (.slice sa L.sh.length sc) = some g ∨ rb (.slice qa L.q.length qc) = some g) ∨ w.heap.size ≤ g := fun g h => h.elim (fun e => .inl (.inl e)) (fun h => h.elim (fun e => .inl (.inr e)) (fun e => absurd e (by simp [rb])))
  go_enter Tryz.func27, Tryz.ntmps27
  refine sk fun K1 h1 => rl ?_
  refine sbp #[.int .i64 L.mem, .int .i64 L.own, .slice sa L.sh.length sc, .int .i64 L.bu, .int .i64 L.wt, .int .i64 L.ac, .slice qa L.q.length qc] 31 fun V1 b0 hb0 m1 bx0 => ?_
  have o_0 : w.heap.size ≤ b0 := by omega
  replace RS := hide (RS.out.mv m1 (fun _ _ h => h))
  replace RQ := hide (RQ.out.mv m1 (fun _ _ h => h))
  replace RT := hide (RT.out.mv m1 (fun _ _ h => h))
  clear hb0
  refine sbp #[.int .i64 1, .int .i64 c, .int .i64 to, .int .i64 l, .int .i64 t, .int .i64 d] 36 fun V2 b1 hb1 m2 bx1 => ?_
  have o0_1 := Xlo bx0 hb1
  replace RS := hide (RS.out.mv m2 (fun _ _ h => h))
  replace RQ := hide (RQ.out.mv m2 (fun _ _ h => h))
  replace RT := hide (RT.out.mv m2 (fun _ _ h => h))
  clear hb1
  refine sbp #[.int .i64 0, .int .i64 0, .slice none 0 0, .int .i64 0, .int .i64 0, .int .i64 0, .slice none 0 0] 31 fun V3 b2 hb2 m3 bx2 => ?_
  have o1_2 := Xlo bx1 hb2
  replace RS := hide (RS.out.mv m3 (fun _ _ h => h))
  replace RQ := hide (RQ.out.mv m3 (fun _ _ h => h))
  replace RT := hide (RT.out.mv m3 (fun _ _ h => h))
  clear hb2
  refine sv (.slice none 0 0) ?_
  refine sv (.bool false) ?_
  refine nt (h1 _ _ (sk fun K2 h2 => sk fun K3 h3 => rl ?_)); clear h1 K1
  replace HB := Xhn (Xhn (Xhn HB m1) m2) m3; replace bx0 := Xbn (Xbn bx0 m2) m3; replace bx1 := Xbn bx1 m3
  have NB : Hid (∀ g, (rb (.slice sa L.sh.length sc) = some g ∨ rb (.slice qa L.q.length qc) = some g ∨ rb (.slice none 0 0) = some g) → g ≠ b0 ∧ g ≠ b1 ∧ g ≠ b2) := hide (fun g h => by have := RWl g h; omega)
  clear RWl
  refine sv (.pointer (some ⟨b1, 0, none⟩)) ?_
  refine sl 0 bx1 ?_
  refine nt (h3 _ _ (wp_block (sk fun K4 h4 => sk fun K5 h5 => rl ?_))); clear h3 K3
  refine sg (.bool true) ?_
  refine sv (.bool true) ?_
  refine nt (h5 _ _ (ct (wp_skip (then_normal (h4 _ _ (ct (sk fun K6 h6 => rl ?_))))))); clear h5 K5; clear h4 K4
  refine sv (.pointer (some ⟨b1, 1, none⟩)) ?_
  refine sl 1 bx1 ?_
  refine sv (.pointer (some ⟨b1, 0, none⟩)) ?_
  refine sl 0 bx1 ?_
  refine sv (.agg #[.int .i64 c, .int .i64 1]) ?_
  refine sbp #[.int .i64 0, .int .i64 0] 71 fun V4 b3 hb3 m4 bx3 => ?_
  have o2_3 := Xlo bx2 hb3
  replace NB : Hid (∀ g, (rb (.slice sa L.sh.length sc) = some g ∨ rb (.slice qa L.q.length qc) = some g ∨ rb (.slice none 0 0) = some g) → g ≠ b0 ∧ g ≠ b1 ∧ g ≠ b2 ∧ g ≠ b3) := hide (fun g h => by have h1 := NB.out g h; have h2 := rows_lt RS.out RQ.out RT.out g h; exact (by omega))
  replace RS := hide (RS.out.mv m4 (fun _ _ h => h))
  replace RQ := hide (RQ.out.mv m4 (fun _ _ h => h))
  replace RT := hide (RT.out.mv m4 (fun _ _ h => h))
  clear hb3
  refine ss2 (.int .i64 c) (.int .i64 1) bx3 fun V5 m5 bx3 => ?_
  replace RS := hide (RS.out.mv m5 (fun g e h => by have h : g = b3 := h; have := NB.out g (.inl e); omega))
  replace RQ := hide (RQ.out.mv m5 (fun g e h => by have h : g = b3 := h; have := NB.out g (.inr (.inl e)); omega))
  replace RT := hide (RT.out.mv m5 (fun g e h => by have h : g = b3 := h; have := NB.out g (.inr (.inr e)); omega))
  refine nt (h6 _ _ (sk fun K7 h7 => sk fun K8 h8 => rl ?_)); clear h6 K6
  refine sv (.pointer (some ⟨b0, 3, none⟩)) ?_
  replace bx0 := Xbb (Xbn bx0 m4) m5
  refine sl 3 bx0 ?_
  refine sg (.bool false) (h := by have hd := hbv.out; go_simp) ?_
  refine nt (h8 _ _ (cf (wp_skip (then_normal (h7 _ _ (sk fun K9 h9 => sk fun K10 h10 => rl ?_)))))); clear h8 K8; clear h7 K7
  refine sv (.pointer (some ⟨b0, 6, none⟩)) ?_
  refine sl 6 bx0 ?_
  refine sg (.int .i64 (L.q.length : Int)) ?_
  refine sg (.bool false) (h := by have hd : decide (L.q.length = 10) = false := decide_eq_false (by omega); have hd2 : ((L.q.length : Int) == 10) = false := (by simp; omega); go_simp) ?_
  refine sv (.bool false) ?_
  refine sg (.agg #[.int .i64 L.mem, .int .i64 L.own, .slice sa L.sh.length sc, .int .i64 L.bu, .int .i64 L.wt, .int .i64 L.ac, .slice qa L.q.length qc]) (h := by have z0 := cell_box 0 (bx0.out) rfl; have z1 := cell_box 1 (bx0.out) rfl; have z2 := cell_box 2 (bx0.out) rfl; have z3 := cell_box 3 (bx0.out) rfl; have z4 := cell_box 4 (bx0.out) rfl; have z5 := cell_box 5 (bx0.out) rfl; have z6 := cell_box 6 (bx0.out) rfl; go_simp) ?_
  refine sv (.pointer (some ⟨b1, 1, none⟩)) ?_
  replace bx1 := Xbb (Xbn bx1 m4) m5
  refine sl 1 bx1 ?_
  refine sw_call (by rfl) (by first | rfl | (go_simp; done)) (l4Waits_any L c sa sc qa qc V5 RQ.out.sg (by omega)) ?_
  rintro e V6 ⟨rfl, hbl⟩
  have m6 : Mv (nob) V5 V6 := Mv.of_below hbl
  refine ⟨_, rfl, ?_⟩
  refine pt ?_
  replace RS := hide (RS.out.mv m6 (fun _ _ h => h))
  replace RQ := hide (RQ.out.mv m6 (fun _ _ h => h))
  replace RT := hide (RT.out.mv m6 (fun _ _ h => h))
  clear hbl
  rw [HW.out]
  refine sg (.bool true) ?_
  refine nt (h10 _ _ (ct (sk fun K11 h11 => rl ?_))); clear h10 K10
  replace bx0 := Xbn bx0 m6
  refine sg (.agg #[.int .i64 L.mem, .int .i64 L.own, .slice sa L.sh.length sc, .int .i64 L.bu, .int .i64 L.wt, .int .i64 L.ac, .slice qa L.q.length qc]) (h := by have z0 := cell_box 0 (bx0.out) rfl; have z1 := cell_box 1 (bx0.out) rfl; have z2 := cell_box 2 (bx0.out) rfl; have z3 := cell_box 3 (bx0.out) rfl; have z4 := cell_box 4 (bx0.out) rfl; have z5 := cell_box 5 (bx0.out) rfl; have z6 := cell_box 6 (bx0.out) rfl; go_simp) ?_
  replace bx2 := Xbn (Xbb (Xbn bx2 m4) m5) m6
  refine ss7 (.int .i64 L.mem) (.int .i64 L.own) (.slice sa L.sh.length sc) (.int .i64 L.bu) (.int .i64 L.wt) (.int .i64 L.ac) (.slice qa L.q.length qc) bx2 fun V7 m7 bx2 => ?_
  replace RS := hide (RS.out.mv m7 (fun g e h => by have h : g = b2 := h; have := NB.out g (.inl e); omega))
  replace RQ := hide (RQ.out.mv m7 (fun g e h => by have h : g = b2 := h; have := NB.out g (.inr (.inl e)); omega))
  replace RT := hide (RT.out.mv m7 (fun g e h => by have h : g = b2 := h; have := NB.out g (.inr (.inr e)); omega))
  refine sv (.slice none 0 0) ?_
  refine sv (.bool false) ?_
  refine nt (h11 _ _ (wp_ret (then_ret (inb_ret (then_ret ?_))))); clear h11 K11; clear h9 K9; clear h2 K2
  replace HB := Xhb (Xhn (Xhb (Xhn HB m4) m5) m6) m7; replace bx1 := Xbb (Xbn bx1 m6) m7; replace bx3 := Xbb (Xbn bx3 m6) m7; replace bx0 := Xbb bx0 m7
  have q2_0 := cell_box 0 bx2.out rfl
  have q2_1 := cell_box 1 bx2.out rfl
  have q2_2 := cell_box 2 bx2.out rfl
  have q2_3 := cell_box 3 bx2.out rfl
  have q2_4 := cell_box 4 bx2.out rfl
  have q2_5 := cell_box 5 bx2.out rfl
  have q2_6 := cell_box 6 bx2.out rfl
  exact bodyPost_ret (v := .tuple #[.agg #[.int .i64 L.mem, .int .i64 L.own, .slice sa L.sh.length sc, .int .i64 L.bu, .int .i64 L.wt, .int .i64 L.ac, .slice qa L.q.length qc], .slice none 0 0, .bool false]) (by simp [results, Tryz.results27, go_sem, q2_0, q2_1, q2_2, q2_3, q2_4, q2_5, q2_6]) rfl ⟨_, _, _, _, _, _, rfl, RS.out, RQ.out, RT.out, AP, FO, HB.out⟩

set_option maxRecDepth 20000 in
set_option maxHeartbeats 2000000 in
theorem sgot_1_yes (c to l t d : Int) (base : Nat) (L : Hm.Ln) (sa : Option Addr) (sc : Nat) (qa : Option Addr) (qc : Nat) (w : World) (hs : Rg w base (.slice sa L.sh.length sc) 1 L.sh.length (gF (f1 L.sh))) (hq : Rg w base (.slice qa L.q.length qc) 2 L.q.length (gF (f2 L.q))) (hap : ∀ g, rb (.slice sa L.sh.length sc) = some g → rb (.slice qa L.q.length qc) ≠ some g) (hbw : base ≤ w.heap.size) (hbu : ¬ L.bu = 0) (hn : L.q.length < 10) (hw : ((L.q.any fun r => r.1 == c) || (L.bu == c)) = false) :
    Calls Tryz.prog 27 #[.agg #[.int .i64 L.mem, .int .i64 L.own, .slice sa L.sh.length sc, .int .i64 L.bu, .int .i64 L.wt, .int .i64 L.ac, .slice qa L.q.length qc], .agg #[.int .i64 1, .int .i64 c, .int .i64 to, .int .i64 l, .int .i64 t, .int .i64 d]] w (LnG w base (.slice sa L.sh.length sc) (.slice qa L.q.length qc) { L with q := L.q ++ [(c, 1)] } [] true) := by
  have hbv : Hid ((L.bu == 0) = false) := hide (by simpa using hbu)
  clear hbu
  have HW := hide hw; clear hw
  have HB : Hid (Mv (fun g => rb (.slice qa L.q.length qc) = some g) w w) := hide (Mv.refl _ _)
  have RWl : ∀ g, (rb (.slice sa L.sh.length sc) = some g ∨ rb (.slice qa L.q.length qc) = some g ∨ rb (.slice none 0 0) = some g) → g < w.heap.size := fun g h => h.elim (fun e => (hs.lt g e).2) (fun h => h.elim (fun e => (hq.lt g e).2) (fun e => absurd e (by simp [rb])))
  have RS := hide hs; have RQ := hide hq; clear hs hq
  have RT : Hid (Rg w base (.slice none 0 0) 6 0 (gF (f6 []))) := hide (rg_nil _ _ _ _)
  have AP : Apt (.slice sa L.sh.length sc) (.slice qa L.q.length qc) (.slice none 0 0) := ⟨fun g e => ⟨hap g e, by simp [rb]⟩, fun g e => by simp [rb]⟩
  have FO : ∀ g, (rb (.slice sa L.sh.length sc) = some g ∨ rb (.slice qa L.q.length qc) = some g ∨ rb (.slice none 0 0) = some g) → (rb (.slice sa L.sh.length sc) = some g ∨ rb (.slice qa L.q.length qc) = some g) ∨ w.heap.size ≤ g := fun g h => h.elim (fun e => .inl (.inl e)) (fun h => h.elim (fun e => .inl (.inr e)) (fun e => absurd e (by simp [rb])))
  go_enter Tryz.func27, Tryz.ntmps27
  refine sk fun K1 h1 => rl ?_
  refine sbp #[.int .i64 L.mem, .int .i64 L.own, .slice sa L.sh.length sc, .int .i64 L.bu, .int .i64 L.wt, .int .i64 L.ac, .slice qa L.q.length qc] 31 fun V1 b0 hb0 m1 bx0 => ?_
  have o_0 : w.heap.size ≤ b0 := by omega
  replace RS := hide (RS.out.mv m1 (fun _ _ h => h))
  replace RQ := hide (RQ.out.mv m1 (fun _ _ h => h))
  replace RT := hide (RT.out.mv m1 (fun _ _ h => h))
  clear hb0
  refine sbp #[.int .i64 1, .int .i64 c, .int .i64 to, .int .i64 l, .int .i64 t, .int .i64 d] 36 fun V2 b1 hb1 m2 bx1 => ?_
  have o0_1 := Xlo bx0 hb1
  replace RS := hide (RS.out.mv m2 (fun _ _ h => h))
  replace RQ := hide (RQ.out.mv m2 (fun _ _ h => h))
  replace RT := hide (RT.out.mv m2 (fun _ _ h => h))
  clear hb1
  refine sbp #[.int .i64 0, .int .i64 0, .slice none 0 0, .int .i64 0, .int .i64 0, .int .i64 0, .slice none 0 0] 31 fun V3 b2 hb2 m3 bx2 => ?_
  have o1_2 := Xlo bx1 hb2
  replace RS := hide (RS.out.mv m3 (fun _ _ h => h))
  replace RQ := hide (RQ.out.mv m3 (fun _ _ h => h))
  replace RT := hide (RT.out.mv m3 (fun _ _ h => h))
  clear hb2
  refine sv (.slice none 0 0) ?_
  refine sv (.bool false) ?_
  refine nt (h1 _ _ (sk fun K2 h2 => sk fun K3 h3 => rl ?_)); clear h1 K1
  replace HB := Xhn (Xhn (Xhn HB m1) m2) m3; replace bx0 := Xbn (Xbn bx0 m2) m3; replace bx1 := Xbn bx1 m3
  have NB : Hid (∀ g, (rb (.slice sa L.sh.length sc) = some g ∨ rb (.slice qa L.q.length qc) = some g ∨ rb (.slice none 0 0) = some g) → g ≠ b0 ∧ g ≠ b1 ∧ g ≠ b2) := hide (fun g h => by have := RWl g h; omega)
  clear RWl
  refine sv (.pointer (some ⟨b1, 0, none⟩)) ?_
  refine sl 0 bx1 ?_
  refine nt (h3 _ _ (wp_block (sk fun K4 h4 => sk fun K5 h5 => rl ?_))); clear h3 K3
  refine sg (.bool true) ?_
  refine sv (.bool true) ?_
  refine nt (h5 _ _ (ct (wp_skip (then_normal (h4 _ _ (ct (sk fun K6 h6 => rl ?_))))))); clear h5 K5; clear h4 K4
  refine sv (.pointer (some ⟨b1, 1, none⟩)) ?_
  refine sl 1 bx1 ?_
  refine sv (.pointer (some ⟨b1, 0, none⟩)) ?_
  refine sl 0 bx1 ?_
  refine sv (.agg #[.int .i64 c, .int .i64 1]) ?_
  refine sbp #[.int .i64 0, .int .i64 0] 71 fun V4 b3 hb3 m4 bx3 => ?_
  have o2_3 := Xlo bx2 hb3
  replace NB : Hid (∀ g, (rb (.slice sa L.sh.length sc) = some g ∨ rb (.slice qa L.q.length qc) = some g ∨ rb (.slice none 0 0) = some g) → g ≠ b0 ∧ g ≠ b1 ∧ g ≠ b2 ∧ g ≠ b3) := hide (fun g h => by have h1 := NB.out g h; have h2 := rows_lt RS.out RQ.out RT.out g h; exact (by omega))
  replace RS := hide (RS.out.mv m4 (fun _ _ h => h))
  replace RQ := hide (RQ.out.mv m4 (fun _ _ h => h))
  replace RT := hide (RT.out.mv m4 (fun _ _ h => h))
  clear hb3
  refine ss2 (.int .i64 c) (.int .i64 1) bx3 fun V5 m5 bx3 => ?_
  replace RS := hide (RS.out.mv m5 (fun g e h => by have h : g = b3 := h; have := NB.out g (.inl e); omega))
  replace RQ := hide (RQ.out.mv m5 (fun g e h => by have h : g = b3 := h; have := NB.out g (.inr (.inl e)); omega))
  replace RT := hide (RT.out.mv m5 (fun g e h => by have h : g = b3 := h; have := NB.out g (.inr (.inr e)); omega))
  refine nt (h6 _ _ (sk fun K7 h7 => sk fun K8 h8 => rl ?_)); clear h6 K6
  refine sv (.pointer (some ⟨b0, 3, none⟩)) ?_
  replace bx0 := Xbb (Xbn bx0 m4) m5
  refine sl 3 bx0 ?_
  refine sg (.bool false) (h := by have hd := hbv.out; go_simp) ?_
  refine nt (h8 _ _ (cf (wp_skip (then_normal (h7 _ _ (sk fun K9 h9 => sk fun K10 h10 => rl ?_)))))); clear h8 K8; clear h7 K7
  refine sv (.pointer (some ⟨b0, 6, none⟩)) ?_
  refine sl 6 bx0 ?_
  refine sg (.int .i64 (L.q.length : Int)) ?_
  refine sg (.bool false) (h := by have hd : decide (L.q.length = 10) = false := decide_eq_false (by omega); have hd2 : ((L.q.length : Int) == 10) = false := (by simp; omega); go_simp) ?_
  refine sv (.bool false) ?_
  refine sg (.agg #[.int .i64 L.mem, .int .i64 L.own, .slice sa L.sh.length sc, .int .i64 L.bu, .int .i64 L.wt, .int .i64 L.ac, .slice qa L.q.length qc]) (h := by have z0 := cell_box 0 (bx0.out) rfl; have z1 := cell_box 1 (bx0.out) rfl; have z2 := cell_box 2 (bx0.out) rfl; have z3 := cell_box 3 (bx0.out) rfl; have z4 := cell_box 4 (bx0.out) rfl; have z5 := cell_box 5 (bx0.out) rfl; have z6 := cell_box 6 (bx0.out) rfl; go_simp) ?_
  refine sv (.pointer (some ⟨b1, 1, none⟩)) ?_
  replace bx1 := Xbb (Xbn bx1 m4) m5
  refine sl 1 bx1 ?_
  refine sw_call (by rfl) (by first | rfl | (go_simp; done)) (l4Waits_any L c sa sc qa qc V5 RQ.out.sg (by omega)) ?_
  rintro e V6 ⟨rfl, hbl⟩
  have m6 : Mv (nob) V5 V6 := Mv.of_below hbl
  refine ⟨_, rfl, ?_⟩
  refine pt ?_
  replace RS := hide (RS.out.mv m6 (fun _ _ h => h))
  replace RQ := hide (RQ.out.mv m6 (fun _ _ h => h))
  replace RT := hide (RT.out.mv m6 (fun _ _ h => h))
  clear hbl
  rw [HW.out]
  refine sg (.bool false) ?_
  refine nt (h10 _ _ (cf (wp_skip (then_normal (h9 _ _ (sk fun K11 h11 => rl ?_)))))); clear h10 K10; clear h9 K9
  replace HB := Xhn (Xhb (Xhn HB m4) m5) m6; replace bx2 := Xbn (Xbb (Xbn bx2 m4) m5) m6; replace bx0 := Xbn bx0 m6; replace bx1 := Xbn bx1 m6; replace bx3 := Xbn bx3 m6
  refine sv (.pointer (some ⟨b0, 6, none⟩)) ?_
  refine sl 6 bx0 ?_
  refine sg (.agg #[.int .i64 c, .int .i64 1]) (h := by have z0 := cell_box 0 (bx3.out) rfl; have z1 := cell_box 1 (bx3.out) rfl; go_simp) ?_
  refine sbs 1 #[.int .i64 c, .int .i64 1] 71 fun V7 b4 hb4 m7 bx4 => ?_
  have o3_4 := Xlo bx3 hb4
  replace NB : Hid (∀ g, (rb (.slice sa L.sh.length sc) = some g ∨ rb (.slice qa L.q.length qc) = some g ∨ rb (.slice none 0 0) = some g) → g ≠ b0 ∧ g ≠ b1 ∧ g ≠ b2 ∧ g ≠ b3 ∧ g ≠ b4) := hide (fun g h => by have h1 := NB.out g h; have h2 := rows_lt RS.out RQ.out RT.out g h; exact (by omega))
  replace RS := hide (RS.out.mv m7 (fun _ _ h => h))
  replace RQ := hide (RQ.out.mv m7 (fun _ _ h => h))
  replace RT := hide (RT.out.mv m7 (fun _ _ h => h))
  clear hb4
  replace HB := Xhn HB m7
  have szV := HB.out.size
  have hbV := Nat.le_trans hbw szV
  have NBq := fun g e => NB.out g (.inr (.inl e))
  have hs1 := fun g e => (RS.out.lt g e).2
  replace bx0 := Xbn bx0 m7
  have bz_b0 := lt_of_block bx0.out
  replace bx1 := Xbn bx1 m7
  have bz_b1 := lt_of_block bx1.out
  replace bx2 := Xbn bx2 m7
  have bz_b2 := lt_of_block bx2.out
  replace bx3 := Xbn bx3 m7
  have bz_b3 := lt_of_block bx3.out
  have bz_b4 := lt_of_block bx4.out
  obtain ⟨gx, ox, kx, V8, hrun, hgr, hrg, hgx⟩ := add_req V7 base (.slice qa L.q.length qc) L.q c 1 29 b4 1 bx4.out RQ.out (by omega) hbV
  have m8 : Mv (fun x => rb (.slice qa L.q.length qc) = some x) V7 V8 := Mv.of_grown hgr
  refine sw_valW (by rfl) (run_append_op _ _ 29 (by rfl) (by rfl) (by rfl) hrun) ?_
  refine pt ?_
  replace HB := hide (HB.out.step m8 (fun g hg e => e))
  replace bx0 := hide (m8.box bx0.out (fun h => by have := NBq _ h; omega))
  replace bx1 := hide (m8.box bx1.out (fun h => by have := NBq _ h; omega))
  replace bx2 := hide (m8.box bx2.out (fun h => by have := NBq _ h; omega))
  replace RS := hide (RS.out.mv m8 (fun g e h => (AP.1 g e).1 h))
  replace RT := hide (RT.out.mv m8 (fun g e h => AP.2 g h e))
  replace bx3 := hide (m8.box bx3.out (fun h => by have := NBq _ h; omega))
  replace RQ := hide hrg
  have hnb : ∀ g, rb (.slice (some ⟨gx, ox, none⟩) (L.q.length + 1) kx) = some g → rb (.slice qa L.q.length qc) = some g ∨ V7.heap.size ≤ g := fun g e => by have e2 : gx = g := rb_blk e; subst e2; exact hgx
  replace NB : Hid (∀ g, (rb (.slice sa L.sh.length sc) = some g ∨ rb (.slice (some ⟨gx, ox, none⟩) (L.q.length + 1) kx) = some g ∨ rb (.slice none 0 0) = some g) → g ≠ b0 ∧ g ≠ b1 ∧ g ≠ b2 ∧ g ≠ b3) := hide (fun g h => h.elim (fun e => by have := NB.out g (.inl e); omega) (fun h => h.elim (fun e => (hnb g e).elim (fun q => by have := NBq g q; omega) (fun q => by omega)) (fun e => absurd e (by simp [rb]))))
  replace FO : ∀ g, (rb (.slice sa L.sh.length sc) = some g ∨ rb (.slice (some ⟨gx, ox, none⟩) (L.q.length + 1) kx) = some g ∨ rb (.slice none 0 0) = some g) → (rb (.slice sa L.sh.length sc) = some g ∨ rb (.slice qa L.q.length qc) = some g) ∨ w.heap.size ≤ g := fun g h => h.elim (fun e => .inl (.inl e)) (fun h => h.elim (fun e => (hnb g e).elim (fun q => .inl (.inr q)) (fun q => .inr (Nat.le_trans szV q))) (fun e => absurd e (by simp [rb])))
  replace AP : Apt (.slice sa L.sh.length sc) (.slice (some ⟨gx, ox, none⟩) (L.q.length + 1) kx) (.slice none 0 0) := ⟨fun g e => ⟨fun e2 => (hnb g e2).elim (fun q => (AP.1 g e).1 q) (fun q => by have := hs1 g e; omega), by simp [rb]⟩, fun g e => by simp [rb]⟩
  clear hrun hgr hrg hgx hnb NBq hs1 szV hbV bx4 bz_b0 bz_b1 bz_b2 bz_b3 bz_b4
  refine sv (.pointer (some ⟨b0, 6, none⟩)) ?_
  refine ss 6 (.slice (some ⟨gx, ox, none⟩) (L.q.length + 1) kx) bx0 fun V9 m9 bx0 => ?_
  replace RS := hide (RS.out.mv m9 (fun g e h => by have h : g = b0 := h; have := NB.out g (.inl e); omega))
  replace RQ := hide (RQ.out.mv m9 (fun g e h => by have h : g = b0 := h; have := NB.out g (.inr (.inl e)); omega))
  replace RT := hide (RT.out.mv m9 (fun g e h => by have h : g = b0 := h; have := NB.out g (.inr (.inr e)); omega))
  refine nt (h11 _ _ (sk fun K12 h12 => rl ?_)); clear h11 K11
  replace HB := Xhb HB m9; replace bx1 := Xbb bx1 m9; replace bx2 := Xbb bx2 m9; replace bx3 := Xbb bx3 m9
  have hl : L.q.length + 1 = (L.q ++ [(c, 1)]).length := by simp
  rw [hl] at bx0 RQ AP FO NB
  clear hl
  refine sg (.agg #[.int .i64 L.mem, .int .i64 L.own, .slice sa L.sh.length sc, .int .i64 L.bu, .int .i64 L.wt, .int .i64 L.ac, .slice (some ⟨gx, ox, none⟩) (L.q ++ [(c, 1)]).length kx]) (h := by have z0 := cell_box 0 (bx0.out) rfl; have z1 := cell_box 1 (bx0.out) rfl; have z2 := cell_box 2 (bx0.out) rfl; have z3 := cell_box 3 (bx0.out) rfl; have z4 := cell_box 4 (bx0.out) rfl; have z5 := cell_box 5 (bx0.out) rfl; have z6 := cell_box 6 (bx0.out) rfl; go_simp) ?_
  refine ss7 (.int .i64 L.mem) (.int .i64 L.own) (.slice sa L.sh.length sc) (.int .i64 L.bu) (.int .i64 L.wt) (.int .i64 L.ac) (.slice (some ⟨gx, ox, none⟩) (L.q ++ [(c, 1)]).length kx) bx2 fun V10 m10 bx2 => ?_
  replace RS := hide (RS.out.mv m10 (fun g e h => by have h : g = b2 := h; have := NB.out g (.inl e); omega))
  replace RQ := hide (RQ.out.mv m10 (fun g e h => by have h : g = b2 := h; have := NB.out g (.inr (.inl e)); omega))
  replace RT := hide (RT.out.mv m10 (fun g e h => by have h : g = b2 := h; have := NB.out g (.inr (.inr e)); omega))
  refine sv (.slice none 0 0) ?_
  refine sv (.bool true) ?_
  refine nt (h12 _ _ (wp_ret (inb_ret (then_ret ?_)))); clear h12 K12; clear h2 K2
  replace HB := Xhb HB m10; replace bx0 := Xbb bx0 m10; replace bx1 := Xbb bx1 m10; replace bx3 := Xbb bx3 m10
  have q2_0 := cell_box 0 bx2.out rfl
  have q2_1 := cell_box 1 bx2.out rfl
  have q2_2 := cell_box 2 bx2.out rfl
  have q2_3 := cell_box 3 bx2.out rfl
  have q2_4 := cell_box 4 bx2.out rfl
  have q2_5 := cell_box 5 bx2.out rfl
  have q2_6 := cell_box 6 bx2.out rfl
  exact bodyPost_ret (v := .tuple #[.agg #[.int .i64 L.mem, .int .i64 L.own, .slice sa L.sh.length sc, .int .i64 L.bu, .int .i64 L.wt, .int .i64 L.ac, .slice (some ⟨gx, ox, none⟩) (L.q ++ [(c, 1)]).length kx], .slice none 0 0, .bool true]) (by simp [results, Tryz.results27, go_sem, q2_0, q2_1, q2_2, q2_3, q2_4, q2_5, q2_6]) rfl ⟨_, _, _, _, _, _, rfl, RS.out, RQ.out, RT.out, AP, FO, HB.out⟩

set_option maxRecDepth 20000 in
set_option maxHeartbeats 2000000 in
theorem sgot_2_free (c to l t d : Int) (base : Nat) (L : Hm.Ln) (sa : Option Addr) (sc : Nat) (qa : Option Addr) (qc : Nat) (w : World) (hs : Rg w base (.slice sa L.sh.length sc) 1 L.sh.length (gF (f1 L.sh))) (hq : Rg w base (.slice qa L.q.length qc) 2 L.q.length (gF (f2 L.q))) (hap : ∀ g, rb (.slice sa L.sh.length sc) = some g → rb (.slice qa L.q.length qc) ≠ some g) (hbw : base ≤ w.heap.size) (hbu : L.bu = 0) (X : Hm.Ln) (M : List Hm.Mg) (B : Bool) (hcall : ∀ (base : Nat) (sa : Option Addr) (sc : Nat) (qa : Option Addr) (qc : Nat) (w : World), Rg w base (.slice sa L.sh.length sc) 1 L.sh.length (gF (f1 L.sh)) → Rg w base (.slice qa L.q.length qc) 2 L.q.length (gF (f2 L.q)) → (∀ g, rb (.slice sa L.sh.length sc) = some g → rb (.slice qa L.q.length qc) ≠ some g) → base ≤ w.heap.size → Calls Tryz.prog 60 #[.agg #[.int .i64 L.mem, .int .i64 L.own, .slice sa L.sh.length sc, .int .i64 L.bu, .int .i64 L.wt, .int .i64 L.ac, .slice qa L.q.length qc], .int .i64 l, .agg #[.int .i64 c, .int .i64 2]] w (LnQ w base (.slice sa L.sh.length sc) (.slice qa L.q.length qc) X M B)) :
    Calls Tryz.prog 27 #[.agg #[.int .i64 L.mem, .int .i64 L.own, .slice sa L.sh.length sc, .int .i64 L.bu, .int .i64 L.wt, .int .i64 L.ac, .slice qa L.q.length qc], .agg #[.int .i64 2, .int .i64 c, .int .i64 to, .int .i64 l, .int .i64 t, .int .i64 d]] w (LnG w base (.slice sa L.sh.length sc) (.slice qa L.q.length qc) X M B) := by
  have hbv : Hid ((L.bu == 0) = true) := hide (by simp [hbu])
  clear hbu
  have HC := hide hcall; clear hcall
  have HB : Hid (Mv (fun g => rb (.slice qa L.q.length qc) = some g) w w) := hide (Mv.refl _ _)
  have RWl : ∀ g, (rb (.slice sa L.sh.length sc) = some g ∨ rb (.slice qa L.q.length qc) = some g ∨ rb (.slice none 0 0) = some g) → g < w.heap.size := fun g h => h.elim (fun e => (hs.lt g e).2) (fun h => h.elim (fun e => (hq.lt g e).2) (fun e => absurd e (by simp [rb])))
  have RS := hide hs; have RQ := hide hq; clear hs hq
  have RT : Hid (Rg w base (.slice none 0 0) 6 0 (gF (f6 []))) := hide (rg_nil _ _ _ _)
  have AP : Apt (.slice sa L.sh.length sc) (.slice qa L.q.length qc) (.slice none 0 0) := ⟨fun g e => ⟨hap g e, by simp [rb]⟩, fun g e => by simp [rb]⟩
  have FO : ∀ g, (rb (.slice sa L.sh.length sc) = some g ∨ rb (.slice qa L.q.length qc) = some g ∨ rb (.slice none 0 0) = some g) → (rb (.slice sa L.sh.length sc) = some g ∨ rb (.slice qa L.q.length qc) = some g) ∨ w.heap.size ≤ g := fun g h => h.elim (fun e => .inl (.inl e)) (fun h => h.elim (fun e => .inl (.inr e)) (fun e => absurd e (by simp [rb])))
  go_enter Tryz.func27, Tryz.ntmps27
  refine sk fun K1 h1 => rl ?_
  refine sbp #[.int .i64 L.mem, .int .i64 L.own, .slice sa L.sh.length sc, .int .i64 L.bu, .int .i64 L.wt, .int .i64 L.ac, .slice qa L.q.length qc] 31 fun V1 b0 hb0 m1 bx0 => ?_
  have o_0 : w.heap.size ≤ b0 := by omega
  replace RS := hide (RS.out.mv m1 (fun _ _ h => h))
  replace RQ := hide (RQ.out.mv m1 (fun _ _ h => h))
  replace RT := hide (RT.out.mv m1 (fun _ _ h => h))
  clear hb0
  refine sbp #[.int .i64 2, .int .i64 c, .int .i64 to, .int .i64 l, .int .i64 t, .int .i64 d] 36 fun V2 b1 hb1 m2 bx1 => ?_
  have o0_1 := Xlo bx0 hb1
  replace RS := hide (RS.out.mv m2 (fun _ _ h => h))
  replace RQ := hide (RQ.out.mv m2 (fun _ _ h => h))
  replace RT := hide (RT.out.mv m2 (fun _ _ h => h))
  clear hb1
  refine sbp #[.int .i64 0, .int .i64 0, .slice none 0 0, .int .i64 0, .int .i64 0, .int .i64 0, .slice none 0 0] 31 fun V3 b2 hb2 m3 bx2 => ?_
  have o1_2 := Xlo bx1 hb2
  replace RS := hide (RS.out.mv m3 (fun _ _ h => h))
  replace RQ := hide (RQ.out.mv m3 (fun _ _ h => h))
  replace RT := hide (RT.out.mv m3 (fun _ _ h => h))
  clear hb2
  refine sv (.slice none 0 0) ?_
  refine sv (.bool false) ?_
  refine nt (h1 _ _ (sk fun K2 h2 => sk fun K3 h3 => rl ?_)); clear h1 K1
  replace HB := Xhn (Xhn (Xhn HB m1) m2) m3; replace bx0 := Xbn (Xbn bx0 m2) m3; replace bx1 := Xbn bx1 m3
  have NB : Hid (∀ g, (rb (.slice sa L.sh.length sc) = some g ∨ rb (.slice qa L.q.length qc) = some g ∨ rb (.slice none 0 0) = some g) → g ≠ b0 ∧ g ≠ b1 ∧ g ≠ b2) := hide (fun g h => by have := RWl g h; omega)
  clear RWl
  refine sv (.pointer (some ⟨b1, 0, none⟩)) ?_
  refine sl 0 bx1 ?_
  refine nt (h3 _ _ (wp_block (sk fun K4 h4 => sk fun K5 h5 => rl ?_))); clear h3 K3
  refine sg (.bool false) ?_
  refine sv (.bool false) ?_
  refine nt (h5 _ _ (cf (rl ?_))); clear h5 K5
  refine sg (.bool true) ?_
  refine sv (.bool true) ?_
  refine nt (h4 _ _ (ct (sk fun K6 h6 => rl ?_))); clear h4 K4
  refine sv (.pointer (some ⟨b1, 1, none⟩)) ?_
  refine sl 1 bx1 ?_
  refine sv (.pointer (some ⟨b1, 0, none⟩)) ?_
  refine sl 0 bx1 ?_
  refine sv (.agg #[.int .i64 c, .int .i64 2]) ?_
  refine sbp #[.int .i64 0, .int .i64 0] 71 fun V4 b3 hb3 m4 bx3 => ?_
  have o2_3 := Xlo bx2 hb3
  replace NB : Hid (∀ g, (rb (.slice sa L.sh.length sc) = some g ∨ rb (.slice qa L.q.length qc) = some g ∨ rb (.slice none 0 0) = some g) → g ≠ b0 ∧ g ≠ b1 ∧ g ≠ b2 ∧ g ≠ b3) := hide (fun g h => by have h1 := NB.out g h; have h2 := rows_lt RS.out RQ.out RT.out g h; exact (by omega))
  replace RS := hide (RS.out.mv m4 (fun _ _ h => h))
  replace RQ := hide (RQ.out.mv m4 (fun _ _ h => h))
  replace RT := hide (RT.out.mv m4 (fun _ _ h => h))
  clear hb3
  refine ss2 (.int .i64 c) (.int .i64 2) bx3 fun V5 m5 bx3 => ?_
  replace RS := hide (RS.out.mv m5 (fun g e h => by have h : g = b3 := h; have := NB.out g (.inl e); omega))
  replace RQ := hide (RQ.out.mv m5 (fun g e h => by have h : g = b3 := h; have := NB.out g (.inr (.inl e)); omega))
  replace RT := hide (RT.out.mv m5 (fun g e h => by have h : g = b3 := h; have := NB.out g (.inr (.inr e)); omega))
  refine nt (h6 _ _ (sk fun K7 h7 => sk fun K8 h8 => rl ?_)); clear h6 K6
  refine sv (.pointer (some ⟨b0, 3, none⟩)) ?_
  replace bx0 := Xbb (Xbn bx0 m4) m5
  refine sl 3 bx0 ?_
  refine sg (.bool true) (h := by have hd := hbv.out; go_simp) ?_
  refine nt (h8 _ _ (ct (sk fun K9 h9 => rl ?_))); clear h8 K8
  refine sg (.agg #[.int .i64 L.mem, .int .i64 L.own, .slice sa L.sh.length sc, .int .i64 L.bu, .int .i64 L.wt, .int .i64 L.ac, .slice qa L.q.length qc]) (h := by have z0 := cell_box 0 (bx0.out) rfl; have z1 := cell_box 1 (bx0.out) rfl; have z2 := cell_box 2 (bx0.out) rfl; have z3 := cell_box 3 (bx0.out) rfl; have z4 := cell_box 4 (bx0.out) rfl; have z5 := cell_box 5 (bx0.out) rfl; have z6 := cell_box 6 (bx0.out) rfl; go_simp) ?_
  refine sv (.pointer (some ⟨b1, 3, none⟩)) ?_
  replace bx1 := Xbb (Xbn bx1 m4) m5
  refine sl 3 bx1 ?_
  refine sg (.agg #[.int .i64 c, .int .i64 2]) (h := by have z0 := cell_box 0 (bx3.out) rfl; have z1 := cell_box 1 (bx3.out) rfl; go_simp) ?_
  replace HB := Xhb (Xhn HB m4) m5
  have szV := HB.out.size
  have hbV := Nat.le_trans hbw szV
  have bz_b0 := lt_of_block bx0.out
  have bz_b1 := lt_of_block bx1.out
  replace bx2 := Xbb (Xbn bx2 m4) m5
  have bz_b2 := lt_of_block bx2.out
  have bz_b3 := lt_of_block bx3.out
  refine sw_call (by rfl) (by first | rfl | (go_simp; done)) (HC.out base _ _ _ _ V5 RS.out RQ.out (fun g e => (AP.1 g e).1) hbV) ?_
  rintro e V6 ⟨sa3, sc3, qa3, qc3, ta3, tc3, rfl, gs, gq, gt, gap, gfr, hbl⟩
  have m6 : Mv (nob) V5 V6 := Mv.of_below hbl
  refine ⟨_, rfl, ?_⟩
  refine pt ?_
  replace NB : Hid (∀ g, (rb (.slice sa3 X.sh.length sc3) = some g ∨ rb (.slice qa3 X.q.length qc3) = some g ∨ rb (.slice ta3 M.length tc3) = some g) → g ≠ b0 ∧ g ≠ b1 ∧ g ≠ b2 ∧ g ≠ b3) := hide (fun g h => (gfr g h).elim (fun q => by have := NB.out g (q.elim .inl (fun e => .inr (.inl e))); omega) (fun q => by omega))
  replace FO : ∀ g, (rb (.slice sa3 X.sh.length sc3) = some g ∨ rb (.slice qa3 X.q.length qc3) = some g ∨ rb (.slice ta3 M.length tc3) = some g) → (rb (.slice sa L.sh.length sc) = some g ∨ rb (.slice qa L.q.length qc) = some g) ∨ w.heap.size ≤ g := fun g h => (gfr g h).elim (fun q => FO g (q.elim .inl (fun e => .inr (.inl e)))) (fun q => .inr (Nat.le_trans szV q))
  replace RS := hide gs; replace RQ := hide gq; replace RT := hide gt
  replace AP := gap
  clear gs gq gt gap gfr
  clear hbl szV hbV bz_b0 bz_b1 bz_b2 bz_b3
  refine sv (.agg #[.int .i64 X.mem, .int .i64 X.own, .slice sa3 X.sh.length sc3, .int .i64 X.bu, .int .i64 X.wt, .int .i64 X.ac, .slice qa3 X.q.length qc3]) ?_
  refine sv (.slice ta3 M.length tc3) ?_
  refine sv (.bool B) ?_
  replace bx2 := Xbn bx2 m6
  refine ss7 (.int .i64 X.mem) (.int .i64 X.own) (.slice sa3 X.sh.length sc3) (.int .i64 X.bu) (.int .i64 X.wt) (.int .i64 X.ac) (.slice qa3 X.q.length qc3) bx2 fun V7 m7 bx2 => ?_
  replace RS := hide (RS.out.mv m7 (fun g e h => by have h : g = b2 := h; have := NB.out g (.inl e); omega))
  replace RQ := hide (RQ.out.mv m7 (fun g e h => by have h : g = b2 := h; have := NB.out g (.inr (.inl e)); omega))
  replace RT := hide (RT.out.mv m7 (fun g e h => by have h : g = b2 := h; have := NB.out g (.inr (.inr e)); omega))
  refine sv (.slice ta3 M.length tc3) ?_
  refine sv (.bool B) ?_
  refine nt (h9 _ _ (wp_ret (then_ret (inb_ret (then_ret ?_))))); clear h9 K9; clear h7 K7; clear h2 K2
  replace HB := Xhb (Xhn HB m6) m7; replace bx0 := Xbb (Xbn bx0 m6) m7; replace bx1 := Xbb (Xbn bx1 m6) m7; replace bx3 := Xbb (Xbn bx3 m6) m7
  have q2_0 := cell_box 0 bx2.out rfl
  have q2_1 := cell_box 1 bx2.out rfl
  have q2_2 := cell_box 2 bx2.out rfl
  have q2_3 := cell_box 3 bx2.out rfl
  have q2_4 := cell_box 4 bx2.out rfl
  have q2_5 := cell_box 5 bx2.out rfl
  have q2_6 := cell_box 6 bx2.out rfl
  exact bodyPost_ret (v := .tuple #[.agg #[.int .i64 X.mem, .int .i64 X.own, .slice sa3 X.sh.length sc3, .int .i64 X.bu, .int .i64 X.wt, .int .i64 X.ac, .slice qa3 X.q.length qc3], .slice ta3 M.length tc3, .bool B]) (by simp [results, Tryz.results27, go_sem, q2_0, q2_1, q2_2, q2_3, q2_4, q2_5, q2_6]) rfl ⟨_, _, _, _, _, _, rfl, RS.out, RQ.out, RT.out, AP, FO, HB.out⟩

set_option maxRecDepth 20000 in
set_option maxHeartbeats 2000000 in
theorem sgot_2_full (c to l t d : Int) (base : Nat) (L : Hm.Ln) (sa : Option Addr) (sc : Nat) (qa : Option Addr) (qc : Nat) (w : World) (hs : Rg w base (.slice sa L.sh.length sc) 1 L.sh.length (gF (f1 L.sh))) (hq : Rg w base (.slice qa L.q.length qc) 2 L.q.length (gF (f2 L.q))) (hap : ∀ g, rb (.slice sa L.sh.length sc) = some g → rb (.slice qa L.q.length qc) ≠ some g) (hbw : base ≤ w.heap.size) (hbu : ¬ L.bu = 0) (hf : L.q.length = 10) :
    Calls Tryz.prog 27 #[.agg #[.int .i64 L.mem, .int .i64 L.own, .slice sa L.sh.length sc, .int .i64 L.bu, .int .i64 L.wt, .int .i64 L.ac, .slice qa L.q.length qc], .agg #[.int .i64 2, .int .i64 c, .int .i64 to, .int .i64 l, .int .i64 t, .int .i64 d]] w (LnG w base (.slice sa L.sh.length sc) (.slice qa L.q.length qc) L [] false) := by
  have hbv : Hid ((L.bu == 0) = false) := hide (by simpa using hbu)
  clear hbu
  have HB : Hid (Mv (fun g => rb (.slice qa L.q.length qc) = some g) w w) := hide (Mv.refl _ _)
  have RWl : ∀ g, (rb (.slice sa L.sh.length sc) = some g ∨ rb (.slice qa L.q.length qc) = some g ∨ rb (.slice none 0 0) = some g) → g < w.heap.size := fun g h => h.elim (fun e => (hs.lt g e).2) (fun h => h.elim (fun e => (hq.lt g e).2) (fun e => absurd e (by simp [rb])))
  have RS := hide hs; have RQ := hide hq; clear hs hq
  have RT : Hid (Rg w base (.slice none 0 0) 6 0 (gF (f6 []))) := hide (rg_nil _ _ _ _)
  have AP : Apt (.slice sa L.sh.length sc) (.slice qa L.q.length qc) (.slice none 0 0) := ⟨fun g e => ⟨hap g e, by simp [rb]⟩, fun g e => by simp [rb]⟩
  have FO : ∀ g, (rb (.slice sa L.sh.length sc) = some g ∨ rb (.slice qa L.q.length qc) = some g ∨ rb (.slice none 0 0) = some g) → (rb (.slice sa L.sh.length sc) = some g ∨ rb (.slice qa L.q.length qc) = some g) ∨ w.heap.size ≤ g := fun g h => h.elim (fun e => .inl (.inl e)) (fun h => h.elim (fun e => .inl (.inr e)) (fun e => absurd e (by simp [rb])))
  go_enter Tryz.func27, Tryz.ntmps27
  refine sk fun K1 h1 => rl ?_
  refine sbp #[.int .i64 L.mem, .int .i64 L.own, .slice sa L.sh.length sc, .int .i64 L.bu, .int .i64 L.wt, .int .i64 L.ac, .slice qa L.q.length qc] 31 fun V1 b0 hb0 m1 bx0 => ?_
  have o_0 : w.heap.size ≤ b0 := by omega
  replace RS := hide (RS.out.mv m1 (fun _ _ h => h))
  replace RQ := hide (RQ.out.mv m1 (fun _ _ h => h))
  replace RT := hide (RT.out.mv m1 (fun _ _ h => h))
  clear hb0
  refine sbp #[.int .i64 2, .int .i64 c, .int .i64 to, .int .i64 l, .int .i64 t, .int .i64 d] 36 fun V2 b1 hb1 m2 bx1 => ?_
  have o0_1 := Xlo bx0 hb1
  replace RS := hide (RS.out.mv m2 (fun _ _ h => h))
  replace RQ := hide (RQ.out.mv m2 (fun _ _ h => h))
  replace RT := hide (RT.out.mv m2 (fun _ _ h => h))
  clear hb1
  refine sbp #[.int .i64 0, .int .i64 0, .slice none 0 0, .int .i64 0, .int .i64 0, .int .i64 0, .slice none 0 0] 31 fun V3 b2 hb2 m3 bx2 => ?_
  have o1_2 := Xlo bx1 hb2
  replace RS := hide (RS.out.mv m3 (fun _ _ h => h))
  replace RQ := hide (RQ.out.mv m3 (fun _ _ h => h))
  replace RT := hide (RT.out.mv m3 (fun _ _ h => h))
  clear hb2
  refine sv (.slice none 0 0) ?_
  refine sv (.bool false) ?_
  refine nt (h1 _ _ (sk fun K2 h2 => sk fun K3 h3 => rl ?_)); clear h1 K1
  replace HB := Xhn (Xhn (Xhn HB m1) m2) m3; replace bx0 := Xbn (Xbn bx0 m2) m3; replace bx1 := Xbn bx1 m3
  have NB : Hid (∀ g, (rb (.slice sa L.sh.length sc) = some g ∨ rb (.slice qa L.q.length qc) = some g ∨ rb (.slice none 0 0) = some g) → g ≠ b0 ∧ g ≠ b1 ∧ g ≠ b2) := hide (fun g h => by have := RWl g h; omega)
  clear RWl
  refine sv (.pointer (some ⟨b1, 0, none⟩)) ?_
  refine sl 0 bx1 ?_
  refine nt (h3 _ _ (wp_block (sk fun K4 h4 => sk fun K5 h5 => rl ?_))); clear h3 K3
  refine sg (.bool false) ?_
  refine sv (.bool false) ?_
  refine nt (h5 _ _ (cf (rl ?_))); clear h5 K5
  refine sg (.bool true) ?_
  refine sv (.bool true) ?_
  refine nt (h4 _ _ (ct (sk fun K6 h6 => rl ?_))); clear h4 K4
  refine sv (.pointer (some ⟨b1, 1, none⟩)) ?_
  refine sl 1 bx1 ?_
  refine sv (.pointer (some ⟨b1, 0, none⟩)) ?_
  refine sl 0 bx1 ?_
  refine sv (.agg #[.int .i64 c, .int .i64 2]) ?_
  refine sbp #[.int .i64 0, .int .i64 0] 71 fun V4 b3 hb3 m4 bx3 => ?_
  have o2_3 := Xlo bx2 hb3
  replace NB : Hid (∀ g, (rb (.slice sa L.sh.length sc) = some g ∨ rb (.slice qa L.q.length qc) = some g ∨ rb (.slice none 0 0) = some g) → g ≠ b0 ∧ g ≠ b1 ∧ g ≠ b2 ∧ g ≠ b3) := hide (fun g h => by have h1 := NB.out g h; have h2 := rows_lt RS.out RQ.out RT.out g h; exact (by omega))
  replace RS := hide (RS.out.mv m4 (fun _ _ h => h))
  replace RQ := hide (RQ.out.mv m4 (fun _ _ h => h))
  replace RT := hide (RT.out.mv m4 (fun _ _ h => h))
  clear hb3
  refine ss2 (.int .i64 c) (.int .i64 2) bx3 fun V5 m5 bx3 => ?_
  replace RS := hide (RS.out.mv m5 (fun g e h => by have h : g = b3 := h; have := NB.out g (.inl e); omega))
  replace RQ := hide (RQ.out.mv m5 (fun g e h => by have h : g = b3 := h; have := NB.out g (.inr (.inl e)); omega))
  replace RT := hide (RT.out.mv m5 (fun g e h => by have h : g = b3 := h; have := NB.out g (.inr (.inr e)); omega))
  refine nt (h6 _ _ (sk fun K7 h7 => sk fun K8 h8 => rl ?_)); clear h6 K6
  refine sv (.pointer (some ⟨b0, 3, none⟩)) ?_
  replace bx0 := Xbb (Xbn bx0 m4) m5
  refine sl 3 bx0 ?_
  refine sg (.bool false) (h := by have hd := hbv.out; go_simp) ?_
  refine nt (h8 _ _ (cf (wp_skip (then_normal (h7 _ _ (sk fun K9 h9 => sk fun K10 h10 => rl ?_)))))); clear h8 K8; clear h7 K7
  refine sv (.pointer (some ⟨b0, 6, none⟩)) ?_
  refine sl 6 bx0 ?_
  refine sg (.int .i64 (L.q.length : Int)) ?_
  refine sg (.bool true) (h := by have hd : decide (L.q.length = 10) = true := decide_eq_true (by omega); have hd2 : ((L.q.length : Int) == 10) = true := (by simp; omega); go_simp) ?_
  refine sv (.bool true) ?_
  with_reducible refine sp ?_
  with_reducible refine sp ?_
  with_reducible refine sp ?_
  with_reducible refine sp ?_
  refine sg (.bool true) ?_
  refine nt (h10 _ _ (ct (sk fun K11 h11 => rl ?_))); clear h10 K10
  refine sg (.agg #[.int .i64 L.mem, .int .i64 L.own, .slice sa L.sh.length sc, .int .i64 L.bu, .int .i64 L.wt, .int .i64 L.ac, .slice qa L.q.length qc]) (h := by have z0 := cell_box 0 (bx0.out) rfl; have z1 := cell_box 1 (bx0.out) rfl; have z2 := cell_box 2 (bx0.out) rfl; have z3 := cell_box 3 (bx0.out) rfl; have z4 := cell_box 4 (bx0.out) rfl; have z5 := cell_box 5 (bx0.out) rfl; have z6 := cell_box 6 (bx0.out) rfl; go_simp) ?_
  replace bx2 := Xbb (Xbn bx2 m4) m5
  refine ss7 (.int .i64 L.mem) (.int .i64 L.own) (.slice sa L.sh.length sc) (.int .i64 L.bu) (.int .i64 L.wt) (.int .i64 L.ac) (.slice qa L.q.length qc) bx2 fun V6 m6 bx2 => ?_
  replace RS := hide (RS.out.mv m6 (fun g e h => by have h : g = b2 := h; have := NB.out g (.inl e); omega))
  replace RQ := hide (RQ.out.mv m6 (fun g e h => by have h : g = b2 := h; have := NB.out g (.inr (.inl e)); omega))
  replace RT := hide (RT.out.mv m6 (fun g e h => by have h : g = b2 := h; have := NB.out g (.inr (.inr e)); omega))
  refine sv (.slice none 0 0) ?_
  refine sv (.bool false) ?_
  refine nt (h11 _ _ (wp_ret (then_ret (inb_ret (then_ret ?_))))); clear h11 K11; clear h9 K9; clear h2 K2
  replace HB := Xhb (Xhb (Xhn HB m4) m5) m6; replace bx1 := Xbb (Xbb (Xbn bx1 m4) m5) m6; replace bx0 := Xbb bx0 m6; replace bx3 := Xbb bx3 m6
  have q2_0 := cell_box 0 bx2.out rfl
  have q2_1 := cell_box 1 bx2.out rfl
  have q2_2 := cell_box 2 bx2.out rfl
  have q2_3 := cell_box 3 bx2.out rfl
  have q2_4 := cell_box 4 bx2.out rfl
  have q2_5 := cell_box 5 bx2.out rfl
  have q2_6 := cell_box 6 bx2.out rfl
  exact bodyPost_ret (v := .tuple #[.agg #[.int .i64 L.mem, .int .i64 L.own, .slice sa L.sh.length sc, .int .i64 L.bu, .int .i64 L.wt, .int .i64 L.ac, .slice qa L.q.length qc], .slice none 0 0, .bool false]) (by simp [results, Tryz.results27, go_sem, q2_0, q2_1, q2_2, q2_3, q2_4, q2_5, q2_6]) rfl ⟨_, _, _, _, _, _, rfl, RS.out, RQ.out, RT.out, AP, FO, HB.out⟩

set_option maxRecDepth 20000 in
set_option maxHeartbeats 2000000 in
theorem sgot_2_waits (c to l t d : Int) (base : Nat) (L : Hm.Ln) (sa : Option Addr) (sc : Nat) (qa : Option Addr) (qc : Nat) (w : World) (hs : Rg w base (.slice sa L.sh.length sc) 1 L.sh.length (gF (f1 L.sh))) (hq : Rg w base (.slice qa L.q.length qc) 2 L.q.length (gF (f2 L.q))) (hap : ∀ g, rb (.slice sa L.sh.length sc) = some g → rb (.slice qa L.q.length qc) ≠ some g) (hbw : base ≤ w.heap.size) (hbu : ¬ L.bu = 0) (hn : L.q.length < 10) (hw : ((L.q.any fun r => r.1 == c) || (L.bu == c)) = true) :
    Calls Tryz.prog 27 #[.agg #[.int .i64 L.mem, .int .i64 L.own, .slice sa L.sh.length sc, .int .i64 L.bu, .int .i64 L.wt, .int .i64 L.ac, .slice qa L.q.length qc], .agg #[.int .i64 2, .int .i64 c, .int .i64 to, .int .i64 l, .int .i64 t, .int .i64 d]] w (LnG w base (.slice sa L.sh.length sc) (.slice qa L.q.length qc) L [] false) := by
  have hbv : Hid ((L.bu == 0) = false) := hide (by simpa using hbu)
  clear hbu
  have HW := hide hw; clear hw
  have HB : Hid (Mv (fun g => rb (.slice qa L.q.length qc) = some g) w w) := hide (Mv.refl _ _)
  have RWl : ∀ g, (rb (.slice sa L.sh.length sc) = some g ∨ rb (.slice qa L.q.length qc) = some g ∨ rb (.slice none 0 0) = some g) → g < w.heap.size := fun g h => h.elim (fun e => (hs.lt g e).2) (fun h => h.elim (fun e => (hq.lt g e).2) (fun e => absurd e (by simp [rb])))
  have RS := hide hs; have RQ := hide hq; clear hs hq
  have RT : Hid (Rg w base (.slice none 0 0) 6 0 (gF (f6 []))) := hide (rg_nil _ _ _ _)
  have AP : Apt (.slice sa L.sh.length sc) (.slice qa L.q.length qc) (.slice none 0 0) := ⟨fun g e => ⟨hap g e, by simp [rb]⟩, fun g e => by simp [rb]⟩
  have FO : ∀ g, (rb (.slice sa L.sh.length sc) = some g ∨ rb (.slice qa L.q.length qc) = some g ∨ rb (.slice none 0 0) = some g) → (rb (.slice sa L.sh.length sc) = some g ∨ rb (.slice qa L.q.length qc) = some g) ∨ w.heap.size ≤ g := fun g h => h.elim (fun e => .inl (.inl e)) (fun h => h.elim (fun e => .inl (.inr e)) (fun e => absurd e (by simp [rb])))
  go_enter Tryz.func27, Tryz.ntmps27
  refine sk fun K1 h1 => rl ?_
  refine sbp #[.int .i64 L.mem, .int .i64 L.own, .slice sa L.sh.length sc, .int .i64 L.bu, .int .i64 L.wt, .int .i64 L.ac, .slice qa L.q.length qc] 31 fun V1 b0 hb0 m1 bx0 => ?_
  have o_0 : w.heap.size ≤ b0 := by omega
  replace RS := hide (RS.out.mv m1 (fun _ _ h => h))
  replace RQ := hide (RQ.out.mv m1 (fun _ _ h => h))
  replace RT := hide (RT.out.mv m1 (fun _ _ h => h))
  clear hb0
  refine sbp #[.int .i64 2, .int .i64 c, .int .i64 to, .int .i64 l, .int .i64 t, .int .i64 d] 36 fun V2 b1 hb1 m2 bx1 => ?_
  have o0_1 := Xlo bx0 hb1
  replace RS := hide (RS.out.mv m2 (fun _ _ h => h))
  replace RQ := hide (RQ.out.mv m2 (fun _ _ h => h))
  replace RT := hide (RT.out.mv m2 (fun _ _ h => h))
  clear hb1
  refine sbp #[.int .i64 0, .int .i64 0, .slice none 0 0, .int .i64 0, .int .i64 0, .int .i64 0, .slice none 0 0] 31 fun V3 b2 hb2 m3 bx2 => ?_
  have o1_2 := Xlo bx1 hb2
  replace RS := hide (RS.out.mv m3 (fun _ _ h => h))
  replace RQ := hide (RQ.out.mv m3 (fun _ _ h => h))
  replace RT := hide (RT.out.mv m3 (fun _ _ h => h))
  clear hb2
  refine sv (.slice none 0 0) ?_
  refine sv (.bool false) ?_
  refine nt (h1 _ _ (sk fun K2 h2 => sk fun K3 h3 => rl ?_)); clear h1 K1
  replace HB := Xhn (Xhn (Xhn HB m1) m2) m3; replace bx0 := Xbn (Xbn bx0 m2) m3; replace bx1 := Xbn bx1 m3
  have NB : Hid (∀ g, (rb (.slice sa L.sh.length sc) = some g ∨ rb (.slice qa L.q.length qc) = some g ∨ rb (.slice none 0 0) = some g) → g ≠ b0 ∧ g ≠ b1 ∧ g ≠ b2) := hide (fun g h => by have := RWl g h; omega)
  clear RWl
  refine sv (.pointer (some ⟨b1, 0, none⟩)) ?_
  refine sl 0 bx1 ?_
  refine nt (h3 _ _ (wp_block (sk fun K4 h4 => sk fun K5 h5 => rl ?_))); clear h3 K3
  refine sg (.bool false) ?_
  refine sv (.bool false) ?_
  refine nt (h5 _ _ (cf (rl ?_))); clear h5 K5
  refine sg (.bool true) ?_
  refine sv (.bool true) ?_
  refine nt (h4 _ _ (ct (sk fun K6 h6 => rl ?_))); clear h4 K4
  refine sv (.pointer (some ⟨b1, 1, none⟩)) ?_
  refine sl 1 bx1 ?_
  refine sv (.pointer (some ⟨b1, 0, none⟩)) ?_
  refine sl 0 bx1 ?_
  refine sv (.agg #[.int .i64 c, .int .i64 2]) ?_
  refine sbp #[.int .i64 0, .int .i64 0] 71 fun V4 b3 hb3 m4 bx3 => ?_
  have o2_3 := Xlo bx2 hb3
  replace NB : Hid (∀ g, (rb (.slice sa L.sh.length sc) = some g ∨ rb (.slice qa L.q.length qc) = some g ∨ rb (.slice none 0 0) = some g) → g ≠ b0 ∧ g ≠ b1 ∧ g ≠ b2 ∧ g ≠ b3) := hide (fun g h => by have h1 := NB.out g h; have h2 := rows_lt RS.out RQ.out RT.out g h; exact (by omega))
  replace RS := hide (RS.out.mv m4 (fun _ _ h => h))
  replace RQ := hide (RQ.out.mv m4 (fun _ _ h => h))
  replace RT := hide (RT.out.mv m4 (fun _ _ h => h))
  clear hb3
  refine ss2 (.int .i64 c) (.int .i64 2) bx3 fun V5 m5 bx3 => ?_
  replace RS := hide (RS.out.mv m5 (fun g e h => by have h : g = b3 := h; have := NB.out g (.inl e); omega))
  replace RQ := hide (RQ.out.mv m5 (fun g e h => by have h : g = b3 := h; have := NB.out g (.inr (.inl e)); omega))
  replace RT := hide (RT.out.mv m5 (fun g e h => by have h : g = b3 := h; have := NB.out g (.inr (.inr e)); omega))
  refine nt (h6 _ _ (sk fun K7 h7 => sk fun K8 h8 => rl ?_)); clear h6 K6
  refine sv (.pointer (some ⟨b0, 3, none⟩)) ?_
  replace bx0 := Xbb (Xbn bx0 m4) m5
  refine sl 3 bx0 ?_
  refine sg (.bool false) (h := by have hd := hbv.out; go_simp) ?_
  refine nt (h8 _ _ (cf (wp_skip (then_normal (h7 _ _ (sk fun K9 h9 => sk fun K10 h10 => rl ?_)))))); clear h8 K8; clear h7 K7
  refine sv (.pointer (some ⟨b0, 6, none⟩)) ?_
  refine sl 6 bx0 ?_
  refine sg (.int .i64 (L.q.length : Int)) ?_
  refine sg (.bool false) (h := by have hd : decide (L.q.length = 10) = false := decide_eq_false (by omega); have hd2 : ((L.q.length : Int) == 10) = false := (by simp; omega); go_simp) ?_
  refine sv (.bool false) ?_
  refine sg (.agg #[.int .i64 L.mem, .int .i64 L.own, .slice sa L.sh.length sc, .int .i64 L.bu, .int .i64 L.wt, .int .i64 L.ac, .slice qa L.q.length qc]) (h := by have z0 := cell_box 0 (bx0.out) rfl; have z1 := cell_box 1 (bx0.out) rfl; have z2 := cell_box 2 (bx0.out) rfl; have z3 := cell_box 3 (bx0.out) rfl; have z4 := cell_box 4 (bx0.out) rfl; have z5 := cell_box 5 (bx0.out) rfl; have z6 := cell_box 6 (bx0.out) rfl; go_simp) ?_
  refine sv (.pointer (some ⟨b1, 1, none⟩)) ?_
  replace bx1 := Xbb (Xbn bx1 m4) m5
  refine sl 1 bx1 ?_
  refine sw_call (by rfl) (by first | rfl | (go_simp; done)) (l4Waits_any L c sa sc qa qc V5 RQ.out.sg (by omega)) ?_
  rintro e V6 ⟨rfl, hbl⟩
  have m6 : Mv (nob) V5 V6 := Mv.of_below hbl
  refine ⟨_, rfl, ?_⟩
  refine pt ?_
  replace RS := hide (RS.out.mv m6 (fun _ _ h => h))
  replace RQ := hide (RQ.out.mv m6 (fun _ _ h => h))
  replace RT := hide (RT.out.mv m6 (fun _ _ h => h))
  clear hbl
  rw [HW.out]
  refine sg (.bool true) ?_
  refine nt (h10 _ _ (ct (sk fun K11 h11 => rl ?_))); clear h10 K10
  replace bx0 := Xbn bx0 m6
  refine sg (.agg #[.int .i64 L.mem, .int .i64 L.own, .slice sa L.sh.length sc, .int .i64 L.bu, .int .i64 L.wt, .int .i64 L.ac, .slice qa L.q.length qc]) (h := by have z0 := cell_box 0 (bx0.out) rfl; have z1 := cell_box 1 (bx0.out) rfl; have z2 := cell_box 2 (bx0.out) rfl; have z3 := cell_box 3 (bx0.out) rfl; have z4 := cell_box 4 (bx0.out) rfl; have z5 := cell_box 5 (bx0.out) rfl; have z6 := cell_box 6 (bx0.out) rfl; go_simp) ?_
  replace bx2 := Xbn (Xbb (Xbn bx2 m4) m5) m6
  refine ss7 (.int .i64 L.mem) (.int .i64 L.own) (.slice sa L.sh.length sc) (.int .i64 L.bu) (.int .i64 L.wt) (.int .i64 L.ac) (.slice qa L.q.length qc) bx2 fun V7 m7 bx2 => ?_
  replace RS := hide (RS.out.mv m7 (fun g e h => by have h : g = b2 := h; have := NB.out g (.inl e); omega))
  replace RQ := hide (RQ.out.mv m7 (fun g e h => by have h : g = b2 := h; have := NB.out g (.inr (.inl e)); omega))
  replace RT := hide (RT.out.mv m7 (fun g e h => by have h : g = b2 := h; have := NB.out g (.inr (.inr e)); omega))
  refine sv (.slice none 0 0) ?_
  refine sv (.bool false) ?_
  refine nt (h11 _ _ (wp_ret (then_ret (inb_ret (then_ret ?_))))); clear h11 K11; clear h9 K9; clear h2 K2
  replace HB := Xhb (Xhn (Xhb (Xhn HB m4) m5) m6) m7; replace bx1 := Xbb (Xbn bx1 m6) m7; replace bx3 := Xbb (Xbn bx3 m6) m7; replace bx0 := Xbb bx0 m7
  have q2_0 := cell_box 0 bx2.out rfl
  have q2_1 := cell_box 1 bx2.out rfl
  have q2_2 := cell_box 2 bx2.out rfl
  have q2_3 := cell_box 3 bx2.out rfl
  have q2_4 := cell_box 4 bx2.out rfl
  have q2_5 := cell_box 5 bx2.out rfl
  have q2_6 := cell_box 6 bx2.out rfl
  exact bodyPost_ret (v := .tuple #[.agg #[.int .i64 L.mem, .int .i64 L.own, .slice sa L.sh.length sc, .int .i64 L.bu, .int .i64 L.wt, .int .i64 L.ac, .slice qa L.q.length qc], .slice none 0 0, .bool false]) (by simp [results, Tryz.results27, go_sem, q2_0, q2_1, q2_2, q2_3, q2_4, q2_5, q2_6]) rfl ⟨_, _, _, _, _, _, rfl, RS.out, RQ.out, RT.out, AP, FO, HB.out⟩

set_option maxRecDepth 20000 in
set_option maxHeartbeats 2000000 in
theorem sgot_2_yes (c to l t d : Int) (base : Nat) (L : Hm.Ln) (sa : Option Addr) (sc : Nat) (qa : Option Addr) (qc : Nat) (w : World) (hs : Rg w base (.slice sa L.sh.length sc) 1 L.sh.length (gF (f1 L.sh))) (hq : Rg w base (.slice qa L.q.length qc) 2 L.q.length (gF (f2 L.q))) (hap : ∀ g, rb (.slice sa L.sh.length sc) = some g → rb (.slice qa L.q.length qc) ≠ some g) (hbw : base ≤ w.heap.size) (hbu : ¬ L.bu = 0) (hn : L.q.length < 10) (hw : ((L.q.any fun r => r.1 == c) || (L.bu == c)) = false) :
    Calls Tryz.prog 27 #[.agg #[.int .i64 L.mem, .int .i64 L.own, .slice sa L.sh.length sc, .int .i64 L.bu, .int .i64 L.wt, .int .i64 L.ac, .slice qa L.q.length qc], .agg #[.int .i64 2, .int .i64 c, .int .i64 to, .int .i64 l, .int .i64 t, .int .i64 d]] w (LnG w base (.slice sa L.sh.length sc) (.slice qa L.q.length qc) { L with q := L.q ++ [(c, 2)] } [] true) := by
  have hbv : Hid ((L.bu == 0) = false) := hide (by simpa using hbu)
  clear hbu
  have HW := hide hw; clear hw
  have HB : Hid (Mv (fun g => rb (.slice qa L.q.length qc) = some g) w w) := hide (Mv.refl _ _)
  have RWl : ∀ g, (rb (.slice sa L.sh.length sc) = some g ∨ rb (.slice qa L.q.length qc) = some g ∨ rb (.slice none 0 0) = some g) → g < w.heap.size := fun g h => h.elim (fun e => (hs.lt g e).2) (fun h => h.elim (fun e => (hq.lt g e).2) (fun e => absurd e (by simp [rb])))
  have RS := hide hs; have RQ := hide hq; clear hs hq
  have RT : Hid (Rg w base (.slice none 0 0) 6 0 (gF (f6 []))) := hide (rg_nil _ _ _ _)
  have AP : Apt (.slice sa L.sh.length sc) (.slice qa L.q.length qc) (.slice none 0 0) := ⟨fun g e => ⟨hap g e, by simp [rb]⟩, fun g e => by simp [rb]⟩
  have FO : ∀ g, (rb (.slice sa L.sh.length sc) = some g ∨ rb (.slice qa L.q.length qc) = some g ∨ rb (.slice none 0 0) = some g) → (rb (.slice sa L.sh.length sc) = some g ∨ rb (.slice qa L.q.length qc) = some g) ∨ w.heap.size ≤ g := fun g h => h.elim (fun e => .inl (.inl e)) (fun h => h.elim (fun e => .inl (.inr e)) (fun e => absurd e (by simp [rb])))
  go_enter Tryz.func27, Tryz.ntmps27
  refine sk fun K1 h1 => rl ?_
  refine sbp #[.int .i64 L.mem, .int .i64 L.own, .slice sa L.sh.length sc, .int .i64 L.bu, .int .i64 L.wt, .int .i64 L.ac, .slice qa L.q.length qc] 31 fun V1 b0 hb0 m1 bx0 => ?_
  have o_0 : w.heap.size ≤ b0 := by omega
  replace RS := hide (RS.out.mv m1 (fun _ _ h => h))
  replace RQ := hide (RQ.out.mv m1 (fun _ _ h => h))
  replace RT := hide (RT.out.mv m1 (fun _ _ h => h))
  clear hb0
  refine sbp #[.int .i64 2, .int .i64 c, .int .i64 to, .int .i64 l, .int .i64 t, .int .i64 d] 36 fun V2 b1 hb1 m2 bx1 => ?_
  have o0_1 := Xlo bx0 hb1
  replace RS := hide (RS.out.mv m2 (fun _ _ h => h))
  replace RQ := hide (RQ.out.mv m2 (fun _ _ h => h))
  replace RT := hide (RT.out.mv m2 (fun _ _ h => h))
  clear hb1
  refine sbp #[.int .i64 0, .int .i64 0, .slice none 0 0, .int .i64 0, .int .i64 0, .int .i64 0, .slice none 0 0] 31 fun V3 b2 hb2 m3 bx2 => ?_
  have o1_2 := Xlo bx1 hb2
  replace RS := hide (RS.out.mv m3 (fun _ _ h => h))
  replace RQ := hide (RQ.out.mv m3 (fun _ _ h => h))
  replace RT := hide (RT.out.mv m3 (fun _ _ h => h))
  clear hb2
  refine sv (.slice none 0 0) ?_
  refine sv (.bool false) ?_
  refine nt (h1 _ _ (sk fun K2 h2 => sk fun K3 h3 => rl ?_)); clear h1 K1
  replace HB := Xhn (Xhn (Xhn HB m1) m2) m3; replace bx0 := Xbn (Xbn bx0 m2) m3; replace bx1 := Xbn bx1 m3
  have NB : Hid (∀ g, (rb (.slice sa L.sh.length sc) = some g ∨ rb (.slice qa L.q.length qc) = some g ∨ rb (.slice none 0 0) = some g) → g ≠ b0 ∧ g ≠ b1 ∧ g ≠ b2) := hide (fun g h => by have := RWl g h; omega)
  clear RWl
  refine sv (.pointer (some ⟨b1, 0, none⟩)) ?_
  refine sl 0 bx1 ?_
  refine nt (h3 _ _ (wp_block (sk fun K4 h4 => sk fun K5 h5 => rl ?_))); clear h3 K3
  refine sg (.bool false) ?_
  refine sv (.bool false) ?_
  refine nt (h5 _ _ (cf (rl ?_))); clear h5 K5
  refine sg (.bool true) ?_
  refine sv (.bool true) ?_
  refine nt (h4 _ _ (ct (sk fun K6 h6 => rl ?_))); clear h4 K4
  refine sv (.pointer (some ⟨b1, 1, none⟩)) ?_
  refine sl 1 bx1 ?_
  refine sv (.pointer (some ⟨b1, 0, none⟩)) ?_
  refine sl 0 bx1 ?_
  refine sv (.agg #[.int .i64 c, .int .i64 2]) ?_
  refine sbp #[.int .i64 0, .int .i64 0] 71 fun V4 b3 hb3 m4 bx3 => ?_
  have o2_3 := Xlo bx2 hb3
  replace NB : Hid (∀ g, (rb (.slice sa L.sh.length sc) = some g ∨ rb (.slice qa L.q.length qc) = some g ∨ rb (.slice none 0 0) = some g) → g ≠ b0 ∧ g ≠ b1 ∧ g ≠ b2 ∧ g ≠ b3) := hide (fun g h => by have h1 := NB.out g h; have h2 := rows_lt RS.out RQ.out RT.out g h; exact (by omega))
  replace RS := hide (RS.out.mv m4 (fun _ _ h => h))
  replace RQ := hide (RQ.out.mv m4 (fun _ _ h => h))
  replace RT := hide (RT.out.mv m4 (fun _ _ h => h))
  clear hb3
  refine ss2 (.int .i64 c) (.int .i64 2) bx3 fun V5 m5 bx3 => ?_
  replace RS := hide (RS.out.mv m5 (fun g e h => by have h : g = b3 := h; have := NB.out g (.inl e); omega))
  replace RQ := hide (RQ.out.mv m5 (fun g e h => by have h : g = b3 := h; have := NB.out g (.inr (.inl e)); omega))
  replace RT := hide (RT.out.mv m5 (fun g e h => by have h : g = b3 := h; have := NB.out g (.inr (.inr e)); omega))
  refine nt (h6 _ _ (sk fun K7 h7 => sk fun K8 h8 => rl ?_)); clear h6 K6
  refine sv (.pointer (some ⟨b0, 3, none⟩)) ?_
  replace bx0 := Xbb (Xbn bx0 m4) m5
  refine sl 3 bx0 ?_
  refine sg (.bool false) (h := by have hd := hbv.out; go_simp) ?_
  refine nt (h8 _ _ (cf (wp_skip (then_normal (h7 _ _ (sk fun K9 h9 => sk fun K10 h10 => rl ?_)))))); clear h8 K8; clear h7 K7
  refine sv (.pointer (some ⟨b0, 6, none⟩)) ?_
  refine sl 6 bx0 ?_
  refine sg (.int .i64 (L.q.length : Int)) ?_
  refine sg (.bool false) (h := by have hd : decide (L.q.length = 10) = false := decide_eq_false (by omega); have hd2 : ((L.q.length : Int) == 10) = false := (by simp; omega); go_simp) ?_
  refine sv (.bool false) ?_
  refine sg (.agg #[.int .i64 L.mem, .int .i64 L.own, .slice sa L.sh.length sc, .int .i64 L.bu, .int .i64 L.wt, .int .i64 L.ac, .slice qa L.q.length qc]) (h := by have z0 := cell_box 0 (bx0.out) rfl; have z1 := cell_box 1 (bx0.out) rfl; have z2 := cell_box 2 (bx0.out) rfl; have z3 := cell_box 3 (bx0.out) rfl; have z4 := cell_box 4 (bx0.out) rfl; have z5 := cell_box 5 (bx0.out) rfl; have z6 := cell_box 6 (bx0.out) rfl; go_simp) ?_
  refine sv (.pointer (some ⟨b1, 1, none⟩)) ?_
  replace bx1 := Xbb (Xbn bx1 m4) m5
  refine sl 1 bx1 ?_
  refine sw_call (by rfl) (by first | rfl | (go_simp; done)) (l4Waits_any L c sa sc qa qc V5 RQ.out.sg (by omega)) ?_
  rintro e V6 ⟨rfl, hbl⟩
  have m6 : Mv (nob) V5 V6 := Mv.of_below hbl
  refine ⟨_, rfl, ?_⟩
  refine pt ?_
  replace RS := hide (RS.out.mv m6 (fun _ _ h => h))
  replace RQ := hide (RQ.out.mv m6 (fun _ _ h => h))
  replace RT := hide (RT.out.mv m6 (fun _ _ h => h))
  clear hbl
  rw [HW.out]
  refine sg (.bool false) ?_
  refine nt (h10 _ _ (cf (wp_skip (then_normal (h9 _ _ (sk fun K11 h11 => rl ?_)))))); clear h10 K10; clear h9 K9
  replace HB := Xhn (Xhb (Xhn HB m4) m5) m6; replace bx2 := Xbn (Xbb (Xbn bx2 m4) m5) m6; replace bx0 := Xbn bx0 m6; replace bx1 := Xbn bx1 m6; replace bx3 := Xbn bx3 m6
  refine sv (.pointer (some ⟨b0, 6, none⟩)) ?_
  refine sl 6 bx0 ?_
  refine sg (.agg #[.int .i64 c, .int .i64 2]) (h := by have z0 := cell_box 0 (bx3.out) rfl; have z1 := cell_box 1 (bx3.out) rfl; go_simp) ?_
  refine sbs 1 #[.int .i64 c, .int .i64 2] 71 fun V7 b4 hb4 m7 bx4 => ?_
  have o3_4 := Xlo bx3 hb4
  replace NB : Hid (∀ g, (rb (.slice sa L.sh.length sc) = some g ∨ rb (.slice qa L.q.length qc) = some g ∨ rb (.slice none 0 0) = some g) → g ≠ b0 ∧ g ≠ b1 ∧ g ≠ b2 ∧ g ≠ b3 ∧ g ≠ b4) := hide (fun g h => by have h1 := NB.out g h; have h2 := rows_lt RS.out RQ.out RT.out g h; exact (by omega))
  replace RS := hide (RS.out.mv m7 (fun _ _ h => h))
  replace RQ := hide (RQ.out.mv m7 (fun _ _ h => h))
  replace RT := hide (RT.out.mv m7 (fun _ _ h => h))
  clear hb4
  replace HB := Xhn HB m7
  have szV := HB.out.size
  have hbV := Nat.le_trans hbw szV
  have NBq := fun g e => NB.out g (.inr (.inl e))
  have hs1 := fun g e => (RS.out.lt g e).2
  replace bx0 := Xbn bx0 m7
  have bz_b0 := lt_of_block bx0.out
  replace bx1 := Xbn bx1 m7
  have bz_b1 := lt_of_block bx1.out
  replace bx2 := Xbn bx2 m7
  have bz_b2 := lt_of_block bx2.out
  replace bx3 := Xbn bx3 m7
  have bz_b3 := lt_of_block bx3.out
  have bz_b4 := lt_of_block bx4.out
  obtain ⟨gx, ox, kx, V8, hrun, hgr, hrg, hgx⟩ := add_req V7 base (.slice qa L.q.length qc) L.q c 2 29 b4 1 bx4.out RQ.out (by omega) hbV
  have m8 : Mv (fun x => rb (.slice qa L.q.length qc) = some x) V7 V8 := Mv.of_grown hgr
  refine sw_valW (by rfl) (run_append_op _ _ 29 (by rfl) (by rfl) (by rfl) hrun) ?_
  refine pt ?_
  replace HB := hide (HB.out.step m8 (fun g hg e => e))
  replace bx0 := hide (m8.box bx0.out (fun h => by have := NBq _ h; omega))
  replace bx1 := hide (m8.box bx1.out (fun h => by have := NBq _ h; omega))
  replace bx2 := hide (m8.box bx2.out (fun h => by have := NBq _ h; omega))
  replace RS := hide (RS.out.mv m8 (fun g e h => (AP.1 g e).1 h))
  replace RT := hide (RT.out.mv m8 (fun g e h => AP.2 g h e))
  replace bx3 := hide (m8.box bx3.out (fun h => by have := NBq _ h; omega))
  replace RQ := hide hrg
  have hnb : ∀ g, rb (.slice (some ⟨gx, ox, none⟩) (L.q.length + 1) kx) = some g → rb (.slice qa L.q.length qc) = some g ∨ V7.heap.size ≤ g := fun g e => by have e2 : gx = g := rb_blk e; subst e2; exact hgx
  replace NB : Hid (∀ g, (rb (.slice sa L.sh.length sc) = some g ∨ rb (.slice (some ⟨gx, ox, none⟩) (L.q.length + 1) kx) = some g ∨ rb (.slice none 0 0) = some g) → g ≠ b0 ∧ g ≠ b1 ∧ g ≠ b2 ∧ g ≠ b3) := hide (fun g h => h.elim (fun e => by have := NB.out g (.inl e); omega) (fun h => h.elim (fun e => (hnb g e).elim (fun q => by have := NBq g q; omega) (fun q => by omega)) (fun e => absurd e (by simp [rb]))))
  replace FO : ∀ g, (rb (.slice sa L.sh.length sc) = some g ∨ rb (.slice (some ⟨gx, ox, none⟩) (L.q.length + 1) kx) = some g ∨ rb (.slice none 0 0) = some g) → (rb (.slice sa L.sh.length sc) = some g ∨ rb (.slice qa L.q.length qc) = some g) ∨ w.heap.size ≤ g := fun g h => h.elim (fun e => .inl (.inl e)) (fun h => h.elim (fun e => (hnb g e).elim (fun q => .inl (.inr q)) (fun q => .inr (Nat.le_trans szV q))) (fun e => absurd e (by simp [rb])))
  replace AP : Apt (.slice sa L.sh.length sc) (.slice (some ⟨gx, ox, none⟩) (L.q.length + 1) kx) (.slice none 0 0) := ⟨fun g e => ⟨fun e2 => (hnb g e2).elim (fun q => (AP.1 g e).1 q) (fun q => by have := hs1 g e; omega), by simp [rb]⟩, fun g e => by simp [rb]⟩
  clear hrun hgr hrg hgx hnb NBq hs1 szV hbV bx4 bz_b0 bz_b1 bz_b2 bz_b3 bz_b4
  refine sv (.pointer (some ⟨b0, 6, none⟩)) ?_
  refine ss 6 (.slice (some ⟨gx, ox, none⟩) (L.q.length + 1) kx) bx0 fun V9 m9 bx0 => ?_
  replace RS := hide (RS.out.mv m9 (fun g e h => by have h : g = b0 := h; have := NB.out g (.inl e); omega))
  replace RQ := hide (RQ.out.mv m9 (fun g e h => by have h : g = b0 := h; have := NB.out g (.inr (.inl e)); omega))
  replace RT := hide (RT.out.mv m9 (fun g e h => by have h : g = b0 := h; have := NB.out g (.inr (.inr e)); omega))
  refine nt (h11 _ _ (sk fun K12 h12 => rl ?_)); clear h11 K11
  replace HB := Xhb HB m9; replace bx1 := Xbb bx1 m9; replace bx2 := Xbb bx2 m9; replace bx3 := Xbb bx3 m9
  have hl : L.q.length + 1 = (L.q ++ [(c, 2)]).length := by simp
  rw [hl] at bx0 RQ AP FO NB
  clear hl
  refine sg (.agg #[.int .i64 L.mem, .int .i64 L.own, .slice sa L.sh.length sc, .int .i64 L.bu, .int .i64 L.wt, .int .i64 L.ac, .slice (some ⟨gx, ox, none⟩) (L.q ++ [(c, 2)]).length kx]) (h := by have z0 := cell_box 0 (bx0.out) rfl; have z1 := cell_box 1 (bx0.out) rfl; have z2 := cell_box 2 (bx0.out) rfl; have z3 := cell_box 3 (bx0.out) rfl; have z4 := cell_box 4 (bx0.out) rfl; have z5 := cell_box 5 (bx0.out) rfl; have z6 := cell_box 6 (bx0.out) rfl; go_simp) ?_
  refine ss7 (.int .i64 L.mem) (.int .i64 L.own) (.slice sa L.sh.length sc) (.int .i64 L.bu) (.int .i64 L.wt) (.int .i64 L.ac) (.slice (some ⟨gx, ox, none⟩) (L.q ++ [(c, 2)]).length kx) bx2 fun V10 m10 bx2 => ?_
  replace RS := hide (RS.out.mv m10 (fun g e h => by have h : g = b2 := h; have := NB.out g (.inl e); omega))
  replace RQ := hide (RQ.out.mv m10 (fun g e h => by have h : g = b2 := h; have := NB.out g (.inr (.inl e)); omega))
  replace RT := hide (RT.out.mv m10 (fun g e h => by have h : g = b2 := h; have := NB.out g (.inr (.inr e)); omega))
  refine sv (.slice none 0 0) ?_
  refine sv (.bool true) ?_
  refine nt (h12 _ _ (wp_ret (inb_ret (then_ret ?_)))); clear h12 K12; clear h2 K2
  replace HB := Xhb HB m10; replace bx0 := Xbb bx0 m10; replace bx1 := Xbb bx1 m10; replace bx3 := Xbb bx3 m10
  have q2_0 := cell_box 0 bx2.out rfl
  have q2_1 := cell_box 1 bx2.out rfl
  have q2_2 := cell_box 2 bx2.out rfl
  have q2_3 := cell_box 3 bx2.out rfl
  have q2_4 := cell_box 4 bx2.out rfl
  have q2_5 := cell_box 5 bx2.out rfl
  have q2_6 := cell_box 6 bx2.out rfl
  exact bodyPost_ret (v := .tuple #[.agg #[.int .i64 L.mem, .int .i64 L.own, .slice sa L.sh.length sc, .int .i64 L.bu, .int .i64 L.wt, .int .i64 L.ac, .slice (some ⟨gx, ox, none⟩) (L.q ++ [(c, 2)]).length kx], .slice none 0 0, .bool true]) (by simp [results, Tryz.results27, go_sem, q2_0, q2_1, q2_2, q2_3, q2_4, q2_5, q2_6]) rfl ⟨_, _, _, _, _, _, rfl, RS.out, RQ.out, RT.out, AP, FO, HB.out⟩

set_option maxRecDepth 20000 in
set_option maxHeartbeats 2000000 in
theorem sgot_3_yes (c to l t d : Int) (base : Nat) (L : Hm.Ln) (sa : Option Addr) (sc : Nat) (qa : Option Addr) (qc : Nat) (w : World) (hs : Rg w base (.slice sa L.sh.length sc) 1 L.sh.length (gF (f1 L.sh))) (hq : Rg w base (.slice qa L.q.length qc) 2 L.q.length (gF (f2 L.q))) (hap : ∀ g, rb (.slice sa L.sh.length sc) = some g → rb (.slice qa L.q.length qc) ≠ some g) (hbw : base ≤ w.heap.size) (ho : L.own = c) (hbu : L.bu = 0) :
    Calls Tryz.prog 27 #[.agg #[.int .i64 L.mem, .int .i64 L.own, .slice sa L.sh.length sc, .int .i64 L.bu, .int .i64 L.wt, .int .i64 L.ac, .slice qa L.q.length qc], .agg #[.int .i64 3, .int .i64 c, .int .i64 to, .int .i64 l, .int .i64 t, .int .i64 d]] w (LnG w base (.slice sa L.sh.length sc) (.slice qa L.q.length qc) { L with mem := d, own := 0 } [Hm.mDone c l] true) := by
  have hov : Hid ((L.own == c) = true) := hide (by simpa using ho)
  have hbv : Hid ((L.bu == 0) = true) := hide (by simpa using hbu)
  clear hbu
  clear ho
  have HB : Hid (Mv (fun g => rb (.slice qa L.q.length qc) = some g) w w) := hide (Mv.refl _ _)
  have RWl : ∀ g, (rb (.slice sa L.sh.length sc) = some g ∨ rb (.slice qa L.q.length qc) = some g ∨ rb (.slice none 0 0) = some g) → g < w.heap.size := fun g h => h.elim (fun e => (hs.lt g e).2) (fun h => h.elim (fun e => (hq.lt g e).2) (fun e => absurd e (by simp [rb])))
  have RS := hide hs; have RQ := hide hq; clear hs hq
  have RT : Hid (Rg w base (.slice none 0 0) 6 0 (gF (f6 []))) := hide (rg_nil _ _ _ _)
  have AP : Apt (.slice sa L.sh.length sc) (.slice qa L.q.length qc) (.slice none 0 0) := ⟨fun g e => ⟨hap g e, by simp [rb]⟩, fun g e => by simp [rb]⟩
  have FO : ∀ g, (rb (.slice sa L.sh.length sc) = some g ∨ rb (.slice qa L.q.length qc) = some g ∨ rb (.slice none 0 0) = some g) → (rb (.slice sa L.sh.length sc) = some g ∨ rb (.slice qa L.q.length qc) = some g) ∨ w.heap.size ≤ g := fun g h => h.elim (fun e => .inl (.inl e)) (fun h => h.elim (fun e => .inl (.inr e)) (fun e => absurd e (by simp [rb])))
  go_enter Tryz.func27, Tryz.ntmps27
  refine sk fun K1 h1 => rl ?_
  refine sbp #[.int .i64 L.mem, .int .i64 L.own, .slice sa L.sh.length sc, .int .i64 L.bu, .int .i64 L.wt, .int .i64 L.ac, .slice qa L.q.length qc] 31 fun V1 b0 hb0 m1 bx0 => ?_
  have o_0 : w.heap.size ≤ b0 := by omega
  replace RS := hide (RS.out.mv m1 (fun _ _ h => h))
  replace RQ := hide (RQ.out.mv m1 (fun _ _ h => h))
  replace RT := hide (RT.out.mv m1 (fun _ _ h => h))
  clear hb0
  refine sbp #[.int .i64 3, .int .i64 c, .int .i64 to, .int .i64 l, .int .i64 t, .int .i64 d] 36 fun V2 b1 hb1 m2 bx1 => ?_
  have o0_1 := Xlo bx0 hb1
  replace RS := hide (RS.out.mv m2 (fun _ _ h => h))
  replace RQ := hide (RQ.out.mv m2 (fun _ _ h => h))
  replace RT := hide (RT.out.mv m2 (fun _ _ h => h))
  clear hb1
  refine sbp #[.int .i64 0, .int .i64 0, .slice none 0 0, .int .i64 0, .int .i64 0, .int .i64 0, .slice none 0 0] 31 fun V3 b2 hb2 m3 bx2 => ?_
  have o1_2 := Xlo bx1 hb2
  replace RS := hide (RS.out.mv m3 (fun _ _ h => h))
  replace RQ := hide (RQ.out.mv m3 (fun _ _ h => h))
  replace RT := hide (RT.out.mv m3 (fun _ _ h => h))
  clear hb2
  refine sv (.slice none 0 0) ?_
  refine sv (.bool false) ?_
  refine nt (h1 _ _ (sk fun K2 h2 => sk fun K3 h3 => rl ?_)); clear h1 K1
  replace HB := Xhn (Xhn (Xhn HB m1) m2) m3; replace bx0 := Xbn (Xbn bx0 m2) m3; replace bx1 := Xbn bx1 m3
  have NB : Hid (∀ g, (rb (.slice sa L.sh.length sc) = some g ∨ rb (.slice qa L.q.length qc) = some g ∨ rb (.slice none 0 0) = some g) → g ≠ b0 ∧ g ≠ b1 ∧ g ≠ b2) := hide (fun g h => by have := RWl g h; omega)
  clear RWl
  refine sv (.pointer (some ⟨b1, 0, none⟩)) ?_
  refine sl 0 bx1 ?_
  refine nt (h3 _ _ (wp_block (sk fun K4 h4 => sk fun K5 h5 => rl ?_))); clear h3 K3
  refine sg (.bool false) ?_
  refine sv (.bool false) ?_
  refine nt (h5 _ _ (cf (rl ?_))); clear h5 K5
  refine sg (.bool false) ?_
  refine sv (.bool false) ?_
  refine nt (h4 _ _ (cf (sk fun K6 h6 => rl ?_))); clear h4 K4
  refine sg (.bool true) ?_
  refine sv (.bool true) ?_
  refine nt (h6 _ _ (ct (sk fun K7 h7 => sk fun K8 h8 => rl ?_))); clear h6 K6
  refine sv (.pointer (some ⟨b0, 1, none⟩)) ?_
  refine sl 1 bx0 ?_
  refine sv (.pointer (some ⟨b1, 1, none⟩)) ?_
  refine sl 1 bx1 ?_
  refine sg (.bool true) (h := by have hd := hov.out; go_simp) ?_
  refine sv (.bool true) ?_
  refine sv (.pointer (some ⟨b0, 3, none⟩)) ?_
  refine sl 3 bx0 ?_
  refine sg (.bool true) (h := by have hd := hbv.out; go_simp) ?_
  refine sg (.bool true) ?_
  refine nt (h8 _ _ (ct (sk fun K9 h9 => rl ?_))); clear h8 K8
  refine sv (.pointer (some ⟨b1, 5, none⟩)) ?_
  refine sl 5 bx1 ?_
  refine sv (.pointer (some ⟨b0, 0, none⟩)) ?_
  refine ss 0 (.int .i64 d) bx0 fun V4 m4 bx0 => ?_
  replace RS := hide (RS.out.mv m4 (fun g e h => by have h : g = b0 := h; have := NB.out g (.inl e); omega))
  replace RQ := hide (RQ.out.mv m4 (fun g e h => by have h : g = b0 := h; have := NB.out g (.inr (.inl e)); omega))
  replace RT := hide (RT.out.mv m4 (fun g e h => by have h : g = b0 := h; have := NB.out g (.inr (.inr e)); omega))
  refine nt (h9 _ _ (rl ?_)); clear h9 K9
  refine sv (.pointer (some ⟨b0, 1, none⟩)) ?_
  refine ss 1 (.int .i64 0) bx0 fun V5 m5 bx0 => ?_
  replace RS := hide (RS.out.mv m5 (fun g e h => by have h : g = b0 := h; have := NB.out g (.inl e); omega))
  replace RQ := hide (RQ.out.mv m5 (fun g e h => by have h : g = b0 := h; have := NB.out g (.inr (.inl e)); omega))
  replace RT := hide (RT.out.mv m5 (fun g e h => by have h : g = b0 := h; have := NB.out g (.inr (.inr e)); omega))
  refine nt (h7 _ _ (sk fun K10 h10 => ?_)); clear h7 K7
  refine wp_region_but (z := 999) (S := fun w' => Mv (fun x => x = b2) V5.drew w') (by kernel_rfl) (Mv.refl _ _) (fun hS => ?_)
  have m6 : Mv nob V5 V5.drew := Mv.drew _
  obtain ⟨V6, hN⟩ : ∃ V, V5.drew = V := ⟨_, rfl⟩
  rw [hN] at hS m6 ⊢
  clear hN
  replace RS := hide (RS.out.mv m6 (fun _ _ h => h))
  replace RQ := hide (RQ.out.mv m6 (fun _ _ h => h))
  replace RT := hide (RT.out.mv m6 (fun _ _ h => h))
  replace bx0 := Xbn bx0 m6; replace bx1 := Xbn (Xbb (Xbb bx1 m4) m5) m6
  have rbx0 := bx0; have rbx1 := bx1
  refine tk 0 (.agg #[.int .i64 d, .int .i64 0, .slice sa L.sh.length sc, .int .i64 L.bu, .int .i64 L.wt, .int .i64 L.ac, .slice qa L.q.length qc]) rfl (fun w' hSw => by (try dsimp only at hSw); have z0 := cell_box 0 (hSw.box rbx0.out (show ¬ (b0 = b2) by omega)) rfl; have z1 := cell_box 1 (hSw.box rbx0.out (show ¬ (b0 = b2) by omega)) rfl; have z2 := cell_box 2 (hSw.box rbx0.out (show ¬ (b0 = b2) by omega)) rfl; have z3 := cell_box 3 (hSw.box rbx0.out (show ¬ (b0 = b2) by omega)) rfl; have z4 := cell_box 4 (hSw.box rbx0.out (show ¬ (b0 = b2) by omega)) rfl; have z5 := cell_box 5 (hSw.box rbx0.out (show ¬ (b0 = b2) by omega)) rfl; have z6 := cell_box 6 (hSw.box rbx0.out (show ¬ (b0 = b2) by omega)) rfl; go_simp) ?_
  refine tk0 1 (.pointer (some ⟨b1, 1, none⟩)) rfl ?_
  refine tk 2 (.int .i64 c) rfl (fun w' hSw => by (try dsimp only at hSw); have z0 := cell_box 1 (hSw.box rbx1.out (show ¬ (b1 = b2) by omega)) rfl; go_simp) ?_
  refine tk0 3 (.pointer (some ⟨b1, 3, none⟩)) rfl ?_
  refine tk 4 (.int .i64 l) rfl (fun w' hSw => by (try dsimp only at hSw); have z0 := cell_box 3 (hSw.box rbx1.out (show ¬ (b1 = b2) by omega)) rfl; go_simp) ?_
  refine tk0 5 (.agg #[.int .i64 9, .int .i64 0, .int .i64 c, .int .i64 l, .int .i64 0, .int .i64 0]) rfl ?_
  replace HB := Xhn (Xhb (Xhb HB m4) m5) m6; replace bx2 := Xbn (Xbb (Xbb bx2 m4) m5) m6
  refine kd_each2 (l := [6, 7]) (by kernel_rfl) rfl ⟨?_, ?_, trivial⟩
  · refine .inl ?_
    refine ⟨_, rfl, by rfl, .inl ⟨.slice (some ⟨V6.heap.size, 0, none⟩) 1 1, V6.alloc (.cells #[.int .i64 9, .int .i64 0, .int .i64 c, .int .i64 l, .int .i64 0, .int .i64 0] 36), (by first | rfl | go_simp), fun _ => hS.step (Mv.alloc _ _) (fun _ _ h => h.elim), ?_⟩⟩
    have m7 : Mv nob V6 (V6.alloc (.cells #[.int .i64 9, .int .i64 0, .int .i64 c, .int .i64 l, .int .i64 0, .int .i64 0] 36)) := Mv.alloc _ _
    have nx := heap_alloc_new V6 (.cells #[.int .i64 9, .int .i64 0, .int .i64 c, .int .i64 l, .int .i64 0, .int .i64 0] 36)
    obtain ⟨V7, hN⟩ : ∃ V, V6.alloc (.cells #[.int .i64 9, .int .i64 0, .int .i64 c, .int .i64 l, .int .i64 0, .int .i64 0] 36) = V := ⟨_, rfl⟩
    rw [hN] at m7 nx ⊢
    clear hN
    refine ptk ?_
    obtain ⟨b3, hb3⟩ : ∃ b3, V6.heap.size = b3 := ⟨_, rfl⟩
    rw [hb3] at nx ⊢
    have o2_3 := Xlo bx2 hb3
    replace NB : Hid (∀ g, (rb (.slice sa L.sh.length sc) = some g ∨ rb (.slice qa L.q.length qc) = some g ∨ rb (.slice none 0 0) = some g) → g ≠ b0 ∧ g ≠ b1 ∧ g ≠ b2 ∧ g ≠ b3) := hide (fun g h => by have h1 := NB.out g h; have h2 := rows_lt RS.out RQ.out RT.out g h; exact (by omega))
    replace RS := hide (RS.out.mv m7 (fun _ _ h => h))
    replace RQ := hide (RQ.out.mv m7 (fun _ _ h => h))
    replace RT := hide (RT.out.mv m7 (fun _ _ h => h))
    have bx3 := hide nx
    clear nx
    replace hS := hS.step m7 (fun _ _ h => h.elim)
    clear hb3
    refine wpAnyK_re (S' := fun w' => Mv (fun x => x = b2) V7 w') (fun w' h => hS.step h (fun _ _ h => h)) ?_
    replace hS : Mv (fun x => x = b2) V7 V7 := Mv.refl _ _
    replace bx0 := Xbn bx0 m7; replace bx1 := Xbn bx1 m7
    have rbx0 := bx0; have rbx1 := bx1; have rbx3 := bx3
    replace bx2 := Xbn bx2 m7
    refine kd_skipI (i := 7) (w' := ((((((V7.setCell ⟨b2, 0, none⟩ (.int .i64 d)).setCell ⟨b2, 1, none⟩ (.int .i64 0)).setCell ⟨b2, 2, none⟩ (.slice sa L.sh.length sc)).setCell ⟨b2, 3, none⟩ (.int .i64 L.bu)).setCell ⟨b2, 4, none⟩ (.int .i64 L.wt)).setCell ⟨b2, 5, none⟩ (.int .i64 L.ac)).setCell ⟨b2, 6, none⟩ (.slice qa L.q.length qc)) (fun V => Mv (fun g => g = b2) V7 V ∧ V.heap[b2]? = some (.cells #[.int .i64 d, .int .i64 0, .slice sa L.sh.length sc, .int .i64 L.bu, .int .i64 L.wt, .int .i64 L.ac, .slice qa L.q.length qc] 31 (0, 0))) (by kernel_rfl) rfl (by rfl) (by have fr := fun i => frozen_of_row _ _ i _ _ bx2.out; have z0 := cell_box 0 bx2.out rfl; have z1 := cell_box 1 bx2.out rfl; have z2 := cell_box 2 bx2.out rfl; have z3 := cell_box 3 bx2.out rfl; have z4 := cell_box 4 bx2.out rfl; have z5 := cell_box 5 bx2.out rfl; have z6 := cell_box 6 bx2.out rfl; go_simp) ⟨Mv.set (Mv.set (Mv.set (Mv.set (Mv.set (Mv.set (Mv.set (Mv.refl _ _) _ _) _ _) _ _) _ _) _ _) _ _) _ _, (heap_setCell_same _ _ 6 _ _ _ (heap_setCell_same _ _ 5 _ _ _ (heap_setCell_same _ _ 4 _ _ _ (heap_setCell_same _ _ 3 _ _ _ (heap_setCell_same _ _ 2 _ _ _ (heap_setCell_same _ _ 1 _ _ _ (heap_setCell_same _ _ 0 _ _ _ (bx2.out)))))))).trans rfl⟩ (fun V hI _ => hS.step hI.1 (fun _ _ h => h)) ?_
    rintro V8 ⟨m8, nxV8⟩
    refine ptk ?_
    replace RS := hide (RS.out.mv m8 (fun g e h => by have h : g = b2 := h; have := NB.out g (.inl e); omega))
    replace RQ := hide (RQ.out.mv m8 (fun g e h => by have h : g = b2 := h; have := NB.out g (.inr (.inl e)); omega))
    replace RT := hide (RT.out.mv m8 (fun g e h => by have h : g = b2 := h; have := NB.out g (.inr (.inr e)); omega))
    replace bx2 := hide nxV8
    clear nxV8
    replace hS := hS.step m8 (fun _ _ h => h)
    refine tk0 8 (.slice (some ⟨b3, 0, none⟩) 1 1) rfl ?_
    refine tk0 9 (.bool true) rfl ?_
    refine wpAnyK_done (by kernel_rfl) ?_
    clear hS rbx0 rbx1 rbx3
    refine then_normal (h10 _ _ (wp_ret (inb_ret (then_ret ?_)))); clear h10 K10; clear h2 K2
    replace HB := Xhb (Xhn HB m7) m8; replace bx0 := Xbb bx0 m8; replace bx1 := Xbb bx1 m8; replace bx3 := Xbb bx3 m8
    have q2_0 := cell_box 0 bx2.out rfl
    have q2_1 := cell_box 1 bx2.out rfl
    have q2_2 := cell_box 2 bx2.out rfl
    have q2_3 := cell_box 3 bx2.out rfl
    have q2_4 := cell_box 4 bx2.out rfl
    have q2_5 := cell_box 5 bx2.out rfl
    have q2_6 := cell_box 6 bx2.out rfl
    exact bodyPost_ret (v := .tuple #[.agg #[.int .i64 d, .int .i64 0, .slice sa L.sh.length sc, .int .i64 L.bu, .int .i64 L.wt, .int .i64 L.ac, .slice qa L.q.length qc], .slice (some ⟨b3, 0, none⟩) 1 1, .bool true]) (by simp [results, Tryz.results27, go_sem, q2_0, q2_1, q2_2, q2_3, q2_4, q2_5, q2_6]) rfl ⟨_, _, _, _, _, _, rfl, RS.out, RQ.out, .inr ⟨_, 0, 1, rfl, Nat.le_refl _, by decide, by decide, by omega, ⟨_, _, bx3.out, by simp⟩, fun x hx => (f6_one bx3.out x hx)⟩, ⟨fun g e => ⟨hap g e, fun e2 => by have e3 : b3 = g := rb_blk e2; have := NB.out g (.inl e); omega⟩, fun g e e2 => by have e3 : b3 = g := rb_blk e2; have := NB.out g (.inr (.inl e)); omega⟩, fun g h => h.elim (fun e => .inl (.inl e)) (fun h => h.elim (fun e => .inl (.inr e)) (fun e => .inr (by have e3 : b3 = g := rb_blk e; omega))), HB.out⟩
  · obtain ⟨V9, hN⟩ : ∃ V, (((((((V6).setCell ⟨b2, 0, none⟩ (.int .i64 d)).setCell ⟨b2, 1, none⟩ (.int .i64 0)).setCell ⟨b2, 2, none⟩ (.slice sa L.sh.length sc)).setCell ⟨b2, 3, none⟩ (.int .i64 L.bu)).setCell ⟨b2, 4, none⟩ (.int .i64 L.wt)).setCell ⟨b2, 5, none⟩ (.int .i64 L.ac)).setCell ⟨b2, 6, none⟩ (.slice qa L.q.length qc) = V := ⟨_, rfl⟩
    have m9 : Mv (fun g => g = b2) V6 V9 := by rw [← hN]; exact Mv.set (Mv.set (Mv.set (Mv.set (Mv.set (Mv.set (Mv.set (Mv.refl _ _) _ _) _ _) _ _) _ _) _ _) _ _) _ _
    have nx : V9.heap[b2]? = some (.cells #[.int .i64 d, .int .i64 0, .slice sa L.sh.length sc, .int .i64 L.bu, .int .i64 L.wt, .int .i64 L.ac, .slice qa L.q.length qc] 31 (0, 0)) := by rw [← hN]; exact (heap_setCell_same _ _ 6 _ _ _ (heap_setCell_same _ _ 5 _ _ _ (heap_setCell_same _ _ 4 _ _ _ (heap_setCell_same _ _ 3 _ _ _ (heap_setCell_same _ _ 2 _ _ _ (heap_setCell_same _ _ 1 _ _ _ (heap_setCell_same _ _ 0 _ _ _ (bx2.out)))))))).trans rfl
    refine .inr ⟨_, rfl, by rfl, V9, (by rw [← hN]; have fr := fun i => frozen_of_row _ _ i _ _ bx2.out; have z0 := cell_box 0 bx2.out rfl; have z1 := cell_box 1 bx2.out rfl; have z2 := cell_box 2 bx2.out rfl; have z3 := cell_box 3 bx2.out rfl; have z4 := cell_box 4 bx2.out rfl; have z5 := cell_box 5 bx2.out rfl; have z6 := cell_box 6 bx2.out rfl; go_simp), ?_⟩
    clear hN
    replace hS := hS.step m9 (fun _ _ h => h)
    refine ⟨fun _ => hS, ?_⟩
    refine ptk ?_
    replace RS := hide (RS.out.mv m9 (fun g e h => by have h : g = b2 := h; have := NB.out g (.inl e); omega))
    replace RQ := hide (RQ.out.mv m9 (fun g e h => by have h : g = b2 := h; have := NB.out g (.inr (.inl e)); omega))
    replace RT := hide (RT.out.mv m9 (fun g e h => by have h : g = b2 := h; have := NB.out g (.inr (.inr e)); omega))
    replace bx2 := hide nx; clear nx
    replace HB := Xhb HB m9; replace bx0 := Xbb bx0 m9; replace bx1 := Xbb bx1 m9
    refine kd_valI (i := 6) (v := .slice (some ⟨V9.heap.size, 0, none⟩) 1 1) (w' := V9.alloc (.cells #[.int .i64 9, .int .i64 0, .int .i64 c, .int .i64 l, .int .i64 0, .int .i64 0] 36)) (fun V => Mv nob V9 V ∧ V.heap[V9.heap.size]? = some (.cells #[.int .i64 9, .int .i64 0, .int .i64 c, .int .i64 l, .int .i64 0, .int .i64 0] 36 (0, 0))) (by kernel_rfl) rfl (by rfl) (by first | rfl | go_simp) ⟨Mv.alloc _ _, heap_alloc_new _ _⟩ (fun V hI _ => hS.step hI.1 (fun _ _ h => h.elim)) ?_
    rintro V10 ⟨m10, nx⟩
    refine ptk ?_
    obtain ⟨b3, hb3⟩ : ∃ b3, V9.heap.size = b3 := ⟨_, rfl⟩
    rw [hb3] at nx ⊢
    have o2_3 := Xlo bx2 hb3
    replace NB : Hid (∀ g, (rb (.slice sa L.sh.length sc) = some g ∨ rb (.slice qa L.q.length qc) = some g ∨ rb (.slice none 0 0) = some g) → g ≠ b0 ∧ g ≠ b1 ∧ g ≠ b2 ∧ g ≠ b3) := hide (fun g h => by have h1 := NB.out g h; have h2 := rows_lt RS.out RQ.out RT.out g h; exact (by omega))
    replace RS := hide (RS.out.mv m10 (fun _ _ h => h))
    replace RQ := hide (RQ.out.mv m10 (fun _ _ h => h))
    replace RT := hide (RT.out.mv m10 (fun _ _ h => h))
    have bx3 := hide nx
    clear nx
    replace hS := hS.step m10 (fun _ _ h => h.elim)
    clear hb3
    refine wpAnyK_re (S' := fun w' => Mv (fun x => x = b2) V10 w') (fun w' h => hS.step h (fun _ _ h => h)) ?_
    replace hS : Mv (fun x => x = b2) V10 V10 := Mv.refl _ _
    replace bx0 := Xbn bx0 m10; replace bx1 := Xbn bx1 m10
    have rbx0 := bx0; have rbx1 := bx1; have rbx3 := bx3
    refine tk0 8 (.slice (some ⟨b3, 0, none⟩) 1 1) rfl ?_
    refine tk0 9 (.bool true) rfl ?_
    refine wpAnyK_done (by kernel_rfl) ?_
    clear hS rbx0 rbx1 rbx3
    refine then_normal (h10 _ _ (wp_ret (inb_ret (then_ret ?_)))); clear h10 K10; clear h2 K2
    replace HB := Xhn HB m10; replace bx2 := Xbn bx2 m10
    have q2_0 := cell_box 0 bx2.out rfl
    have q2_1 := cell_box 1 bx2.out rfl
    have q2_2 := cell_box 2 bx2.out rfl
    have q2_3 := cell_box 3 bx2.out rfl
    have q2_4 := cell_box 4 bx2.out rfl
    have q2_5 := cell_box 5 bx2.out rfl
    have q2_6 := cell_box 6 bx2.out rfl
    exact bodyPost_ret (v := .tuple #[.agg #[.int .i64 d, .int .i64 0, .slice sa L.sh.length sc, .int .i64 L.bu, .int .i64 L.wt, .int .i64 L.ac, .slice qa L.q.length qc], .slice (some ⟨b3, 0, none⟩) 1 1, .bool true]) (by simp [results, Tryz.results27, go_sem, q2_0, q2_1, q2_2, q2_3, q2_4, q2_5, q2_6]) rfl ⟨_, _, _, _, _, _, rfl, RS.out, RQ.out, .inr ⟨_, 0, 1, rfl, Nat.le_refl _, by decide, by decide, by omega, ⟨_, _, bx3.out, by simp⟩, fun x hx => (f6_one bx3.out x hx)⟩, ⟨fun g e => ⟨hap g e, fun e2 => by have e3 : b3 = g := rb_blk e2; have := NB.out g (.inl e); omega⟩, fun g e e2 => by have e3 : b3 = g := rb_blk e2; have := NB.out g (.inr (.inl e)); omega⟩, fun g h => h.elim (fun e => .inl (.inl e)) (fun h => h.elim (fun e => .inl (.inr e)) (fun e => .inr (by have e3 : b3 = g := rb_blk e; omega))), HB.out⟩

set_option maxRecDepth 20000 in
set_option maxHeartbeats 2000000 in
theorem sgot_3_busy (c to l t d : Int) (base : Nat) (L : Hm.Ln) (sa : Option Addr) (sc : Nat) (qa : Option Addr) (qc : Nat) (w : World) (hs : Rg w base (.slice sa L.sh.length sc) 1 L.sh.length (gF (f1 L.sh))) (hq : Rg w base (.slice qa L.q.length qc) 2 L.q.length (gF (f2 L.q))) (hap : ∀ g, rb (.slice sa L.sh.length sc) = some g → rb (.slice qa L.q.length qc) ≠ some g) (hbw : base ≤ w.heap.size) (ho : L.own = c) (hbu : ¬ L.bu = 0) :
    Calls Tryz.prog 27 #[.agg #[.int .i64 L.mem, .int .i64 L.own, .slice sa L.sh.length sc, .int .i64 L.bu, .int .i64 L.wt, .int .i64 L.ac, .slice qa L.q.length qc], .agg #[.int .i64 3, .int .i64 c, .int .i64 to, .int .i64 l, .int .i64 t, .int .i64 d]] w (LnG w base (.slice sa L.sh.length sc) (.slice qa L.q.length qc) L [Hm.mDone c l] true) := by
  have hov : Hid ((L.own == c) = true) := hide (by simpa using ho)
  have hbv : Hid ((L.bu == 0) = false) := hide (by simpa using hbu)
  clear hbu
  clear ho
  have HB : Hid (Mv (fun g => rb (.slice qa L.q.length qc) = some g) w w) := hide (Mv.refl _ _)
  have RWl : ∀ g, (rb (.slice sa L.sh.length sc) = some g ∨ rb (.slice qa L.q.length qc) = some g ∨ rb (.slice none 0 0) = some g) → g < w.heap.size := fun g h => h.elim (fun e => (hs.lt g e).2) (fun h => h.elim (fun e => (hq.lt g e).2) (fun e => absurd e (by simp [rb])))
  have RS := hide hs; have RQ := hide hq; clear hs hq
  have RT : Hid (Rg w base (.slice none 0 0) 6 0 (gF (f6 []))) := hide (rg_nil _ _ _ _)
  have AP : Apt (.slice sa L.sh.length sc) (.slice qa L.q.length qc) (.slice none 0 0) := ⟨fun g e => ⟨hap g e, by simp [rb]⟩, fun g e => by simp [rb]⟩
  have FO : ∀ g, (rb (.slice sa L.sh.length sc) = some g ∨ rb (.slice qa L.q.length qc) = some g ∨ rb (.slice none 0 0) = some g) → (rb (.slice sa L.sh.length sc) = some g ∨ rb (.slice qa L.q.length qc) = some g) ∨ w.heap.size ≤ g := fun g h => h.elim (fun e => .inl (.inl e)) (fun h => h.elim (fun e => .inl (.inr e)) (fun e => absurd e (by simp [rb])))
  go_enter Tryz.func27, Tryz.ntmps27
  refine sk fun K1 h1 => rl ?_
  refine sbp #[.int .i64 L.mem, .int .i64 L.own, .slice sa L.sh.length sc, .int .i64 L.bu, .int .i64 L.wt, .int .i64 L.ac, .slice qa L.q.length qc] 31 fun V1 b0 hb0 m1 bx0 => ?_
  have o_0 : w.heap.size ≤ b0 := by omega
  replace RS := hide (RS.out.mv m1 (fun _ _ h => h))
  replace RQ := hide (RQ.out.mv m1 (fun _ _ h => h))
  replace RT := hide (RT.out.mv m1 (fun _ _ h => h))
  clear hb0
  refine sbp #[.int .i64 3, .int .i64 c, .int .i64 to, .int .i64 l, .int .i64 t, .int .i64 d] 36 fun V2 b1 hb1 m2 bx1 => ?_
  have o0_1 := Xlo bx0 hb1
  replace RS := hide (RS.out.mv m2 (fun _ _ h => h))
  replace RQ := hide (RQ.out.mv m2 (fun _ _ h => h))
  replace RT := hide (RT.out.mv m2 (fun _ _ h => h))
  clear hb1
  refine sbp #[.int .i64 0, .int .i64 0, .slice none 0 0, .int .i64 0, .int .i64 0, .int .i64 0, .slice none 0 0] 31 fun V3 b2 hb2 m3 bx2 => ?_
  have o1_2 := Xlo bx1 hb2
  replace RS := hide (RS.out.mv m3 (fun _ _ h => h))
  replace RQ := hide (RQ.out.mv m3 (fun _ _ h => h))
  replace RT := hide (RT.out.mv m3 (fun _ _ h => h))
  clear hb2
  refine sv (.slice none 0 0) ?_
  refine sv (.bool false) ?_
  refine nt (h1 _ _ (sk fun K2 h2 => sk fun K3 h3 => rl ?_)); clear h1 K1
  replace HB := Xhn (Xhn (Xhn HB m1) m2) m3; replace bx0 := Xbn (Xbn bx0 m2) m3; replace bx1 := Xbn bx1 m3
  have NB : Hid (∀ g, (rb (.slice sa L.sh.length sc) = some g ∨ rb (.slice qa L.q.length qc) = some g ∨ rb (.slice none 0 0) = some g) → g ≠ b0 ∧ g ≠ b1 ∧ g ≠ b2) := hide (fun g h => by have := RWl g h; omega)
  clear RWl
  refine sv (.pointer (some ⟨b1, 0, none⟩)) ?_
  refine sl 0 bx1 ?_
  refine nt (h3 _ _ (wp_block (sk fun K4 h4 => sk fun K5 h5 => rl ?_))); clear h3 K3
  refine sg (.bool false) ?_
  refine sv (.bool false) ?_
  refine nt (h5 _ _ (cf (rl ?_))); clear h5 K5
  refine sg (.bool false) ?_
  refine sv (.bool false) ?_
  refine nt (h4 _ _ (cf (sk fun K6 h6 => rl ?_))); clear h4 K4
  refine sg (.bool true) ?_
  refine sv (.bool true) ?_
  refine nt (h6 _ _ (ct (sk fun K7 h7 => sk fun K8 h8 => rl ?_))); clear h6 K6
  refine sv (.pointer (some ⟨b0, 1, none⟩)) ?_
  refine sl 1 bx0 ?_
  refine sv (.pointer (some ⟨b1, 1, none⟩)) ?_
  refine sl 1 bx1 ?_
  refine sg (.bool true) (h := by have hd := hov.out; go_simp) ?_
  refine sv (.bool true) ?_
  refine sv (.pointer (some ⟨b0, 3, none⟩)) ?_
  refine sl 3 bx0 ?_
  refine sg (.bool false) (h := by have hd := hbv.out; go_simp) ?_
  refine sg (.bool false) ?_
  refine nt (h8 _ _ (cf (wp_skip (then_normal (h7 _ _ (sk fun K9 h9 => ?_)))))); clear h8 K8; clear h7 K7
  refine wp_region_but (z := 999) (S := fun w' => Mv (fun x => x = b2) V3.drew w') (by kernel_rfl) (Mv.refl _ _) (fun hS => ?_)
  have m4 : Mv nob V3 V3.drew := Mv.drew _
  obtain ⟨V4, hN⟩ : ∃ V, V3.drew = V := ⟨_, rfl⟩
  rw [hN] at hS m4 ⊢
  clear hN
  replace RS := hide (RS.out.mv m4 (fun _ _ h => h))
  replace RQ := hide (RQ.out.mv m4 (fun _ _ h => h))
  replace RT := hide (RT.out.mv m4 (fun _ _ h => h))
  replace bx0 := Xbn bx0 m4; replace bx1 := Xbn bx1 m4
  have rbx0 := bx0; have rbx1 := bx1
  refine tk 0 (.agg #[.int .i64 L.mem, .int .i64 L.own, .slice sa L.sh.length sc, .int .i64 L.bu, .int .i64 L.wt, .int .i64 L.ac, .slice qa L.q.length qc]) rfl (fun w' hSw => by (try dsimp only at hSw); have z0 := cell_box 0 (hSw.box rbx0.out (show ¬ (b0 = b2) by omega)) rfl; have z1 := cell_box 1 (hSw.box rbx0.out (show ¬ (b0 = b2) by omega)) rfl; have z2 := cell_box 2 (hSw.box rbx0.out (show ¬ (b0 = b2) by omega)) rfl; have z3 := cell_box 3 (hSw.box rbx0.out (show ¬ (b0 = b2) by omega)) rfl; have z4 := cell_box 4 (hSw.box rbx0.out (show ¬ (b0 = b2) by omega)) rfl; have z5 := cell_box 5 (hSw.box rbx0.out (show ¬ (b0 = b2) by omega)) rfl; have z6 := cell_box 6 (hSw.box rbx0.out (show ¬ (b0 = b2) by omega)) rfl; go_simp) ?_
  refine tk0 1 (.pointer (some ⟨b1, 1, none⟩)) rfl ?_
  refine tk 2 (.int .i64 c) rfl (fun w' hSw => by (try dsimp only at hSw); have z0 := cell_box 1 (hSw.box rbx1.out (show ¬ (b1 = b2) by omega)) rfl; go_simp) ?_
  refine tk0 3 (.pointer (some ⟨b1, 3, none⟩)) rfl ?_
  refine tk 4 (.int .i64 l) rfl (fun w' hSw => by (try dsimp only at hSw); have z0 := cell_box 3 (hSw.box rbx1.out (show ¬ (b1 = b2) by omega)) rfl; go_simp) ?_
  refine tk0 5 (.agg #[.int .i64 9, .int .i64 0, .int .i64 c, .int .i64 l, .int .i64 0, .int .i64 0]) rfl ?_
  replace HB := Xhn HB m4; replace bx2 := Xbn bx2 m4
  refine kd_each2 (l := [6, 7]) (by kernel_rfl) rfl ⟨?_, ?_, trivial⟩
  · refine .inl ?_
    refine ⟨_, rfl, by rfl, .inl ⟨.slice (some ⟨V4.heap.size, 0, none⟩) 1 1, V4.alloc (.cells #[.int .i64 9, .int .i64 0, .int .i64 c, .int .i64 l, .int .i64 0, .int .i64 0] 36), (by first | rfl | go_simp), fun _ => hS.step (Mv.alloc _ _) (fun _ _ h => h.elim), ?_⟩⟩
    have m5 : Mv nob V4 (V4.alloc (.cells #[.int .i64 9, .int .i64 0, .int .i64 c, .int .i64 l, .int .i64 0, .int .i64 0] 36)) := Mv.alloc _ _
    have nx := heap_alloc_new V4 (.cells #[.int .i64 9, .int .i64 0, .int .i64 c, .int .i64 l, .int .i64 0, .int .i64 0] 36)
    obtain ⟨V5, hN⟩ : ∃ V, V4.alloc (.cells #[.int .i64 9, .int .i64 0, .int .i64 c, .int .i64 l, .int .i64 0, .int .i64 0] 36) = V := ⟨_, rfl⟩
    rw [hN] at m5 nx ⊢
    clear hN
    refine ptk ?_
    obtain ⟨b3, hb3⟩ : ∃ b3, V4.heap.size = b3 := ⟨_, rfl⟩
    rw [hb3] at nx ⊢
    have o2_3 := Xlo bx2 hb3
    replace NB : Hid (∀ g, (rb (.slice sa L.sh.length sc) = some g ∨ rb (.slice qa L.q.length qc) = some g ∨ rb (.slice none 0 0) = some g) → g ≠ b0 ∧ g ≠ b1 ∧ g ≠ b2 ∧ g ≠ b3) := hide (fun g h => by have h1 := NB.out g h; have h2 := rows_lt RS.out RQ.out RT.out g h; exact (by omega))
    replace RS := hide (RS.out.mv m5 (fun _ _ h => h))
    replace RQ := hide (RQ.out.mv m5 (fun _ _ h => h))
    replace RT := hide (RT.out.mv m5 (fun _ _ h => h))
    have bx3 := hide nx
    clear nx
    replace hS := hS.step m5 (fun _ _ h => h.elim)
    clear hb3
    refine wpAnyK_re (S' := fun w' => Mv (fun x => x = b2) V5 w') (fun w' h => hS.step h (fun _ _ h => h)) ?_
    replace hS : Mv (fun x => x = b2) V5 V5 := Mv.refl _ _
    replace bx0 := Xbn bx0 m5; replace bx1 := Xbn bx1 m5
    have rbx0 := bx0; have rbx1 := bx1; have rbx3 := bx3
    replace bx2 := Xbn bx2 m5
    refine kd_skipI (i := 7) (w' := ((((((V5.setCell ⟨b2, 0, none⟩ (.int .i64 L.mem)).setCell ⟨b2, 1, none⟩ (.int .i64 L.own)).setCell ⟨b2, 2, none⟩ (.slice sa L.sh.length sc)).setCell ⟨b2, 3, none⟩ (.int .i64 L.bu)).setCell ⟨b2, 4, none⟩ (.int .i64 L.wt)).setCell ⟨b2, 5, none⟩ (.int .i64 L.ac)).setCell ⟨b2, 6, none⟩ (.slice qa L.q.length qc)) (fun V => Mv (fun g => g = b2) V5 V ∧ V.heap[b2]? = some (.cells #[.int .i64 L.mem, .int .i64 L.own, .slice sa L.sh.length sc, .int .i64 L.bu, .int .i64 L.wt, .int .i64 L.ac, .slice qa L.q.length qc] 31 (0, 0))) (by kernel_rfl) rfl (by rfl) (by have fr := fun i => frozen_of_row _ _ i _ _ bx2.out; have z0 := cell_box 0 bx2.out rfl; have z1 := cell_box 1 bx2.out rfl; have z2 := cell_box 2 bx2.out rfl; have z3 := cell_box 3 bx2.out rfl; have z4 := cell_box 4 bx2.out rfl; have z5 := cell_box 5 bx2.out rfl; have z6 := cell_box 6 bx2.out rfl; go_simp) ⟨Mv.set (Mv.set (Mv.set (Mv.set (Mv.set (Mv.set (Mv.set (Mv.refl _ _) _ _) _ _) _ _) _ _) _ _) _ _) _ _, (heap_setCell_same _ _ 6 _ _ _ (heap_setCell_same _ _ 5 _ _ _ (heap_setCell_same _ _ 4 _ _ _ (heap_setCell_same _ _ 3 _ _ _ (heap_setCell_same _ _ 2 _ _ _ (heap_setCell_same _ _ 1 _ _ _ (heap_setCell_same _ _ 0 _ _ _ (bx2.out)))))))).trans rfl⟩ (fun V hI _ => hS.step hI.1 (fun _ _ h => h)) ?_
    rintro V6 ⟨m6, nxV6⟩
    refine ptk ?_
    replace RS := hide (RS.out.mv m6 (fun g e h => by have h : g = b2 := h; have := NB.out g (.inl e); omega))
    replace RQ := hide (RQ.out.mv m6 (fun g e h => by have h : g = b2 := h; have := NB.out g (.inr (.inl e)); omega))
    replace RT := hide (RT.out.mv m6 (fun g e h => by have h : g = b2 := h; have := NB.out g (.inr (.inr e)); omega))
    replace bx2 := hide nxV6
    clear nxV6
    replace hS := hS.step m6 (fun _ _ h => h)
    refine tk0 8 (.slice (some ⟨b3, 0, none⟩) 1 1) rfl ?_
    refine tk0 9 (.bool true) rfl ?_
    refine wpAnyK_done (by kernel_rfl) ?_
    clear hS rbx0 rbx1 rbx3
    refine then_normal (h9 _ _ (wp_ret (inb_ret (then_ret ?_)))); clear h9 K9; clear h2 K2
    replace HB := Xhb (Xhn HB m5) m6; replace bx0 := Xbb bx0 m6; replace bx1 := Xbb bx1 m6; replace bx3 := Xbb bx3 m6
    have q2_0 := cell_box 0 bx2.out rfl
    have q2_1 := cell_box 1 bx2.out rfl
    have q2_2 := cell_box 2 bx2.out rfl
    have q2_3 := cell_box 3 bx2.out rfl
    have q2_4 := cell_box 4 bx2.out rfl
    have q2_5 := cell_box 5 bx2.out rfl
    have q2_6 := cell_box 6 bx2.out rfl
    exact bodyPost_ret (v := .tuple #[.agg #[.int .i64 L.mem, .int .i64 L.own, .slice sa L.sh.length sc, .int .i64 L.bu, .int .i64 L.wt, .int .i64 L.ac, .slice qa L.q.length qc], .slice (some ⟨b3, 0, none⟩) 1 1, .bool true]) (by simp [results, Tryz.results27, go_sem, q2_0, q2_1, q2_2, q2_3, q2_4, q2_5, q2_6]) rfl ⟨_, _, _, _, _, _, rfl, RS.out, RQ.out, .inr ⟨_, 0, 1, rfl, Nat.le_refl _, by decide, by decide, by omega, ⟨_, _, bx3.out, by simp⟩, fun x hx => (f6_one bx3.out x hx)⟩, ⟨fun g e => ⟨hap g e, fun e2 => by have e3 : b3 = g := rb_blk e2; have := NB.out g (.inl e); omega⟩, fun g e e2 => by have e3 : b3 = g := rb_blk e2; have := NB.out g (.inr (.inl e)); omega⟩, fun g h => h.elim (fun e => .inl (.inl e)) (fun h => h.elim (fun e => .inl (.inr e)) (fun e => .inr (by have e3 : b3 = g := rb_blk e; omega))), HB.out⟩
  · obtain ⟨V7, hN⟩ : ∃ V, (((((((V4).setCell ⟨b2, 0, none⟩ (.int .i64 L.mem)).setCell ⟨b2, 1, none⟩ (.int .i64 L.own)).setCell ⟨b2, 2, none⟩ (.slice sa L.sh.length sc)).setCell ⟨b2, 3, none⟩ (.int .i64 L.bu)).setCell ⟨b2, 4, none⟩ (.int .i64 L.wt)).setCell ⟨b2, 5, none⟩ (.int .i64 L.ac)).setCell ⟨b2, 6, none⟩ (.slice qa L.q.length qc) = V := ⟨_, rfl⟩
    have m7 : Mv (fun g => g = b2) V4 V7 := by rw [← hN]; exact Mv.set (Mv.set (Mv.set (Mv.set (Mv.set (Mv.set (Mv.set (Mv.refl _ _) _ _) _ _) _ _) _ _) _ _) _ _) _ _
    have nx : V7.heap[b2]? = some (.cells #[.int .i64 L.mem, .int .i64 L.own, .slice sa L.sh.length sc, .int .i64 L.bu, .int .i64 L.wt, .int .i64 L.ac, .slice qa L.q.length qc] 31 (0, 0)) := by rw [← hN]; exact (heap_setCell_same _ _ 6 _ _ _ (heap_setCell_same _ _ 5 _ _ _ (heap_setCell_same _ _ 4 _ _ _ (heap_setCell_same _ _ 3 _ _ _ (heap_setCell_same _ _ 2 _ _ _ (heap_setCell_same _ _ 1 _ _ _ (heap_setCell_same _ _ 0 _ _ _ (bx2.out)))))))).trans rfl
    refine .inr ⟨_, rfl, by rfl, V7, (by rw [← hN]; have fr := fun i => frozen_of_row _ _ i _ _ bx2.out; have z0 := cell_box 0 bx2.out rfl; have z1 := cell_box 1 bx2.out rfl; have z2 := cell_box 2 bx2.out rfl; have z3 := cell_box 3 bx2.out rfl; have z4 := cell_box 4 bx2.out rfl; have z5 := cell_box 5 bx2.out rfl; have z6 := cell_box 6 bx2.out rfl; go_simp), ?_⟩
    clear hN
    replace hS := hS.step m7 (fun _ _ h => h)
    refine ⟨fun _ => hS, ?_⟩
    refine ptk ?_
    replace RS := hide (RS.out.mv m7 (fun g e h => by have h : g = b2 := h; have := NB.out g (.inl e); omega))
    replace RQ := hide (RQ.out.mv m7 (fun g e h => by have h : g = b2 := h; have := NB.out g (.inr (.inl e)); omega))
    replace RT := hide (RT.out.mv m7 (fun g e h => by have h : g = b2 := h; have := NB.out g (.inr (.inr e)); omega))
    replace bx2 := hide nx; clear nx
    replace HB := Xhb HB m7; replace bx0 := Xbb bx0 m7; replace bx1 := Xbb bx1 m7
    refine kd_valI (i := 6) (v := .slice (some ⟨V7.heap.size, 0, none⟩) 1 1) (w' := V7.alloc (.cells #[.int .i64 9, .int .i64 0, .int .i64 c, .int .i64 l, .int .i64 0, .int .i64 0] 36)) (fun V => Mv nob V7 V ∧ V.heap[V7.heap.size]? = some (.cells #[.int .i64 9, .int .i64 0, .int .i64 c, .int .i64 l, .int .i64 0, .int .i64 0] 36 (0, 0))) (by kernel_rfl) rfl (by rfl) (by first | rfl | go_simp) ⟨Mv.alloc _ _, heap_alloc_new _ _⟩ (fun V hI _ => hS.step hI.1 (fun _ _ h => h.elim)) ?_
    rintro V8 ⟨m8, nx⟩
    refine ptk ?_
    obtain ⟨b3, hb3⟩ : ∃ b3, V7.heap.size = b3 := ⟨_, rfl⟩
    rw [hb3] at nx ⊢
    have o2_3 := Xlo bx2 hb3
    replace NB : Hid (∀ g, (rb (.slice sa L.sh.length sc) = some g ∨ rb (.slice qa L.q.length qc) = some g ∨ rb (.slice none 0 0) = some g) → g ≠ b0 ∧ g ≠ b1 ∧ g ≠ b2 ∧ g ≠ b3) := hide (fun g h => by have h1 := NB.out g h; have h2 := rows_lt RS.out RQ.out RT.out g h; exact (by omega))
    replace RS := hide (RS.out.mv m8 (fun _ _ h => h))
    replace RQ := hide (RQ.out.mv m8 (fun _ _ h => h))
    replace RT := hide (RT.out.mv m8 (fun _ _ h => h))
    have bx3 := hide nx
    clear nx
    replace hS := hS.step m8 (fun _ _ h => h.elim)
    clear hb3
    refine wpAnyK_re (S' := fun w' => Mv (fun x => x = b2) V8 w') (fun w' h => hS.step h (fun _ _ h => h)) ?_
    replace hS : Mv (fun x => x = b2) V8 V8 := Mv.refl _ _
    replace bx0 := Xbn bx0 m8; replace bx1 := Xbn bx1 m8
    have rbx0 := bx0; have rbx1 := bx1; have rbx3 := bx3
    refine tk0 8 (.slice (some ⟨b3, 0, none⟩) 1 1) rfl ?_
    refine tk0 9 (.bool true) rfl ?_
    refine wpAnyK_done (by kernel_rfl) ?_
    clear hS rbx0 rbx1 rbx3
    refine then_normal (h9 _ _ (wp_ret (inb_ret (then_ret ?_)))); clear h9 K9; clear h2 K2
    replace HB := Xhn HB m8; replace bx2 := Xbn bx2 m8
    have q2_0 := cell_box 0 bx2.out rfl
    have q2_1 := cell_box 1 bx2.out rfl
    have q2_2 := cell_box 2 bx2.out rfl
    have q2_3 := cell_box 3 bx2.out rfl
    have q2_4 := cell_box 4 bx2.out rfl
    have q2_5 := cell_box 5 bx2.out rfl
    have q2_6 := cell_box 6 bx2.out rfl
    exact bodyPost_ret (v := .tuple #[.agg #[.int .i64 L.mem, .int .i64 L.own, .slice sa L.sh.length sc, .int .i64 L.bu, .int .i64 L.wt, .int .i64 L.ac, .slice qa L.q.length qc], .slice (some ⟨b3, 0, none⟩) 1 1, .bool true]) (by simp [results, Tryz.results27, go_sem, q2_0, q2_1, q2_2, q2_3, q2_4, q2_5, q2_6]) rfl ⟨_, _, _, _, _, _, rfl, RS.out, RQ.out, .inr ⟨_, 0, 1, rfl, Nat.le_refl _, by decide, by decide, by omega, ⟨_, _, bx3.out, by simp⟩, fun x hx => (f6_one bx3.out x hx)⟩, ⟨fun g e => ⟨hap g e, fun e2 => by have e3 : b3 = g := rb_blk e2; have := NB.out g (.inl e); omega⟩, fun g e e2 => by have e3 : b3 = g := rb_blk e2; have := NB.out g (.inr (.inl e)); omega⟩, fun g h => h.elim (fun e => .inl (.inl e)) (fun h => h.elim (fun e => .inl (.inr e)) (fun e => .inr (by have e3 : b3 = g := rb_blk e; omega))), HB.out⟩

set_option maxRecDepth 20000 in
set_option maxHeartbeats 2000000 in
theorem sgot_3_no (c to l t d : Int) (base : Nat) (L : Hm.Ln) (sa : Option Addr) (sc : Nat) (qa : Option Addr) (qc : Nat) (w : World) (hs : Rg w base (.slice sa L.sh.length sc) 1 L.sh.length (gF (f1 L.sh))) (hq : Rg w base (.slice qa L.q.length qc) 2 L.q.length (gF (f2 L.q))) (hap : ∀ g, rb (.slice sa L.sh.length sc) = some g → rb (.slice qa L.q.length qc) ≠ some g) (hbw : base ≤ w.heap.size) (ho : ¬ L.own = c) :
    Calls Tryz.prog 27 #[.agg #[.int .i64 L.mem, .int .i64 L.own, .slice sa L.sh.length sc, .int .i64 L.bu, .int .i64 L.wt, .int .i64 L.ac, .slice qa L.q.length qc], .agg #[.int .i64 3, .int .i64 c, .int .i64 to, .int .i64 l, .int .i64 t, .int .i64 d]] w (LnG w base (.slice sa L.sh.length sc) (.slice qa L.q.length qc) L [Hm.mDone c l] true) := by
  have hov : Hid ((L.own == c) = false) := hide (by simpa using ho)
  clear ho
  have HB : Hid (Mv (fun g => rb (.slice qa L.q.length qc) = some g) w w) := hide (Mv.refl _ _)
  have RWl : ∀ g, (rb (.slice sa L.sh.length sc) = some g ∨ rb (.slice qa L.q.length qc) = some g ∨ rb (.slice none 0 0) = some g) → g < w.heap.size := fun g h => h.elim (fun e => (hs.lt g e).2) (fun h => h.elim (fun e => (hq.lt g e).2) (fun e => absurd e (by simp [rb])))
  have RS := hide hs; have RQ := hide hq; clear hs hq
  have RT : Hid (Rg w base (.slice none 0 0) 6 0 (gF (f6 []))) := hide (rg_nil _ _ _ _)
  have AP : Apt (.slice sa L.sh.length sc) (.slice qa L.q.length qc) (.slice none 0 0) := ⟨fun g e => ⟨hap g e, by simp [rb]⟩, fun g e => by simp [rb]⟩
  have FO : ∀ g, (rb (.slice sa L.sh.length sc) = some g ∨ rb (.slice qa L.q.length qc) = some g ∨ rb (.slice none 0 0) = some g) → (rb (.slice sa L.sh.length sc) = some g ∨ rb (.slice qa L.q.length qc) = some g) ∨ w.heap.size ≤ g := fun g h => h.elim (fun e => .inl (.inl e)) (fun h => h.elim (fun e => .inl (.inr e)) (fun e => absurd e (by simp [rb])))
  go_enter Tryz.func27, Tryz.ntmps27
  refine sk fun K1 h1 => rl ?_
  refine sbp #[.int .i64 L.mem, .int .i64 L.own, .slice sa L.sh.length sc, .int .i64 L.bu, .int .i64 L.wt, .int .i64 L.ac, .slice qa L.q.length qc] 31 fun V1 b0 hb0 m1 bx0 => ?_
  have o_0 : w.heap.size ≤ b0 := by omega
  replace RS := hide (RS.out.mv m1 (fun _ _ h => h))
  replace RQ := hide (RQ.out.mv m1 (fun _ _ h => h))
  replace RT := hide (RT.out.mv m1 (fun _ _ h => h))
  clear hb0
  refine sbp #[.int .i64 3, .int .i64 c, .int .i64 to, .int .i64 l, .int .i64 t, .int .i64 d] 36 fun V2 b1 hb1 m2 bx1 => ?_
  have o0_1 := Xlo bx0 hb1
  replace RS := hide (RS.out.mv m2 (fun _ _ h => h))
  replace RQ := hide (RQ.out.mv m2 (fun _ _ h => h))
  replace RT := hide (RT.out.mv m2 (fun _ _ h => h))
  clear hb1
  refine sbp #[.int .i64 0, .int .i64 0, .slice none 0 0, .int .i64 0, .int .i64 0, .int .i64 0, .slice none 0 0] 31 fun V3 b2 hb2 m3 bx2 => ?_
  have o1_2 := Xlo bx1 hb2
  replace RS := hide (RS.out.mv m3 (fun _ _ h => h))
  replace RQ := hide (RQ.out.mv m3 (fun _ _ h => h))
  replace RT := hide (RT.out.mv m3 (fun _ _ h => h))
  clear hb2
  refine sv (.slice none 0 0) ?_
  refine sv (.bool false) ?_
  refine nt (h1 _ _ (sk fun K2 h2 => sk fun K3 h3 => rl ?_)); clear h1 K1
  replace HB := Xhn (Xhn (Xhn HB m1) m2) m3; replace bx0 := Xbn (Xbn bx0 m2) m3; replace bx1 := Xbn bx1 m3
  have NB : Hid (∀ g, (rb (.slice sa L.sh.length sc) = some g ∨ rb (.slice qa L.q.length qc) = some g ∨ rb (.slice none 0 0) = some g) → g ≠ b0 ∧ g ≠ b1 ∧ g ≠ b2) := hide (fun g h => by have := RWl g h; omega)
  clear RWl
  refine sv (.pointer (some ⟨b1, 0, none⟩)) ?_
  refine sl 0 bx1 ?_
  refine nt (h3 _ _ (wp_block (sk fun K4 h4 => sk fun K5 h5 => rl ?_))); clear h3 K3
  refine sg (.bool false) ?_
  refine sv (.bool false) ?_
  refine nt (h5 _ _ (cf (rl ?_))); clear h5 K5
  refine sg (.bool false) ?_
  refine sv (.bool false) ?_
  refine nt (h4 _ _ (cf (sk fun K6 h6 => rl ?_))); clear h4 K4
  refine sg (.bool true) ?_
  refine sv (.bool true) ?_
  refine nt (h6 _ _ (ct (sk fun K7 h7 => sk fun K8 h8 => rl ?_))); clear h6 K6
  refine sv (.pointer (some ⟨b0, 1, none⟩)) ?_
  refine sl 1 bx0 ?_
  refine sv (.pointer (some ⟨b1, 1, none⟩)) ?_
  refine sl 1 bx1 ?_
  refine sg (.bool false) (h := by have hd := hov.out; go_simp) ?_
  refine sv (.bool false) ?_
  with_reducible refine sp ?_
  with_reducible refine sp ?_
  with_reducible refine sp ?_
  refine sg (.bool false) ?_
  refine nt (h8 _ _ (cf (wp_skip (then_normal (h7 _ _ (sk fun K9 h9 => ?_)))))); clear h8 K8; clear h7 K7
  refine wp_region_but (z := 999) (S := fun w' => Mv (fun x => x = b2) V3.drew w') (by kernel_rfl) (Mv.refl _ _) (fun hS => ?_)
  have m4 : Mv nob V3 V3.drew := Mv.drew _
  obtain ⟨V4, hN⟩ : ∃ V, V3.drew = V := ⟨_, rfl⟩
  rw [hN] at hS m4 ⊢
  clear hN
  replace RS := hide (RS.out.mv m4 (fun _ _ h => h))
  replace RQ := hide (RQ.out.mv m4 (fun _ _ h => h))
  replace RT := hide (RT.out.mv m4 (fun _ _ h => h))
  replace bx0 := Xbn bx0 m4; replace bx1 := Xbn bx1 m4
  have rbx0 := bx0; have rbx1 := bx1
  refine tk 0 (.agg #[.int .i64 L.mem, .int .i64 L.own, .slice sa L.sh.length sc, .int .i64 L.bu, .int .i64 L.wt, .int .i64 L.ac, .slice qa L.q.length qc]) rfl (fun w' hSw => by (try dsimp only at hSw); have z0 := cell_box 0 (hSw.box rbx0.out (show ¬ (b0 = b2) by omega)) rfl; have z1 := cell_box 1 (hSw.box rbx0.out (show ¬ (b0 = b2) by omega)) rfl; have z2 := cell_box 2 (hSw.box rbx0.out (show ¬ (b0 = b2) by omega)) rfl; have z3 := cell_box 3 (hSw.box rbx0.out (show ¬ (b0 = b2) by omega)) rfl; have z4 := cell_box 4 (hSw.box rbx0.out (show ¬ (b0 = b2) by omega)) rfl; have z5 := cell_box 5 (hSw.box rbx0.out (show ¬ (b0 = b2) by omega)) rfl; have z6 := cell_box 6 (hSw.box rbx0.out (show ¬ (b0 = b2) by omega)) rfl; go_simp) ?_
  refine tk0 1 (.pointer (some ⟨b1, 1, none⟩)) rfl ?_
  refine tk 2 (.int .i64 c) rfl (fun w' hSw => by (try dsimp only at hSw); have z0 := cell_box 1 (hSw.box rbx1.out (show ¬ (b1 = b2) by omega)) rfl; go_simp) ?_
  refine tk0 3 (.pointer (some ⟨b1, 3, none⟩)) rfl ?_
  refine tk 4 (.int .i64 l) rfl (fun w' hSw => by (try dsimp only at hSw); have z0 := cell_box 3 (hSw.box rbx1.out (show ¬ (b1 = b2) by omega)) rfl; go_simp) ?_
  refine tk0 5 (.agg #[.int .i64 9, .int .i64 0, .int .i64 c, .int .i64 l, .int .i64 0, .int .i64 0]) rfl ?_
  replace HB := Xhn HB m4; replace bx2 := Xbn bx2 m4
  refine kd_each2 (l := [6, 7]) (by kernel_rfl) rfl ⟨?_, ?_, trivial⟩
  · refine .inl ?_
    refine ⟨_, rfl, by rfl, .inl ⟨.slice (some ⟨V4.heap.size, 0, none⟩) 1 1, V4.alloc (.cells #[.int .i64 9, .int .i64 0, .int .i64 c, .int .i64 l, .int .i64 0, .int .i64 0] 36), (by first | rfl | go_simp), fun _ => hS.step (Mv.alloc _ _) (fun _ _ h => h.elim), ?_⟩⟩
    have m5 : Mv nob V4 (V4.alloc (.cells #[.int .i64 9, .int .i64 0, .int .i64 c, .int .i64 l, .int .i64 0, .int .i64 0] 36)) := Mv.alloc _ _
    have nx := heap_alloc_new V4 (.cells #[.int .i64 9, .int .i64 0, .int .i64 c, .int .i64 l, .int .i64 0, .int .i64 0] 36)
    obtain ⟨V5, hN⟩ : ∃ V, V4.alloc (.cells #[.int .i64 9, .int .i64 0, .int .i64 c, .int .i64 l, .int .i64 0, .int .i64 0] 36) = V := ⟨_, rfl⟩
    rw [hN] at m5 nx ⊢
    clear hN
    refine ptk ?_
    obtain ⟨b3, hb3⟩ : ∃ b3, V4.heap.size = b3 := ⟨_, rfl⟩
    rw [hb3] at nx ⊢
    have o2_3 := Xlo bx2 hb3
    replace NB : Hid (∀ g, (rb (.slice sa L.sh.length sc) = some g ∨ rb (.slice qa L.q.length qc) = some g ∨ rb (.slice none 0 0) = some g) → g ≠ b0 ∧ g ≠ b1 ∧ g ≠ b2 ∧ g ≠ b3) := hide (fun g h => by have h1 := NB.out g h; have h2 := rows_lt RS.out RQ.out RT.out g h; exact (by omega))
    replace RS := hide (RS.out.mv m5 (fun _ _ h => h))
    replace RQ := hide (RQ.out.mv m5 (fun _ _ h => h))
    replace RT := hide (RT.out.mv m5 (fun _ _ h => h))
    have bx3 := hide nx
    clear nx
    replace hS := hS.step m5 (fun _ _ h => h.elim)
    clear hb3
    refine wpAnyK_re (S' := fun w' => Mv (fun x => x = b2) V5 w') (fun w' h => hS.step h (fun _ _ h => h)) ?_
    replace hS : Mv (fun x => x = b2) V5 V5 := Mv.refl _ _
    replace bx0 := Xbn bx0 m5; replace bx1 := Xbn bx1 m5
    have rbx0 := bx0; have rbx1 := bx1; have rbx3 := bx3
    replace bx2 := Xbn bx2 m5
    refine kd_skipI (i := 7) (w' := ((((((V5.setCell ⟨b2, 0, none⟩ (.int .i64 L.mem)).setCell ⟨b2, 1, none⟩ (.int .i64 L.own)).setCell ⟨b2, 2, none⟩ (.slice sa L.sh.length sc)).setCell ⟨b2, 3, none⟩ (.int .i64 L.bu)).setCell ⟨b2, 4, none⟩ (.int .i64 L.wt)).setCell ⟨b2, 5, none⟩ (.int .i64 L.ac)).setCell ⟨b2, 6, none⟩ (.slice qa L.q.length qc)) (fun V => Mv (fun g => g = b2) V5 V ∧ V.heap[b2]? = some (.cells #[.int .i64 L.mem, .int .i64 L.own, .slice sa L.sh.length sc, .int .i64 L.bu, .int .i64 L.wt, .int .i64 L.ac, .slice qa L.q.length qc] 31 (0, 0))) (by kernel_rfl) rfl (by rfl) (by have fr := fun i => frozen_of_row _ _ i _ _ bx2.out; have z0 := cell_box 0 bx2.out rfl; have z1 := cell_box 1 bx2.out rfl; have z2 := cell_box 2 bx2.out rfl; have z3 := cell_box 3 bx2.out rfl; have z4 := cell_box 4 bx2.out rfl; have z5 := cell_box 5 bx2.out rfl; have z6 := cell_box 6 bx2.out rfl; go_simp) ⟨Mv.set (Mv.set (Mv.set (Mv.set (Mv.set (Mv.set (Mv.set (Mv.refl _ _) _ _) _ _) _ _) _ _) _ _) _ _) _ _, (heap_setCell_same _ _ 6 _ _ _ (heap_setCell_same _ _ 5 _ _ _ (heap_setCell_same _ _ 4 _ _ _ (heap_setCell_same _ _ 3 _ _ _ (heap_setCell_same _ _ 2 _ _ _ (heap_setCell_same _ _ 1 _ _ _ (heap_setCell_same _ _ 0 _ _ _ (bx2.out)))))))).trans rfl⟩ (fun V hI _ => hS.step hI.1 (fun _ _ h => h)) ?_
    rintro V6 ⟨m6, nxV6⟩
    refine ptk ?_
    replace RS := hide (RS.out.mv m6 (fun g e h => by have h : g = b2 := h; have := NB.out g (.inl e); omega))
    replace RQ := hide (RQ.out.mv m6 (fun g e h => by have h : g = b2 := h; have := NB.out g (.inr (.inl e)); omega))
    replace RT := hide (RT.out.mv m6 (fun g e h => by have h : g = b2 := h; have := NB.out g (.inr (.inr e)); omega))
    replace bx2 := hide nxV6
    clear nxV6
    replace hS := hS.step m6 (fun _ _ h => h)
    refine tk0 8 (.slice (some ⟨b3, 0, none⟩) 1 1) rfl ?_
    refine tk0 9 (.bool true) rfl ?_
    refine wpAnyK_done (by kernel_rfl) ?_
    clear hS rbx0 rbx1 rbx3
    refine then_normal (h9 _ _ (wp_ret (inb_ret (then_ret ?_)))); clear h9 K9; clear h2 K2
    replace HB := Xhb (Xhn HB m5) m6; replace bx0 := Xbb bx0 m6; replace bx1 := Xbb bx1 m6; replace bx3 := Xbb bx3 m6
    have q2_0 := cell_box 0 bx2.out rfl
    have q2_1 := cell_box 1 bx2.out rfl
    have q2_2 := cell_box 2 bx2.out rfl
    have q2_3 := cell_box 3 bx2.out rfl
    have q2_4 := cell_box 4 bx2.out rfl
    have q2_5 := cell_box 5 bx2.out rfl
    have q2_6 := cell_box 6 bx2.out rfl
    exact bodyPost_ret (v := .tuple #[.agg #[.int .i64 L.mem, .int .i64 L.own, .slice sa L.sh.length sc, .int .i64 L.bu, .int .i64 L.wt, .int .i64 L.ac, .slice qa L.q.length qc], .slice (some ⟨b3, 0, none⟩) 1 1, .bool true]) (by simp [results, Tryz.results27, go_sem, q2_0, q2_1, q2_2, q2_3, q2_4, q2_5, q2_6]) rfl ⟨_, _, _, _, _, _, rfl, RS.out, RQ.out, .inr ⟨_, 0, 1, rfl, Nat.le_refl _, by decide, by decide, by omega, ⟨_, _, bx3.out, by simp⟩, fun x hx => (f6_one bx3.out x hx)⟩, ⟨fun g e => ⟨hap g e, fun e2 => by have e3 : b3 = g := rb_blk e2; have := NB.out g (.inl e); omega⟩, fun g e e2 => by have e3 : b3 = g := rb_blk e2; have := NB.out g (.inr (.inl e)); omega⟩, fun g h => h.elim (fun e => .inl (.inl e)) (fun h => h.elim (fun e => .inl (.inr e)) (fun e => .inr (by have e3 : b3 = g := rb_blk e; omega))), HB.out⟩
  · obtain ⟨V7, hN⟩ : ∃ V, (((((((V4).setCell ⟨b2, 0, none⟩ (.int .i64 L.mem)).setCell ⟨b2, 1, none⟩ (.int .i64 L.own)).setCell ⟨b2, 2, none⟩ (.slice sa L.sh.length sc)).setCell ⟨b2, 3, none⟩ (.int .i64 L.bu)).setCell ⟨b2, 4, none⟩ (.int .i64 L.wt)).setCell ⟨b2, 5, none⟩ (.int .i64 L.ac)).setCell ⟨b2, 6, none⟩ (.slice qa L.q.length qc) = V := ⟨_, rfl⟩
    have m7 : Mv (fun g => g = b2) V4 V7 := by rw [← hN]; exact Mv.set (Mv.set (Mv.set (Mv.set (Mv.set (Mv.set (Mv.set (Mv.refl _ _) _ _) _ _) _ _) _ _) _ _) _ _) _ _
    have nx : V7.heap[b2]? = some (.cells #[.int .i64 L.mem, .int .i64 L.own, .slice sa L.sh.length sc, .int .i64 L.bu, .int .i64 L.wt, .int .i64 L.ac, .slice qa L.q.length qc] 31 (0, 0)) := by rw [← hN]; exact (heap_setCell_same _ _ 6 _ _ _ (heap_setCell_same _ _ 5 _ _ _ (heap_setCell_same _ _ 4 _ _ _ (heap_setCell_same _ _ 3 _ _ _ (heap_setCell_same _ _ 2 _ _ _ (heap_setCell_same _ _ 1 _ _ _ (heap_setCell_same _ _ 0 _ _ _ (bx2.out)))))))).trans rfl
    refine .inr ⟨_, rfl, by rfl, V7, (by rw [← hN]; have fr := fun i => frozen_of_row _ _ i _ _ bx2.out; have z0 := cell_box 0 bx2.out rfl; have z1 := cell_box 1 bx2.out rfl; have z2 := cell_box 2 bx2.out rfl; have z3 := cell_box 3 bx2.out rfl; have z4 := cell_box 4 bx2.out rfl; have z5 := cell_box 5 bx2.out rfl; have z6 := cell_box 6 bx2.out rfl; go_simp), ?_⟩
    clear hN
    replace hS := hS.step m7 (fun _ _ h => h)
    refine ⟨fun _ => hS, ?_⟩
    refine ptk ?_
    replace RS := hide (RS.out.mv m7 (fun g e h => by have h : g = b2 := h; have := NB.out g (.inl e); omega))
    replace RQ := hide (RQ.out.mv m7 (fun g e h => by have h : g = b2 := h; have := NB.out g (.inr (.inl e)); omega))
    replace RT := hide (RT.out.mv m7 (fun g e h => by have h : g = b2 := h; have := NB.out g (.inr (.inr e)); omega))
    replace bx2 := hide nx; clear nx
    replace HB := Xhb HB m7; replace bx0 := Xbb bx0 m7; replace bx1 := Xbb bx1 m7
    refine kd_valI (i := 6) (v := .slice (some ⟨V7.heap.size, 0, none⟩) 1 1) (w' := V7.alloc (.cells #[.int .i64 9, .int .i64 0, .int .i64 c, .int .i64 l, .int .i64 0, .int .i64 0] 36)) (fun V => Mv nob V7 V ∧ V.heap[V7.heap.size]? = some (.cells #[.int .i64 9, .int .i64 0, .int .i64 c, .int .i64 l, .int .i64 0, .int .i64 0] 36 (0, 0))) (by kernel_rfl) rfl (by rfl) (by first | rfl | go_simp) ⟨Mv.alloc _ _, heap_alloc_new _ _⟩ (fun V hI _ => hS.step hI.1 (fun _ _ h => h.elim)) ?_
    rintro V8 ⟨m8, nx⟩
    refine ptk ?_
    obtain ⟨b3, hb3⟩ : ∃ b3, V7.heap.size = b3 := ⟨_, rfl⟩
    rw [hb3] at nx ⊢
    have o2_3 := Xlo bx2 hb3
    replace NB : Hid (∀ g, (rb (.slice sa L.sh.length sc) = some g ∨ rb (.slice qa L.q.length qc) = some g ∨ rb (.slice none 0 0) = some g) → g ≠ b0 ∧ g ≠ b1 ∧ g ≠ b2 ∧ g ≠ b3) := hide (fun g h => by have h1 := NB.out g h; have h2 := rows_lt RS.out RQ.out RT.out g h; exact (by omega))
    replace RS := hide (RS.out.mv m8 (fun _ _ h => h))
    replace RQ := hide (RQ.out.mv m8 (fun _ _ h => h))
    replace RT := hide (RT.out.mv m8 (fun _ _ h => h))
    have bx3 := hide nx
    clear nx
    replace hS := hS.step m8 (fun _ _ h => h.elim)
    clear hb3
    refine wpAnyK_re (S' := fun w' => Mv (fun x => x = b2) V8 w') (fun w' h => hS.step h (fun _ _ h => h)) ?_
    replace hS : Mv (fun x => x = b2) V8 V8 := Mv.refl _ _
    replace bx0 := Xbn bx0 m8; replace bx1 := Xbn bx1 m8
    have rbx0 := bx0; have rbx1 := bx1; have rbx3 := bx3
    refine tk0 8 (.slice (some ⟨b3, 0, none⟩) 1 1) rfl ?_
    refine tk0 9 (.bool true) rfl ?_
    refine wpAnyK_done (by kernel_rfl) ?_
    clear hS rbx0 rbx1 rbx3
    refine then_normal (h9 _ _ (wp_ret (inb_ret (then_ret ?_)))); clear h9 K9; clear h2 K2
    replace HB := Xhn HB m8; replace bx2 := Xbn bx2 m8
    have q2_0 := cell_box 0 bx2.out rfl
    have q2_1 := cell_box 1 bx2.out rfl
    have q2_2 := cell_box 2 bx2.out rfl
    have q2_3 := cell_box 3 bx2.out rfl
    have q2_4 := cell_box 4 bx2.out rfl
    have q2_5 := cell_box 5 bx2.out rfl
    have q2_6 := cell_box 6 bx2.out rfl
    exact bodyPost_ret (v := .tuple #[.agg #[.int .i64 L.mem, .int .i64 L.own, .slice sa L.sh.length sc, .int .i64 L.bu, .int .i64 L.wt, .int .i64 L.ac, .slice qa L.q.length qc], .slice (some ⟨b3, 0, none⟩) 1 1, .bool true]) (by simp [results, Tryz.results27, go_sem, q2_0, q2_1, q2_2, q2_3, q2_4, q2_5, q2_6]) rfl ⟨_, _, _, _, _, _, rfl, RS.out, RQ.out, .inr ⟨_, 0, 1, rfl, Nat.le_refl _, by decide, by decide, by omega, ⟨_, _, bx3.out, by simp⟩, fun x hx => (f6_one bx3.out x hx)⟩, ⟨fun g e => ⟨hap g e, fun e2 => by have e3 : b3 = g := rb_blk e2; have := NB.out g (.inl e); omega⟩, fun g e e2 => by have e3 : b3 = g := rb_blk e2; have := NB.out g (.inr (.inl e)); omega⟩, fun g h => h.elim (fun e => .inl (.inl e)) (fun h => h.elim (fun e => .inl (.inr e)) (fun e => .inr (by have e3 : b3 = g := rb_blk e; omega))), HB.out⟩

set_option maxRecDepth 20000 in
set_option maxHeartbeats 2000000 in
theorem sgot_6_idle (c to l t d : Int) (base : Nat) (L : Hm.Ln) (sa : Option Addr) (sc : Nat) (qa : Option Addr) (qc : Nat) (w : World) (hs : Rg w base (.slice sa L.sh.length sc) 1 L.sh.length (gF (f1 L.sh))) (hq : Rg w base (.slice qa L.q.length qc) 2 L.q.length (gF (f2 L.q))) (hap : ∀ g, rb (.slice sa L.sh.length sc) = some g → rb (.slice qa L.q.length qc) ≠ some g) (hbw : base ≤ w.heap.size) (hbu : L.bu = 0) :
    Calls Tryz.prog 27 #[.agg #[.int .i64 L.mem, .int .i64 L.own, .slice sa L.sh.length sc, .int .i64 L.bu, .int .i64 L.wt, .int .i64 L.ac, .slice qa L.q.length qc], .agg #[.int .i64 6, .int .i64 c, .int .i64 to, .int .i64 l, .int .i64 t, .int .i64 d]] w (LnG w base (.slice sa L.sh.length sc) (.slice qa L.q.length qc) L [] false) := by
  have hbv : Hid ((L.bu == 0) = true) := hide (by simp [hbu])
  clear hbu
  have HB : Hid (Mv (fun g => rb (.slice qa L.q.length qc) = some g) w w) := hide (Mv.refl _ _)
  have RWl : ∀ g, (rb (.slice sa L.sh.length sc) = some g ∨ rb (.slice qa L.q.length qc) = some g ∨ rb (.slice none 0 0) = some g) → g < w.heap.size := fun g h => h.elim (fun e => (hs.lt g e).2) (fun h => h.elim (fun e => (hq.lt g e).2) (fun e => absurd e (by simp [rb])))
  have RS := hide hs; have RQ := hide hq; clear hs hq
  have RT : Hid (Rg w base (.slice none 0 0) 6 0 (gF (f6 []))) := hide (rg_nil _ _ _ _)
  have AP : Apt (.slice sa L.sh.length sc) (.slice qa L.q.length qc) (.slice none 0 0) := ⟨fun g e => ⟨hap g e, by simp [rb]⟩, fun g e => by simp [rb]⟩
  have FO : ∀ g, (rb (.slice sa L.sh.length sc) = some g ∨ rb (.slice qa L.q.length qc) = some g ∨ rb (.slice none 0 0) = some g) → (rb (.slice sa L.sh.length sc) = some g ∨ rb (.slice qa L.q.length qc) = some g) ∨ w.heap.size ≤ g := fun g h => h.elim (fun e => .inl (.inl e)) (fun h => h.elim (fun e => .inl (.inr e)) (fun e => absurd e (by simp [rb])))
  go_enter Tryz.func27, Tryz.ntmps27
  refine sk fun K1 h1 => rl ?_
  refine sbp #[.int .i64 L.mem, .int .i64 L.own, .slice sa L.sh.length sc, .int .i64 L.bu, .int .i64 L.wt, .int .i64 L.ac, .slice qa L.q.length qc] 31 fun V1 b0 hb0 m1 bx0 => ?_
  have o_0 : w.heap.size ≤ b0 := by omega
  replace RS := hide (RS.out.mv m1 (fun _ _ h => h))
  replace RQ := hide (RQ.out.mv m1 (fun _ _ h => h))
  replace RT := hide (RT.out.mv m1 (fun _ _ h => h))
  clear hb0
  refine sbp #[.int .i64 6, .int .i64 c, .int .i64 to, .int .i64 l, .int .i64 t, .int .i64 d] 36 fun V2 b1 hb1 m2 bx1 => ?_
  have o0_1 := Xlo bx0 hb1
  replace RS := hide (RS.out.mv m2 (fun _ _ h => h))
  replace RQ := hide (RQ.out.mv m2 (fun _ _ h => h))
  replace RT := hide (RT.out.mv m2 (fun _ _ h => h))
  clear hb1
  refine sbp #[.int .i64 0, .int .i64 0, .slice none 0 0, .int .i64 0, .int .i64 0, .int .i64 0, .slice none 0 0] 31 fun V3 b2 hb2 m3 bx2 => ?_
  have o1_2 := Xlo bx1 hb2
  replace RS := hide (RS.out.mv m3 (fun _ _ h => h))
  replace RQ := hide (RQ.out.mv m3 (fun _ _ h => h))
  replace RT := hide (RT.out.mv m3 (fun _ _ h => h))
  clear hb2
  refine sv (.slice none 0 0) ?_
  refine sv (.bool false) ?_
  refine nt (h1 _ _ (sk fun K2 h2 => sk fun K3 h3 => rl ?_)); clear h1 K1
  replace HB := Xhn (Xhn (Xhn HB m1) m2) m3; replace bx0 := Xbn (Xbn bx0 m2) m3; replace bx1 := Xbn bx1 m3
  have NB : Hid (∀ g, (rb (.slice sa L.sh.length sc) = some g ∨ rb (.slice qa L.q.length qc) = some g ∨ rb (.slice none 0 0) = some g) → g ≠ b0 ∧ g ≠ b1 ∧ g ≠ b2) := hide (fun g h => by have := RWl g h; omega)
  clear RWl
  refine sv (.pointer (some ⟨b1, 0, none⟩)) ?_
  refine sl 0 bx1 ?_
  refine nt (h3 _ _ (wp_block (sk fun K4 h4 => sk fun K5 h5 => rl ?_))); clear h3 K3
  refine sg (.bool false) ?_
  refine sv (.bool false) ?_
  refine nt (h5 _ _ (cf (rl ?_))); clear h5 K5
  refine sg (.bool false) ?_
  refine sv (.bool false) ?_
  refine nt (h4 _ _ (cf (sk fun K6 h6 => rl ?_))); clear h4 K4
  refine sg (.bool false) ?_
  refine sv (.bool false) ?_
  refine nt (h6 _ _ (cf (sk fun K7 h7 => rl ?_))); clear h6 K6
  refine sg (.bool true) ?_
  refine sv (.bool true) ?_
  refine nt (h7 _ _ (ct (sk fun K8 h8 => sk fun K9 h9 => rl ?_))); clear h7 K7
  refine sv (.pointer (some ⟨b0, 3, none⟩)) ?_
  refine sl 3 bx0 ?_
  refine sg (.bool true) (h := by have hd := hbv.out; go_simp) ?_
  refine sv (.bool true) ?_
  with_reducible refine sp ?_
  with_reducible refine sp ?_
  with_reducible refine sp ?_
  refine sg (.bool true) ?_
  refine sv (.bool true) ?_
  with_reducible refine sp ?_
  with_reducible refine sp ?_
  with_reducible refine sp ?_
  refine sg (.bool true) ?_
  refine nt (h9 _ _ (ct (sk fun K10 h10 => rl ?_))); clear h9 K9
  refine sg (.agg #[.int .i64 L.mem, .int .i64 L.own, .slice sa L.sh.length sc, .int .i64 L.bu, .int .i64 L.wt, .int .i64 L.ac, .slice qa L.q.length qc]) (h := by have z0 := cell_box 0 (bx0.out) rfl; have z1 := cell_box 1 (bx0.out) rfl; have z2 := cell_box 2 (bx0.out) rfl; have z3 := cell_box 3 (bx0.out) rfl; have z4 := cell_box 4 (bx0.out) rfl; have z5 := cell_box 5 (bx0.out) rfl; have z6 := cell_box 6 (bx0.out) rfl; go_simp) ?_
  refine ss7 (.int .i64 L.mem) (.int .i64 L.own) (.slice sa L.sh.length sc) (.int .i64 L.bu) (.int .i64 L.wt) (.int .i64 L.ac) (.slice qa L.q.length qc) bx2 fun V4 m4 bx2 => ?_
  replace RS := hide (RS.out.mv m4 (fun g e h => by have h : g = b2 := h; have := NB.out g (.inl e); omega))
  replace RQ := hide (RQ.out.mv m4 (fun g e h => by have h : g = b2 := h; have := NB.out g (.inr (.inl e)); omega))
  replace RT := hide (RT.out.mv m4 (fun g e h => by have h : g = b2 := h; have := NB.out g (.inr (.inr e)); omega))
  refine sv (.slice none 0 0) ?_
  refine sv (.bool false) ?_
  refine nt (h10 _ _ (wp_ret (then_ret (inb_ret (then_ret ?_))))); clear h10 K10; clear h8 K8; clear h2 K2
  replace HB := Xhb HB m4; replace bx0 := Xbb bx0 m4; replace bx1 := Xbb bx1 m4
  have q2_0 := cell_box 0 bx2.out rfl
  have q2_1 := cell_box 1 bx2.out rfl
  have q2_2 := cell_box 2 bx2.out rfl
  have q2_3 := cell_box 3 bx2.out rfl
  have q2_4 := cell_box 4 bx2.out rfl
  have q2_5 := cell_box 5 bx2.out rfl
  have q2_6 := cell_box 6 bx2.out rfl
  exact bodyPost_ret (v := .tuple #[.agg #[.int .i64 L.mem, .int .i64 L.own, .slice sa L.sh.length sc, .int .i64 L.bu, .int .i64 L.wt, .int .i64 L.ac, .slice qa L.q.length qc], .slice none 0 0, .bool false]) (by simp [results, Tryz.results27, go_sem, q2_0, q2_1, q2_2, q2_3, q2_4, q2_5, q2_6]) rfl ⟨_, _, _, _, _, _, rfl, RS.out, RQ.out, RT.out, AP, FO, HB.out⟩

set_option maxRecDepth 20000 in
set_option maxHeartbeats 2000000 in
theorem sgot_6_owned (c to l t d : Int) (base : Nat) (L : Hm.Ln) (sa : Option Addr) (sc : Nat) (qa : Option Addr) (qc : Nat) (w : World) (hs : Rg w base (.slice sa L.sh.length sc) 1 L.sh.length (gF (f1 L.sh))) (hq : Rg w base (.slice qa L.q.length qc) 2 L.q.length (gF (f2 L.q))) (hap : ∀ g, rb (.slice sa L.sh.length sc) = some g → rb (.slice qa L.q.length qc) ≠ some g) (hbw : base ≤ w.heap.size) (hbu : ¬ L.bu = 0) (ho : ¬ L.own = 0) :
    Calls Tryz.prog 27 #[.agg #[.int .i64 L.mem, .int .i64 L.own, .slice sa L.sh.length sc, .int .i64 L.bu, .int .i64 L.wt, .int .i64 L.ac, .slice qa L.q.length qc], .agg #[.int .i64 6, .int .i64 c, .int .i64 to, .int .i64 l, .int .i64 t, .int .i64 d]] w (LnG w base (.slice sa L.sh.length sc) (.slice qa L.q.length qc) L [] false) := by
  have hbv : Hid ((L.bu == 0) = false) := hide (by simp; omega)
  have hov : Hid ((L.own != 0) = true) := hide (by simp [ho])
  clear ho
  clear hbu
  have HB : Hid (Mv (fun g => rb (.slice qa L.q.length qc) = some g) w w) := hide (Mv.refl _ _)
  have RWl : ∀ g, (rb (.slice sa L.sh.length sc) = some g ∨ rb (.slice qa L.q.length qc) = some g ∨ rb (.slice none 0 0) = some g) → g < w.heap.size := fun g h => h.elim (fun e => (hs.lt g e).2) (fun h => h.elim (fun e => (hq.lt g e).2) (fun e => absurd e (by simp [rb])))
  have RS := hide hs; have RQ := hide hq; clear hs hq
  have RT : Hid (Rg w base (.slice none 0 0) 6 0 (gF (f6 []))) := hide (rg_nil _ _ _ _)
  have AP : Apt (.slice sa L.sh.length sc) (.slice qa L.q.length qc) (.slice none 0 0) := ⟨fun g e => ⟨hap g e, by simp [rb]⟩, fun g e => by simp [rb]⟩
  have FO : ∀ g, (rb (.slice sa L.sh.length sc) = some g ∨ rb (.slice qa L.q.length qc) = some g ∨ rb (.slice none 0 0) = some g) → (rb (.slice sa L.sh.length sc) = some g ∨ rb (.slice qa L.q.length qc) = some g) ∨ w.heap.size ≤ g := fun g h => h.elim (fun e => .inl (.inl e)) (fun h => h.elim (fun e => .inl (.inr e)) (fun e => absurd e (by simp [rb])))
  go_enter Tryz.func27, Tryz.ntmps27
  refine sk fun K1 h1 => rl ?_
  refine sbp #[.int .i64 L.mem, .int .i64 L.own, .slice sa L.sh.length sc, .int .i64 L.bu, .int .i64 L.wt, .int .i64 L.ac, .slice qa L.q.length qc] 31 fun V1 b0 hb0 m1 bx0 => ?_
  have o_0 : w.heap.size ≤ b0 := by omega
  replace RS := hide (RS.out.mv m1 (fun _ _ h => h))
  replace RQ := hide (RQ.out.mv m1 (fun _ _ h => h))
  replace RT := hide (RT.out.mv m1 (fun _ _ h => h))
  clear hb0
  refine sbp #[.int .i64 6, .int .i64 c, .int .i64 to, .int .i64 l, .int .i64 t, .int .i64 d] 36 fun V2 b1 hb1 m2 bx1 => ?_
  have o0_1 := Xlo bx0 hb1
  replace RS := hide (RS.out.mv m2 (fun _ _ h => h))
  replace RQ := hide (RQ.out.mv m2 (fun _ _ h => h))
  replace RT := hide (RT.out.mv m2 (fun _ _ h => h))
  clear hb1
  refine sbp #[.int .i64 0, .int .i64 0, .slice none 0 0, .int .i64 0, .int .i64 0, .int .i64 0, .slice none 0 0] 31 fun V3 b2 hb2 m3 bx2 => ?_
  have o1_2 := Xlo bx1 hb2
  replace RS := hide (RS.out.mv m3 (fun _ _ h => h))
  replace RQ := hide (RQ.out.mv m3 (fun _ _ h => h))
  replace RT := hide (RT.out.mv m3 (fun _ _ h => h))
  clear hb2
  refine sv (.slice none 0 0) ?_
  refine sv (.bool false) ?_
  refine nt (h1 _ _ (sk fun K2 h2 => sk fun K3 h3 => rl ?_)); clear h1 K1
  replace HB := Xhn (Xhn (Xhn HB m1) m2) m3; replace bx0 := Xbn (Xbn bx0 m2) m3; replace bx1 := Xbn bx1 m3
  have NB : Hid (∀ g, (rb (.slice sa L.sh.length sc) = some g ∨ rb (.slice qa L.q.length qc) = some g ∨ rb (.slice none 0 0) = some g) → g ≠ b0 ∧ g ≠ b1 ∧ g ≠ b2) := hide (fun g h => by have := RWl g h; omega)
  clear RWl
  refine sv (.pointer (some ⟨b1, 0, none⟩)) ?_
  refine sl 0 bx1 ?_
  refine nt (h3 _ _ (wp_block (sk fun K4 h4 => sk fun K5 h5 => rl ?_))); clear h3 K3
  refine sg (.bool false) ?_
  refine sv (.bool false) ?_
  refine nt (h5 _ _ (cf (rl ?_))); clear h5 K5
  refine sg (.bool false) ?_
  refine sv (.bool false) ?_
  refine nt (h4 _ _ (cf (sk fun K6 h6 => rl ?_))); clear h4 K4
  refine sg (.bool false) ?_
  refine sv (.bool false) ?_
  refine nt (h6 _ _ (cf (sk fun K7 h7 => rl ?_))); clear h6 K6
  refine sg (.bool true) ?_
  refine sv (.bool true) ?_
  refine nt (h7 _ _ (ct (sk fun K8 h8 => sk fun K9 h9 => rl ?_))); clear h7 K7
  refine sv (.pointer (some ⟨b0, 3, none⟩)) ?_
  refine sl 3 bx0 ?_
  refine sg (.bool false) (h := by have hd := hbv.out; go_simp) ?_
  refine sv (.bool false) ?_
  refine sv (.pointer (some ⟨b0, 1, none⟩)) ?_
  refine sl 1 bx0 ?_
  refine sg (.bool true) (h := by have hd := hov.out; go_simp) ?_
  refine sg (.bool true) ?_
  refine sv (.bool true) ?_
  with_reducible refine sp ?_
  with_reducible refine sp ?_
  with_reducible refine sp ?_
  refine sg (.bool true) ?_
  refine nt (h9 _ _ (ct (sk fun K10 h10 => rl ?_))); clear h9 K9
  refine sg (.agg #[.int .i64 L.mem, .int .i64 L.own, .slice sa L.sh.length sc, .int .i64 L.bu, .int .i64 L.wt, .int .i64 L.ac, .slice qa L.q.length qc]) (h := by have z0 := cell_box 0 (bx0.out) rfl; have z1 := cell_box 1 (bx0.out) rfl; have z2 := cell_box 2 (bx0.out) rfl; have z3 := cell_box 3 (bx0.out) rfl; have z4 := cell_box 4 (bx0.out) rfl; have z5 := cell_box 5 (bx0.out) rfl; have z6 := cell_box 6 (bx0.out) rfl; go_simp) ?_
  refine ss7 (.int .i64 L.mem) (.int .i64 L.own) (.slice sa L.sh.length sc) (.int .i64 L.bu) (.int .i64 L.wt) (.int .i64 L.ac) (.slice qa L.q.length qc) bx2 fun V4 m4 bx2 => ?_
  replace RS := hide (RS.out.mv m4 (fun g e h => by have h : g = b2 := h; have := NB.out g (.inl e); omega))
  replace RQ := hide (RQ.out.mv m4 (fun g e h => by have h : g = b2 := h; have := NB.out g (.inr (.inl e)); omega))
  replace RT := hide (RT.out.mv m4 (fun g e h => by have h : g = b2 := h; have := NB.out g (.inr (.inr e)); omega))
  refine sv (.slice none 0 0) ?_
  refine sv (.bool false) ?_
  refine nt (h10 _ _ (wp_ret (then_ret (inb_ret (then_ret ?_))))); clear h10 K10; clear h8 K8; clear h2 K2
  replace HB := Xhb HB m4; replace bx0 := Xbb bx0 m4; replace bx1 := Xbb bx1 m4
  have q2_0 := cell_box 0 bx2.out rfl
  have q2_1 := cell_box 1 bx2.out rfl
  have q2_2 := cell_box 2 bx2.out rfl
  have q2_3 := cell_box 3 bx2.out rfl
  have q2_4 := cell_box 4 bx2.out rfl
  have q2_5 := cell_box 5 bx2.out rfl
  have q2_6 := cell_box 6 bx2.out rfl
  exact bodyPost_ret (v := .tuple #[.agg #[.int .i64 L.mem, .int .i64 L.own, .slice sa L.sh.length sc, .int .i64 L.bu, .int .i64 L.wt, .int .i64 L.ac, .slice qa L.q.length qc], .slice none 0 0, .bool false]) (by simp [results, Tryz.results27, go_sem, q2_0, q2_1, q2_2, q2_3, q2_4, q2_5, q2_6]) rfl ⟨_, _, _, _, _, _, rfl, RS.out, RQ.out, RT.out, AP, FO, HB.out⟩

set_option maxRecDepth 20000 in
set_option maxHeartbeats 2000000 in
theorem sgot_6_read (c to l t d : Int) (base : Nat) (L : Hm.Ln) (sa : Option Addr) (sc : Nat) (qa : Option Addr) (qc : Nat) (w : World) (hs : Rg w base (.slice sa L.sh.length sc) 1 L.sh.length (gF (f1 L.sh))) (hq : Rg w base (.slice qa L.q.length qc) 2 L.q.length (gF (f2 L.q))) (hap : ∀ g, rb (.slice sa L.sh.length sc) = some g → rb (.slice qa L.q.length qc) ≠ some g) (hbw : base ≤ w.heap.size) (hbu : ¬ L.bu = 0) (ho : L.own = 0) (hw : ¬ L.wt = 2) :
    Calls Tryz.prog 27 #[.agg #[.int .i64 L.mem, .int .i64 L.own, .slice sa L.sh.length sc, .int .i64 L.bu, .int .i64 L.wt, .int .i64 L.ac, .slice qa L.q.length qc], .agg #[.int .i64 6, .int .i64 c, .int .i64 to, .int .i64 l, .int .i64 t, .int .i64 d]] w (LnG w base (.slice sa L.sh.length sc) (.slice qa L.q.length qc) L [] false) := by
  have hbv : Hid ((L.bu == 0) = false) := hide (by simp; omega)
  have hov : Hid ((L.own != 0) = false) := hide (by simp [ho])
  clear ho
  have hwv : Hid ((L.wt != 2) = true) := hide (by simp [hw])
  clear hw
  clear hbu
  have HB : Hid (Mv (fun g => rb (.slice qa L.q.length qc) = some g) w w) := hide (Mv.refl _ _)
  have RWl : ∀ g, (rb (.slice sa L.sh.length sc) = some g ∨ rb (.slice qa L.q.length qc) = some g ∨ rb (.slice none 0 0) = some g) → g < w.heap.size := fun g h => h.elim (fun e => (hs.lt g e).2) (fun h => h.elim (fun e => (hq.lt g e).2) (fun e => absurd e (by simp [rb])))
  have RS := hide hs; have RQ := hide hq; clear hs hq
  have RT : Hid (Rg w base (.slice none 0 0) 6 0 (gF (f6 []))) := hide (rg_nil _ _ _ _)
  have AP : Apt (.slice sa L.sh.length sc) (.slice qa L.q.length qc) (.slice none 0 0) := ⟨fun g e => ⟨hap g e, by simp [rb]⟩, fun g e => by simp [rb]⟩
  have FO : ∀ g, (rb (.slice sa L.sh.length sc) = some g ∨ rb (.slice qa L.q.length qc) = some g ∨ rb (.slice none 0 0) = some g) → (rb (.slice sa L.sh.length sc) = some g ∨ rb (.slice qa L.q.length qc) = some g) ∨ w.heap.size ≤ g := fun g h => h.elim (fun e => .inl (.inl e)) (fun h => h.elim (fun e => .inl (.inr e)) (fun e => absurd e (by simp [rb])))
  go_enter Tryz.func27, Tryz.ntmps27
  refine sk fun K1 h1 => rl ?_
  refine sbp #[.int .i64 L.mem, .int .i64 L.own, .slice sa L.sh.length sc, .int .i64 L.bu, .int .i64 L.wt, .int .i64 L.ac, .slice qa L.q.length qc] 31 fun V1 b0 hb0 m1 bx0 => ?_
  have o_0 : w.heap.size ≤ b0 := by omega
  replace RS := hide (RS.out.mv m1 (fun _ _ h => h))
  replace RQ := hide (RQ.out.mv m1 (fun _ _ h => h))
  replace RT := hide (RT.out.mv m1 (fun _ _ h => h))
  clear hb0
  refine sbp #[.int .i64 6, .int .i64 c, .int .i64 to, .int .i64 l, .int .i64 t, .int .i64 d] 36 fun V2 b1 hb1 m2 bx1 => ?_
  have o0_1 := Xlo bx0 hb1
  replace RS := hide (RS.out.mv m2 (fun _ _ h => h))
  replace RQ := hide (RQ.out.mv m2 (fun _ _ h => h))
  replace RT := hide (RT.out.mv m2 (fun _ _ h => h))
  clear hb1
  refine sbp #[.int .i64 0, .int .i64 0, .slice none 0 0, .int .i64 0, .int .i64 0, .int .i64 0, .slice none 0 0] 31 fun V3 b2 hb2 m3 bx2 => ?_
  have o1_2 := Xlo bx1 hb2
  replace RS := hide (RS.out.mv m3 (fun _ _ h => h))
  replace RQ := hide (RQ.out.mv m3 (fun _ _ h => h))
  replace RT := hide (RT.out.mv m3 (fun _ _ h => h))
  clear hb2
  refine sv (.slice none 0 0) ?_
  refine sv (.bool false) ?_
  refine nt (h1 _ _ (sk fun K2 h2 => sk fun K3 h3 => rl ?_)); clear h1 K1
  replace HB := Xhn (Xhn (Xhn HB m1) m2) m3; replace bx0 := Xbn (Xbn bx0 m2) m3; replace bx1 := Xbn bx1 m3
  have NB : Hid (∀ g, (rb (.slice sa L.sh.length sc) = some g ∨ rb (.slice qa L.q.length qc) = some g ∨ rb (.slice none 0 0) = some g) → g ≠ b0 ∧ g ≠ b1 ∧ g ≠ b2) := hide (fun g h => by have := RWl g h; omega)
  clear RWl
  refine sv (.pointer (some ⟨b1, 0, none⟩)) ?_
  refine sl 0 bx1 ?_
  refine nt (h3 _ _ (wp_block (sk fun K4 h4 => sk fun K5 h5 => rl ?_))); clear h3 K3
  refine sg (.bool false) ?_
  refine sv (.bool false) ?_
  refine nt (h5 _ _ (cf (rl ?_))); clear h5 K5
  refine sg (.bool false) ?_
  refine sv (.bool false) ?_
  refine nt (h4 _ _ (cf (sk fun K6 h6 => rl ?_))); clear h4 K4
  refine sg (.bool false) ?_
  refine sv (.bool false) ?_
  refine nt (h6 _ _ (cf (sk fun K7 h7 => rl ?_))); clear h6 K6
  refine sg (.bool true) ?_
  refine sv (.bool true) ?_
  refine nt (h7 _ _ (ct (sk fun K8 h8 => sk fun K9 h9 => rl ?_))); clear h7 K7
  refine sv (.pointer (some ⟨b0, 3, none⟩)) ?_
  refine sl 3 bx0 ?_
  refine sg (.bool false) (h := by have hd := hbv.out; go_simp) ?_
  refine sv (.bool false) ?_
  refine sv (.pointer (some ⟨b0, 1, none⟩)) ?_
  refine sl 1 bx0 ?_
  refine sg (.bool false) (h := by have hd := hov.out; go_simp) ?_
  refine sg (.bool false) ?_
  refine sv (.bool false) ?_
  refine sv (.pointer (some ⟨b0, 4, none⟩)) ?_
  refine sl 4 bx0 ?_
  refine sg (.bool true) (h := by have hd := hwv.out; go_simp) ?_
  refine sg (.bool true) ?_
  refine nt (h9 _ _ (ct (sk fun K10 h10 => rl ?_))); clear h9 K9
  refine sg (.agg #[.int .i64 L.mem, .int .i64 L.own, .slice sa L.sh.length sc, .int .i64 L.bu, .int .i64 L.wt, .int .i64 L.ac, .slice qa L.q.length qc]) (h := by have z0 := cell_box 0 (bx0.out) rfl; have z1 := cell_box 1 (bx0.out) rfl; have z2 := cell_box 2 (bx0.out) rfl; have z3 := cell_box 3 (bx0.out) rfl; have z4 := cell_box 4 (bx0.out) rfl; have z5 := cell_box 5 (bx0.out) rfl; have z6 := cell_box 6 (bx0.out) rfl; go_simp) ?_
  refine ss7 (.int .i64 L.mem) (.int .i64 L.own) (.slice sa L.sh.length sc) (.int .i64 L.bu) (.int .i64 L.wt) (.int .i64 L.ac) (.slice qa L.q.length qc) bx2 fun V4 m4 bx2 => ?_
  replace RS := hide (RS.out.mv m4 (fun g e h => by have h : g = b2 := h; have := NB.out g (.inl e); omega))
  replace RQ := hide (RQ.out.mv m4 (fun g e h => by have h : g = b2 := h; have := NB.out g (.inr (.inl e)); omega))
  replace RT := hide (RT.out.mv m4 (fun g e h => by have h : g = b2 := h; have := NB.out g (.inr (.inr e)); omega))
  refine sv (.slice none 0 0) ?_
  refine sv (.bool false) ?_
  refine nt (h10 _ _ (wp_ret (then_ret (inb_ret (then_ret ?_))))); clear h10 K10; clear h8 K8; clear h2 K2
  replace HB := Xhb HB m4; replace bx0 := Xbb bx0 m4; replace bx1 := Xbb bx1 m4
  have q2_0 := cell_box 0 bx2.out rfl
  have q2_1 := cell_box 1 bx2.out rfl
  have q2_2 := cell_box 2 bx2.out rfl
  have q2_3 := cell_box 3 bx2.out rfl
  have q2_4 := cell_box 4 bx2.out rfl
  have q2_5 := cell_box 5 bx2.out rfl
  have q2_6 := cell_box 6 bx2.out rfl
  exact bodyPost_ret (v := .tuple #[.agg #[.int .i64 L.mem, .int .i64 L.own, .slice sa L.sh.length sc, .int .i64 L.bu, .int .i64 L.wt, .int .i64 L.ac, .slice qa L.q.length qc], .slice none 0 0, .bool false]) (by simp [results, Tryz.results27, go_sem, q2_0, q2_1, q2_2, q2_3, q2_4, q2_5, q2_6]) rfl ⟨_, _, _, _, _, _, rfl, RS.out, RQ.out, RT.out, AP, FO, HB.out⟩

set_option maxRecDepth 20000 in
set_option maxHeartbeats 2000000 in
theorem sgot_6_more (c to l t d : Int) (base : Nat) (L : Hm.Ln) (sa : Option Addr) (sc : Nat) (qa : Option Addr) (qc : Nat) (w : World) (hs : Rg w base (.slice sa L.sh.length sc) 1 L.sh.length (gF (f1 L.sh))) (hq : Rg w base (.slice qa L.q.length qc) 2 L.q.length (gF (f2 L.q))) (hap : ∀ g, rb (.slice sa L.sh.length sc) = some g → rb (.slice qa L.q.length qc) ≠ some g) (hbw : base ≤ w.heap.size) (hbu : ¬ L.bu = 0) (ho : L.own = 0) (hw : L.wt = 2) (ha : 1 < L.ac) (ha5 : L.ac ≤ 5) :
    Calls Tryz.prog 27 #[.agg #[.int .i64 L.mem, .int .i64 L.own, .slice sa L.sh.length sc, .int .i64 L.bu, .int .i64 L.wt, .int .i64 L.ac, .slice qa L.q.length qc], .agg #[.int .i64 6, .int .i64 c, .int .i64 to, .int .i64 l, .int .i64 t, .int .i64 d]] w (LnG w base (.slice sa L.sh.length sc) (.slice qa L.q.length qc) { L with ac := L.ac - 1 } [] true) := by
  have hbv : Hid ((L.bu == 0) = false) := hide (by simp; omega)
  have hov : Hid ((L.own != 0) = false) := hide (by simp [ho])
  clear ho
  have hwv : Hid ((L.wt != 2) = false) := hide (by simp [hw])
  clear hw
  clear hbu
  have HB : Hid (Mv (fun g => rb (.slice qa L.q.length qc) = some g) w w) := hide (Mv.refl _ _)
  have RWl : ∀ g, (rb (.slice sa L.sh.length sc) = some g ∨ rb (.slice qa L.q.length qc) = some g ∨ rb (.slice none 0 0) = some g) → g < w.heap.size := fun g h => h.elim (fun e => (hs.lt g e).2) (fun h => h.elim (fun e => (hq.lt g e).2) (fun e => absurd e (by simp [rb])))
  have RS := hide hs; have RQ := hide hq; clear hs hq
  have RT : Hid (Rg w base (.slice none 0 0) 6 0 (gF (f6 []))) := hide (rg_nil _ _ _ _)
  have AP : Apt (.slice sa L.sh.length sc) (.slice qa L.q.length qc) (.slice none 0 0) := ⟨fun g e => ⟨hap g e, by simp [rb]⟩, fun g e => by simp [rb]⟩
  have FO : ∀ g, (rb (.slice sa L.sh.length sc) = some g ∨ rb (.slice qa L.q.length qc) = some g ∨ rb (.slice none 0 0) = some g) → (rb (.slice sa L.sh.length sc) = some g ∨ rb (.slice qa L.q.length qc) = some g) ∨ w.heap.size ≤ g := fun g h => h.elim (fun e => .inl (.inl e)) (fun h => h.elim (fun e => .inl (.inr e)) (fun e => absurd e (by simp [rb])))
  go_enter Tryz.func27, Tryz.ntmps27
  refine sk fun K1 h1 => rl ?_
  refine sbp #[.int .i64 L.mem, .int .i64 L.own, .slice sa L.sh.length sc, .int .i64 L.bu, .int .i64 L.wt, .int .i64 L.ac, .slice qa L.q.length qc] 31 fun V1 b0 hb0 m1 bx0 => ?_
  have o_0 : w.heap.size ≤ b0 := by omega
  replace RS := hide (RS.out.mv m1 (fun _ _ h => h))
  replace RQ := hide (RQ.out.mv m1 (fun _ _ h => h))
  replace RT := hide (RT.out.mv m1 (fun _ _ h => h))
  clear hb0
  refine sbp #[.int .i64 6, .int .i64 c, .int .i64 to, .int .i64 l, .int .i64 t, .int .i64 d] 36 fun V2 b1 hb1 m2 bx1 => ?_
  have o0_1 := Xlo bx0 hb1
  replace RS := hide (RS.out.mv m2 (fun _ _ h => h))
  replace RQ := hide (RQ.out.mv m2 (fun _ _ h => h))
  replace RT := hide (RT.out.mv m2 (fun _ _ h => h))
  clear hb1
  refine sbp #[.int .i64 0, .int .i64 0, .slice none 0 0, .int .i64 0, .int .i64 0, .int .i64 0, .slice none 0 0] 31 fun V3 b2 hb2 m3 bx2 => ?_
  have o1_2 := Xlo bx1 hb2
  replace RS := hide (RS.out.mv m3 (fun _ _ h => h))
  replace RQ := hide (RQ.out.mv m3 (fun _ _ h => h))
  replace RT := hide (RT.out.mv m3 (fun _ _ h => h))
  clear hb2
  refine sv (.slice none 0 0) ?_
  refine sv (.bool false) ?_
  refine nt (h1 _ _ (sk fun K2 h2 => sk fun K3 h3 => rl ?_)); clear h1 K1
  replace HB := Xhn (Xhn (Xhn HB m1) m2) m3; replace bx0 := Xbn (Xbn bx0 m2) m3; replace bx1 := Xbn bx1 m3
  have NB : Hid (∀ g, (rb (.slice sa L.sh.length sc) = some g ∨ rb (.slice qa L.q.length qc) = some g ∨ rb (.slice none 0 0) = some g) → g ≠ b0 ∧ g ≠ b1 ∧ g ≠ b2) := hide (fun g h => by have := RWl g h; omega)
  clear RWl
  refine sv (.pointer (some ⟨b1, 0, none⟩)) ?_
  refine sl 0 bx1 ?_
  refine nt (h3 _ _ (wp_block (sk fun K4 h4 => sk fun K5 h5 => rl ?_))); clear h3 K3
  refine sg (.bool false) ?_
  refine sv (.bool false) ?_
  refine nt (h5 _ _ (cf (rl ?_))); clear h5 K5
  refine sg (.bool false) ?_
  refine sv (.bool false) ?_
  refine nt (h4 _ _ (cf (sk fun K6 h6 => rl ?_))); clear h4 K4
  refine sg (.bool false) ?_
  refine sv (.bool false) ?_
  refine nt (h6 _ _ (cf (sk fun K7 h7 => rl ?_))); clear h6 K6
  refine sg (.bool true) ?_
  refine sv (.bool true) ?_
  refine nt (h7 _ _ (ct (sk fun K8 h8 => sk fun K9 h9 => rl ?_))); clear h7 K7
  refine sv (.pointer (some ⟨b0, 3, none⟩)) ?_
  refine sl 3 bx0 ?_
  refine sg (.bool false) (h := by have hd := hbv.out; go_simp) ?_
  refine sv (.bool false) ?_
  refine sv (.pointer (some ⟨b0, 1, none⟩)) ?_
  refine sl 1 bx0 ?_
  refine sg (.bool false) (h := by have hd := hov.out; go_simp) ?_
  refine sg (.bool false) ?_
  refine sv (.bool false) ?_
  refine sv (.pointer (some ⟨b0, 4, none⟩)) ?_
  refine sl 4 bx0 ?_
  refine sg (.bool false) (h := by have hd := hwv.out; go_simp) ?_
  refine sg (.bool false) ?_
  refine nt (h9 _ _ (cf (wp_skip (then_normal (h8 _ _ (sk fun K10 h10 => rl ?_)))))); clear h9 K9; clear h8 K8
  refine sv (.pointer (some ⟨b0, 5, none⟩)) ?_
  refine sl 5 bx0 ?_
  refine sg (.int .i64 (L.ac - 1)) (h := by have hq : IntKind.i64.wrap (L.ac - 1) = L.ac - 1 := i64wrap (by omega); go_simp) ?_
  refine sv (.pointer (some ⟨b0, 5, none⟩)) ?_
  refine ss 5 (.int .i64 (L.ac - 1)) bx0 fun V4 m4 bx0 => ?_
  replace RS := hide (RS.out.mv m4 (fun g e h => by have h : g = b0 := h; have := NB.out g (.inl e); omega))
  replace RQ := hide (RQ.out.mv m4 (fun g e h => by have h : g = b0 := h; have := NB.out g (.inr (.inl e)); omega))
  replace RT := hide (RT.out.mv m4 (fun g e h => by have h : g = b0 := h; have := NB.out g (.inr (.inr e)); omega))
  refine nt (h10 _ _ (sk fun K11 h11 => rl ?_)); clear h10 K10
  refine sv (.pointer (some ⟨b0, 5, none⟩)) ?_
  refine sl 5 bx0 ?_
  refine sg (.bool true) (h := by have hd : decide (0 < L.ac - 1) = true := (by simp; omega); have hd2 : decide (L.ac - 1 > 0) = true := (by simp; omega); go_simp) ?_
  refine nt (h11 _ _ (ct (sk fun K12 h12 => rl ?_))); clear h11 K11
  refine sg (.agg #[.int .i64 L.mem, .int .i64 L.own, .slice sa L.sh.length sc, .int .i64 L.bu, .int .i64 L.wt, .int .i64 (L.ac - 1), .slice qa L.q.length qc]) (h := by have z0 := cell_box 0 (bx0.out) rfl; have z1 := cell_box 1 (bx0.out) rfl; have z2 := cell_box 2 (bx0.out) rfl; have z3 := cell_box 3 (bx0.out) rfl; have z4 := cell_box 4 (bx0.out) rfl; have z5 := cell_box 5 (bx0.out) rfl; have z6 := cell_box 6 (bx0.out) rfl; go_simp) ?_
  replace bx2 := Xbb bx2 m4
  refine ss7 (.int .i64 L.mem) (.int .i64 L.own) (.slice sa L.sh.length sc) (.int .i64 L.bu) (.int .i64 L.wt) (.int .i64 (L.ac - 1)) (.slice qa L.q.length qc) bx2 fun V5 m5 bx2 => ?_
  replace RS := hide (RS.out.mv m5 (fun g e h => by have h : g = b2 := h; have := NB.out g (.inl e); omega))
  replace RQ := hide (RQ.out.mv m5 (fun g e h => by have h : g = b2 := h; have := NB.out g (.inr (.inl e)); omega))
  replace RT := hide (RT.out.mv m5 (fun g e h => by have h : g = b2 := h; have := NB.out g (.inr (.inr e)); omega))
  refine sv (.slice none 0 0) ?_
  refine sv (.bool true) ?_
  refine nt (h12 _ _ (wp_ret (inb_ret (then_ret ?_)))); clear h12 K12; clear h2 K2
  replace HB := Xhb (Xhb HB m4) m5; replace bx1 := Xbb (Xbb bx1 m4) m5; replace bx0 := Xbb bx0 m5
  have q2_0 := cell_box 0 bx2.out rfl
  have q2_1 := cell_box 1 bx2.out rfl
  have q2_2 := cell_box 2 bx2.out rfl
  have q2_3 := cell_box 3 bx2.out rfl
  have q2_4 := cell_box 4 bx2.out rfl
  have q2_5 := cell_box 5 bx2.out rfl
  have q2_6 := cell_box 6 bx2.out rfl
  exact bodyPost_ret (v := .tuple #[.agg #[.int .i64 L.mem, .int .i64 L.own, .slice sa L.sh.length sc, .int .i64 L.bu, .int .i64 L.wt, .int .i64 (L.ac - 1), .slice qa L.q.length qc], .slice none 0 0, .bool true]) (by simp [results, Tryz.results27, go_sem, q2_0, q2_1, q2_2, q2_3, q2_4, q2_5, q2_6]) rfl ⟨_, _, _, _, _, _, rfl, RS.out, RQ.out, RT.out, AP, FO, HB.out⟩

set_option maxRecDepth 20000 in
set_option maxHeartbeats 2000000 in
theorem sgot_6_on (c to l t d : Int) (base : Nat) (L : Hm.Ln) (sa : Option Addr) (sc : Nat) (qa : Option Addr) (qc : Nat) (w : World) (hs : Rg w base (.slice sa L.sh.length sc) 1 L.sh.length (gF (f1 L.sh))) (hq : Rg w base (.slice qa L.q.length qc) 2 L.q.length (gF (f2 L.q))) (hap : ∀ g, rb (.slice sa L.sh.length sc) = some g → rb (.slice qa L.q.length qc) ≠ some g) (hbw : base ≤ w.heap.size) (hgd : Gd L) (hb1 : 1 ≤ L.bu) (hb5 : L.bu ≤ 5) (ho : L.own = 0) (hw : L.wt = 2) (ha : L.ac = 1) (R : Bool × Hm.Ln × List Hm.Mg) (hR : Hm.nextR l L.q (Hm.grantL { L with ac := L.ac - 1 } L.bu L.wt) [Hm.mGrant L.bu l L.wt L.mem] = R) :
    Calls Tryz.prog 27 #[.agg #[.int .i64 L.mem, .int .i64 L.own, .slice sa L.sh.length sc, .int .i64 L.bu, .int .i64 L.wt, .int .i64 L.ac, .slice qa L.q.length qc], .agg #[.int .i64 6, .int .i64 c, .int .i64 to, .int .i64 l, .int .i64 t, .int .i64 d]] w (LnG w base (.slice sa L.sh.length sc) (.slice qa L.q.length qc) R.2.1 R.2.2 R.1) := by
  have hbv : Hid ((L.bu == 0) = false) := hide (by simp; omega)
  have hov : Hid ((L.own != 0) = false) := hide (by simp [ho])
  clear ho
  have hwv : Hid ((L.wt != 2) = false) := hide (by simp [hw])
  clear hw
  have hA := hide ha; clear ha
  have HB : Hid (Mv (fun g => rb (.slice qa L.q.length qc) = some g) w w) := hide (Mv.refl _ _)
  have RWl : ∀ g, (rb (.slice sa L.sh.length sc) = some g ∨ rb (.slice qa L.q.length qc) = some g ∨ rb (.slice none 0 0) = some g) → g < w.heap.size := fun g h => h.elim (fun e => (hs.lt g e).2) (fun h => h.elim (fun e => (hq.lt g e).2) (fun e => absurd e (by simp [rb])))
  have RS := hide hs; have RQ := hide hq; clear hs hq
  have RT : Hid (Rg w base (.slice none 0 0) 6 0 (gF (f6 []))) := hide (rg_nil _ _ _ _)
  have AP : Apt (.slice sa L.sh.length sc) (.slice qa L.q.length qc) (.slice none 0 0) := ⟨fun g e => ⟨hap g e, by simp [rb]⟩, fun g e => by simp [rb]⟩
  have FO : ∀ g, (rb (.slice sa L.sh.length sc) = some g ∨ rb (.slice qa L.q.length qc) = some g ∨ rb (.slice none 0 0) = some g) → (rb (.slice sa L.sh.length sc) = some g ∨ rb (.slice qa L.q.length qc) = some g) ∨ w.heap.size ≤ g := fun g h => h.elim (fun e => .inl (.inl e)) (fun h => h.elim (fun e => .inl (.inr e)) (fun e => absurd e (by simp [rb])))
  go_enter Tryz.func27, Tryz.ntmps27
  refine sk fun K1 h1 => rl ?_
  refine sbp #[.int .i64 L.mem, .int .i64 L.own, .slice sa L.sh.length sc, .int .i64 L.bu, .int .i64 L.wt, .int .i64 L.ac, .slice qa L.q.length qc] 31 fun V1 b0 hb0 m1 bx0 => ?_
  have o_0 : w.heap.size ≤ b0 := by omega
  replace RS := hide (RS.out.mv m1 (fun _ _ h => h))
  replace RQ := hide (RQ.out.mv m1 (fun _ _ h => h))
  replace RT := hide (RT.out.mv m1 (fun _ _ h => h))
  clear hb0
  refine sbp #[.int .i64 6, .int .i64 c, .int .i64 to, .int .i64 l, .int .i64 t, .int .i64 d] 36 fun V2 b1 hb1 m2 bx1 => ?_
  have o0_1 := Xlo bx0 hb1
  replace RS := hide (RS.out.mv m2 (fun _ _ h => h))
  replace RQ := hide (RQ.out.mv m2 (fun _ _ h => h))
  replace RT := hide (RT.out.mv m2 (fun _ _ h => h))
  clear hb1
  refine sbp #[.int .i64 0, .int .i64 0, .slice none 0 0, .int .i64 0, .int .i64 0, .int .i64 0, .slice none 0 0] 31 fun V3 b2 hb2 m3 bx2 => ?_
  have o1_2 := Xlo bx1 hb2
  replace RS := hide (RS.out.mv m3 (fun _ _ h => h))
  replace RQ := hide (RQ.out.mv m3 (fun _ _ h => h))
  replace RT := hide (RT.out.mv m3 (fun _ _ h => h))
  clear hb2
  refine sv (.slice none 0 0) ?_
  refine sv (.bool false) ?_
  refine nt (h1 _ _ (sk fun K2 h2 => sk fun K3 h3 => rl ?_)); clear h1 K1
  replace HB := Xhn (Xhn (Xhn HB m1) m2) m3; replace bx0 := Xbn (Xbn bx0 m2) m3; replace bx1 := Xbn bx1 m3
  have NB : Hid (∀ g, (rb (.slice sa L.sh.length sc) = some g ∨ rb (.slice qa L.q.length qc) = some g ∨ rb (.slice none 0 0) = some g) → g ≠ b0 ∧ g ≠ b1 ∧ g ≠ b2) := hide (fun g h => by have := RWl g h; omega)
  clear RWl
  refine sv (.pointer (some ⟨b1, 0, none⟩)) ?_
  refine sl 0 bx1 ?_
  refine nt (h3 _ _ (wp_block (sk fun K4 h4 => sk fun K5 h5 => rl ?_))); clear h3 K3
  refine sg (.bool false) ?_
  refine sv (.bool false) ?_
  refine nt (h5 _ _ (cf (rl ?_))); clear h5 K5
  refine sg (.bool false) ?_
  refine sv (.bool false) ?_
  refine nt (h4 _ _ (cf (sk fun K6 h6 => rl ?_))); clear h4 K4
  refine sg (.bool false) ?_
  refine sv (.bool false) ?_
  refine nt (h6 _ _ (cf (sk fun K7 h7 => rl ?_))); clear h6 K6
  refine sg (.bool true) ?_
  refine sv (.bool true) ?_
  refine nt (h7 _ _ (ct (sk fun K8 h8 => sk fun K9 h9 => rl ?_))); clear h7 K7
  refine sv (.pointer (some ⟨b0, 3, none⟩)) ?_
  refine sl 3 bx0 ?_
  refine sg (.bool false) (h := by have hd := hbv.out; go_simp) ?_
  refine sv (.bool false) ?_
  refine sv (.pointer (some ⟨b0, 1, none⟩)) ?_
  refine sl 1 bx0 ?_
  refine sg (.bool false) (h := by have hd := hov.out; go_simp) ?_
  refine sg (.bool false) ?_
  refine sv (.bool false) ?_
  refine sv (.pointer (some ⟨b0, 4, none⟩)) ?_
  refine sl 4 bx0 ?_
  refine sg (.bool false) (h := by have hd := hwv.out; go_simp) ?_
  refine sg (.bool false) ?_
  refine nt (h9 _ _ (cf (wp_skip (then_normal (h8 _ _ (sk fun K10 h10 => rl ?_)))))); clear h9 K9; clear h8 K8
  refine sv (.pointer (some ⟨b0, 5, none⟩)) ?_
  refine sl 5 bx0 ?_
  refine sg (.int .i64 (L.ac - 1)) (h := by have hq : IntKind.i64.wrap (L.ac - 1) = L.ac - 1 := i64wrap (by rw [hA.out]; omega); go_simp) ?_
  refine sv (.pointer (some ⟨b0, 5, none⟩)) ?_
  refine ss 5 (.int .i64 (L.ac - 1)) bx0 fun V4 m4 bx0 => ?_
  replace RS := hide (RS.out.mv m4 (fun g e h => by have h : g = b0 := h; have := NB.out g (.inl e); omega))
  replace RQ := hide (RQ.out.mv m4 (fun g e h => by have h : g = b0 := h; have := NB.out g (.inr (.inl e)); omega))
  replace RT := hide (RT.out.mv m4 (fun g e h => by have h : g = b0 := h; have := NB.out g (.inr (.inr e)); omega))
  refine nt (h10 _ _ (sk fun K11 h11 => rl ?_)); clear h10 K10
  refine sv (.pointer (some ⟨b0, 5, none⟩)) ?_
  refine sl 5 bx0 ?_
  refine sg (.bool false) (h := by have hd : decide (0 < L.ac - 1) = false := (by rw [hA.out]; decide); have hd2 : decide (L.ac - 1 > 0) = false := (by rw [hA.out]; decide); have hd3 : L.ac ≤ 1 := (by rw [hA.out]; decide); go_simp) ?_
  refine nt (h11 _ _ (cf (wp_skip (inb_norm (then_normal (h2 _ _ (sk fun K12 h12 => rl ?_))))))); clear h11 K11; clear h2 K2
  have hg1 : Gd { L with ac := L.ac - 1 } := ⟨hgd.sh, hgd.n, hgd.q⟩
  refine sg (.agg #[.int .i64 L.mem, .int .i64 L.own, .slice sa L.sh.length sc, .int .i64 L.bu, .int .i64 L.wt, .int .i64 (L.ac - 1), .slice qa L.q.length qc]) (h := by have z0 := cell_box 0 (bx0.out) rfl; have z1 := cell_box 1 (bx0.out) rfl; have z2 := cell_box 2 (bx0.out) rfl; have z3 := cell_box 3 (bx0.out) rfl; have z4 := cell_box 4 (bx0.out) rfl; have z5 := cell_box 5 (bx0.out) rfl; have z6 := cell_box 6 (bx0.out) rfl; go_simp) ?_
  refine sv (.pointer (some ⟨b1, 3, none⟩)) ?_
  replace bx1 := Xbb bx1 m4
  refine sl 3 bx1 ?_
  refine sv (.pointer (some ⟨b0, 3, none⟩)) ?_
  refine sl 3 bx0 ?_
  refine sv (.pointer (some ⟨b0, 4, none⟩)) ?_
  refine sl 4 bx0 ?_
  refine sv (.agg #[.int .i64 L.bu, .int .i64 L.wt]) ?_
  replace HB := Xhb HB m4
  have szV := HB.out.size
  have hbV := Nat.le_trans hbw szV
  obtain ⟨N8, hN8⟩ : ∃ N, V4.heap.size = N := ⟨_, rfl⟩
  have bz_b0 := lt_of_block bx0.out
  have bz_b1 := lt_of_block bx1.out
  replace bx2 := Xbb bx2 m4
  have bz_b2 := lt_of_block bx2.out
  refine sw_call (by rfl) (by first | rfl | (go_simp; done)) (l4Grant_any l L.bu L.wt base { L with ac := L.ac - 1 } _ _ _ _ V4 RS.out RQ.out (fun g e => (AP.1 g e).1) hbV hg1.sh hb1 hb5) ?_
  rintro e V5 ⟨sa3, sc3, qa3, qc3, ta3, tc3, rfl, gs, gq, gt, gap, gfr, gtn, hbl⟩
  have m5 : Mv (nob) V4 V5 := Mv.of_below hbl
  refine ⟨_, rfl, ?_⟩
  refine pt ?_
  have RTn : ∀ g, rb (.slice ta3 1 tc3) = some g → w.heap.size ≤ g := fun g e => Nat.le_trans szV (gtn g e)
  replace NB : Hid (∀ g, (rb (.slice sa3 (Hm.grantL { L with ac := L.ac - 1 } L.bu L.wt).sh.length sc3) = some g ∨ rb (.slice qa3 (Hm.grantL { L with ac := L.ac - 1 } L.bu L.wt).q.length qc3) = some g ∨ rb (.slice ta3 1 tc3) = some g) → g ≠ b0 ∧ g ≠ b1 ∧ g ≠ b2) := hide (fun g h => (gfr g h).elim (fun q => by have := NB.out g (q.elim .inl (fun e => .inr (.inl e))); omega) (fun q => by omega))
  replace FO : ∀ g, (rb (.slice sa3 (Hm.grantL { L with ac := L.ac - 1 } L.bu L.wt).sh.length sc3) = some g ∨ rb (.slice qa3 (Hm.grantL { L with ac := L.ac - 1 } L.bu L.wt).q.length qc3) = some g ∨ rb (.slice ta3 1 tc3) = some g) → (rb (.slice sa L.sh.length sc) = some g ∨ rb (.slice qa L.q.length qc) = some g) ∨ w.heap.size ≤ g := fun g h => (gfr g h).elim (fun q => FO g (q.elim .inl (fun e => .inr (.inl e)))) (fun q => .inr (Nat.le_trans szV q))
  replace RS := hide gs; replace RQ := hide gq; replace RT := hide gt
  replace AP := gap
  clear gs gq gt gap gfr
  clear hbl gtn szV hbV hN8 bz_b0 bz_b1 bz_b2
  refine sv (.tuple #[.agg #[.int .i64 (Hm.grantL { L with ac := L.ac - 1 } L.bu L.wt).mem, .int .i64 (Hm.grantL { L with ac := L.ac - 1 } L.bu L.wt).own, .slice sa3 (Hm.grantL { L with ac := L.ac - 1 } L.bu L.wt).sh.length sc3, .int .i64 (Hm.grantL { L with ac := L.ac - 1 } L.bu L.wt).bu, .int .i64 (Hm.grantL { L with ac := L.ac - 1 } L.bu L.wt).wt, .int .i64 (Hm.grantL { L with ac := L.ac - 1 } L.bu L.wt).ac, .slice qa3 (Hm.grantL { L with ac := L.ac - 1 } L.bu L.wt).q.length qc3], .slice ta3 1 tc3]) ?_
  refine sv (.agg #[.int .i64 (Hm.grantL { L with ac := L.ac - 1 } L.bu L.wt).mem, .int .i64 (Hm.grantL { L with ac := L.ac - 1 } L.bu L.wt).own, .slice sa3 (Hm.grantL { L with ac := L.ac - 1 } L.bu L.wt).sh.length sc3, .int .i64 (Hm.grantL { L with ac := L.ac - 1 } L.bu L.wt).bu, .int .i64 (Hm.grantL { L with ac := L.ac - 1 } L.bu L.wt).wt, .int .i64 (Hm.grantL { L with ac := L.ac - 1 } L.bu L.wt).ac, .slice qa3 (Hm.grantL { L with ac := L.ac - 1 } L.bu L.wt).q.length qc3]) ?_
  refine sv (.slice ta3 1 tc3) ?_
  replace HB := Xhn HB m5; replace bx0 := Xbn bx0 m5; replace bx1 := Xbn bx1 m5; replace bx2 := Xbn bx2 m5
  refine sbp #[.int .i64 0, .int .i64 0, .slice none 0 0, .int .i64 0, .int .i64 0, .int .i64 0, .slice none 0 0] 31 fun V6 b3 hb3 m6 bx3 => ?_
  have o2_3 := Xlo bx2 hb3
  replace NB : Hid (∀ g, (rb (.slice sa3 (Hm.grantL { L with ac := L.ac - 1 } L.bu L.wt).sh.length sc3) = some g ∨ rb (.slice qa3 (Hm.grantL { L with ac := L.ac - 1 } L.bu L.wt).q.length qc3) = some g ∨ rb (.slice ta3 1 tc3) = some g) → g ≠ b0 ∧ g ≠ b1 ∧ g ≠ b2 ∧ g ≠ b3) := hide (fun g h => by have h1 := NB.out g h; have h2 := rows_lt RS.out RQ.out RT.out g h; exact (by omega))
  replace RS := hide (RS.out.mv m6 (fun _ _ h => h))
  replace RQ := hide (RQ.out.mv m6 (fun _ _ h => h))
  replace RT := hide (RT.out.mv m6 (fun _ _ h => h))
  clear hb3
  refine ss7 (.int .i64 (Hm.grantL { L with ac := L.ac - 1 } L.bu L.wt).mem) (.int .i64 (Hm.grantL { L with ac := L.ac - 1 } L.bu L.wt).own) (.slice sa3 (Hm.grantL { L with ac := L.ac - 1 } L.bu L.wt).sh.length sc3) (.int .i64 (Hm.grantL { L with ac := L.ac - 1 } L.bu L.wt).bu) (.int .i64 (Hm.grantL { L with ac := L.ac - 1 } L.bu L.wt).wt) (.int .i64 (Hm.grantL { L with ac := L.ac - 1 } L.bu L.wt).ac) (.slice qa3 (Hm.grantL { L with ac := L.ac - 1 } L.bu L.wt).q.length qc3) bx3 fun V7 m7 bx3 => ?_
  replace RS := hide (RS.out.mv m7 (fun g e h => by have h : g = b3 := h; have := NB.out g (.inl e); omega))
  replace RQ := hide (RQ.out.mv m7 (fun g e h => by have h : g = b3 := h; have := NB.out g (.inr (.inl e)); omega))
  replace RT := hide (RT.out.mv m7 (fun g e h => by have h : g = b3 := h; have := NB.out g (.inr (.inr e)); omega))
  refine sv (.slice ta3 1 tc3) ?_
  refine nt (h12 _ _ (sk fun K13 h13 => rl ?_)); clear h12 K12
  replace HB := Xhb (Xhn HB m6) m7; replace bx0 := Xbb (Xbn bx0 m6) m7; replace bx1 := Xbb (Xbn bx1 m6) m7; replace bx2 := Xbb (Xbn bx2 m6) m7
  refine sg (.agg #[.int .i64 (Hm.grantL { L with ac := L.ac - 1 } L.bu L.wt).mem, .int .i64 (Hm.grantL { L with ac := L.ac - 1 } L.bu L.wt).own, .slice sa3 (Hm.grantL { L with ac := L.ac - 1 } L.bu L.wt).sh.length sc3, .int .i64 (Hm.grantL { L with ac := L.ac - 1 } L.bu L.wt).bu, .int .i64 (Hm.grantL { L with ac := L.ac - 1 } L.bu L.wt).wt, .int .i64 (Hm.grantL { L with ac := L.ac - 1 } L.bu L.wt).ac, .slice qa3 (Hm.grantL { L with ac := L.ac - 1 } L.bu L.wt).q.length qc3]) (h := by have z0 := cell_box 0 (bx3.out) rfl; have z1 := cell_box 1 (bx3.out) rfl; have z2 := cell_box 2 (bx3.out) rfl; have z3 := cell_box 3 (bx3.out) rfl; have z4 := cell_box 4 (bx3.out) rfl; have z5 := cell_box 5 (bx3.out) rfl; have z6 := cell_box 6 (bx3.out) rfl; go_simp) ?_
  refine sv (.pointer (some ⟨b1, 3, none⟩)) ?_
  refine sl 3 bx1 ?_
  refine sv (.slice ta3 1 tc3) ?_
  have szV := HB.out.size
  have hbV := Nat.le_trans hbw szV
  have NBt := fun g e => NB.out g (.inr (.inr e))
  have bz_b0 := lt_of_block bx0.out
  have bz_b1 := lt_of_block bx1.out
  have bz_b2 := lt_of_block bx2.out
  have bz_b3 := lt_of_block bx3.out
  refine sw_call (by rfl) (by first | rfl | (go_simp; done)) (l4Next_any l base (fun g => rb (.slice sa3 (Hm.grantL { L with ac := L.ac - 1 } L.bu L.wt).sh.length sc3) = some g ∨ rb (.slice qa3 (Hm.grantL { L with ac := L.ac - 1 } L.bu L.wt).q.length qc3) = some g ∨ rb (.slice ta3 1 tc3) = some g) (fun g => rb (.slice ta3 1 tc3) = some g) R (Hm.grantL { L with ac := L.ac - 1 } L.bu L.wt) [Hm.mGrant L.bu l L.wt L.mem] _ _ _ _ _ _ V7 RS.out RQ.out RT.out AP (fun g h => h) (fun g h => h) hbV (hg1.grant hb1 hb5) (by rw [grantL_q]; have := hg1.n; show 1 + 5 * L.q.length ≤ 2000; have : L.q.length ≤ 10 := this; omega) (by rw [grantL_q]; exact hR)) ?_
  rintro e V8 ⟨sa4, sc4, qa4, qc4, ta4, tc4, rfl, gs, gq, gt, gap, gfr, hmv⟩
  have m8 : Mv (fun g => rb (.slice ta3 1 tc3) = some g) V7 V8 := hmv
  refine ⟨_, rfl, ?_⟩
  refine pt ?_
  replace HB := hide (HB.out.step m8 (fun g hg e => by have := RTn g e; omega))
  replace bx0 := hide (m8.box bx0.out (fun h => by have := NBt _ h; omega))
  replace bx1 := hide (m8.box bx1.out (fun h => by have := NBt _ h; omega))
  replace bx2 := hide (m8.box bx2.out (fun h => by have := NBt _ h; omega))
  replace bx3 := hide (m8.box bx3.out (fun h => by have := NBt _ h; omega))
  replace NB : Hid (∀ g, (rb (.slice sa4 R.2.1.sh.length sc4) = some g ∨ rb (.slice qa4 R.2.1.q.length qc4) = some g ∨ rb (.slice ta4 R.2.2.length tc4) = some g) → g ≠ b0 ∧ g ≠ b1 ∧ g ≠ b2 ∧ g ≠ b3) := hide (fun g h => (gfr g h).elim (fun q => by have := NB.out g (q); omega) (fun q => by omega))
  replace FO : ∀ g, (rb (.slice sa4 R.2.1.sh.length sc4) = some g ∨ rb (.slice qa4 R.2.1.q.length qc4) = some g ∨ rb (.slice ta4 R.2.2.length tc4) = some g) → (rb (.slice sa L.sh.length sc) = some g ∨ rb (.slice qa L.q.length qc) = some g) ∨ w.heap.size ≤ g := fun g h => (gfr g h).elim (fun q => FO g (q)) (fun q => .inr (Nat.le_trans szV q))
  replace RS := hide gs; replace RQ := hide gq; replace RT := hide gt
  replace AP := gap
  clear gs gq gt gap gfr
  clear hmv szV hbV NBt bz_b0 bz_b1 bz_b2 bz_b3
  refine sv (.agg #[.int .i64 R.2.1.mem, .int .i64 R.2.1.own, .slice sa4 R.2.1.sh.length sc4, .int .i64 R.2.1.bu, .int .i64 R.2.1.wt, .int .i64 R.2.1.ac, .slice qa4 R.2.1.q.length qc4]) ?_
  refine sv (.slice ta4 R.2.2.length tc4) ?_
  refine sv (.bool R.1) ?_
  refine ss7 (.int .i64 R.2.1.mem) (.int .i64 R.2.1.own) (.slice sa4 R.2.1.sh.length sc4) (.int .i64 R.2.1.bu) (.int .i64 R.2.1.wt) (.int .i64 R.2.1.ac) (.slice qa4 R.2.1.q.length qc4) bx2 fun V9 m9 bx2 => ?_
  replace RS := hide (RS.out.mv m9 (fun g e h => by have h : g = b2 := h; have := NB.out g (.inl e); omega))
  replace RQ := hide (RQ.out.mv m9 (fun g e h => by have h : g = b2 := h; have := NB.out g (.inr (.inl e)); omega))
  replace RT := hide (RT.out.mv m9 (fun g e h => by have h : g = b2 := h; have := NB.out g (.inr (.inr e)); omega))
  refine sv (.slice ta4 R.2.2.length tc4) ?_
  refine sv (.bool R.1) ?_
  refine nt (h13 _ _ (wp_ret ?_)); clear h13 K13
  replace HB := Xhb HB m9; replace bx0 := Xbb bx0 m9; replace bx1 := Xbb bx1 m9; replace bx3 := Xbb bx3 m9
  have q2_0 := cell_box 0 bx2.out rfl
  have q2_1 := cell_box 1 bx2.out rfl
  have q2_2 := cell_box 2 bx2.out rfl
  have q2_3 := cell_box 3 bx2.out rfl
  have q2_4 := cell_box 4 bx2.out rfl
  have q2_5 := cell_box 5 bx2.out rfl
  have q2_6 := cell_box 6 bx2.out rfl
  exact bodyPost_ret (v := .tuple #[.agg #[.int .i64 R.2.1.mem, .int .i64 R.2.1.own, .slice sa4 R.2.1.sh.length sc4, .int .i64 R.2.1.bu, .int .i64 R.2.1.wt, .int .i64 R.2.1.ac, .slice qa4 R.2.1.q.length qc4], .slice ta4 R.2.2.length tc4, .bool R.1]) (by simp [results, Tryz.results27, go_sem, q2_0, q2_1, q2_2, q2_3, q2_4, q2_5, q2_6]) rfl ⟨_, _, _, _, _, _, rfl, RS.out, RQ.out, RT.out, AP, FO, HB.out⟩

set_option maxRecDepth 20000 in
set_option maxHeartbeats 2000000 in
theorem sgot_7_idle (c to l t d : Int) (base : Nat) (L : Hm.Ln) (sa : Option Addr) (sc : Nat) (qa : Option Addr) (qc : Nat) (w : World) (hs : Rg w base (.slice sa L.sh.length sc) 1 L.sh.length (gF (f1 L.sh))) (hq : Rg w base (.slice qa L.q.length qc) 2 L.q.length (gF (f2 L.q))) (hap : ∀ g, rb (.slice sa L.sh.length sc) = some g → rb (.slice qa L.q.length qc) ≠ some g) (hbw : base ≤ w.heap.size) (hbu : L.bu = 0) :
    Calls Tryz.prog 27 #[.agg #[.int .i64 L.mem, .int .i64 L.own, .slice sa L.sh.length sc, .int .i64 L.bu, .int .i64 L.wt, .int .i64 L.ac, .slice qa L.q.length qc], .agg #[.int .i64 7, .int .i64 c, .int .i64 to, .int .i64 l, .int .i64 t, .int .i64 d]] w (LnG w base (.slice sa L.sh.length sc) (.slice qa L.q.length qc) L [] false) := by
  have hbv : Hid ((L.bu == 0) = true) := hide (by simp [hbu])
  clear hbu
  have HB : Hid (Mv (fun g => rb (.slice qa L.q.length qc) = some g) w w) := hide (Mv.refl _ _)
  have RWl : ∀ g, (rb (.slice sa L.sh.length sc) = some g ∨ rb (.slice qa L.q.length qc) = some g ∨ rb (.slice none 0 0) = some g) → g < w.heap.size := fun g h => h.elim (fun e => (hs.lt g e).2) (fun h => h.elim (fun e => (hq.lt g e).2) (fun e => absurd e (by simp [rb])))
  have RS := hide hs; have RQ := hide hq; clear hs hq
  have RT : Hid (Rg w base (.slice none 0 0) 6 0 (gF (f6 []))) := hide (rg_nil _ _ _ _)
  have AP : Apt (.slice sa L.sh.length sc) (.slice qa L.q.length qc) (.slice none 0 0) := ⟨fun g e => ⟨hap g e, by simp [rb]⟩, fun g e => by simp [rb]⟩
  have FO : ∀ g, (rb (.slice sa L.sh.length sc) = some g ∨ rb (.slice qa L.q.length qc) = some g ∨ rb (.slice none 0 0) = some g) → (rb (.slice sa L.sh.length sc) = some g ∨ rb (.slice qa L.q.length qc) = some g) ∨ w.heap.size ≤ g := fun g h => h.elim (fun e => .inl (.inl e)) (fun h => h.elim (fun e => .inl (.inr e)) (fun e => absurd e (by simp [rb])))
  go_enter Tryz.func27, Tryz.ntmps27
  refine sk fun K1 h1 => rl ?_
  refine sbp #[.int .i64 L.mem, .int .i64 L.own, .slice sa L.sh.length sc, .int .i64 L.bu, .int .i64 L.wt, .int .i64 L.ac, .slice qa L.q.length qc] 31 fun V1 b0 hb0 m1 bx0 => ?_
  have o_0 : w.heap.size ≤ b0 := by omega
  replace RS := hide (RS.out.mv m1 (fun _ _ h => h))
  replace RQ := hide (RQ.out.mv m1 (fun _ _ h => h))
  replace RT := hide (RT.out.mv m1 (fun _ _ h => h))
  clear hb0
  refine sbp #[.int .i64 7, .int .i64 c, .int .i64 to, .int .i64 l, .int .i64 t, .int .i64 d] 36 fun V2 b1 hb1 m2 bx1 => ?_
  have o0_1 := Xlo bx0 hb1
  replace RS := hide (RS.out.mv m2 (fun _ _ h => h))
  replace RQ := hide (RQ.out.mv m2 (fun _ _ h => h))
  replace RT := hide (RT.out.mv m2 (fun _ _ h => h))
  clear hb1
  refine sbp #[.int .i64 0, .int .i64 0, .slice none 0 0, .int .i64 0, .int .i64 0, .int .i64 0, .slice none 0 0] 31 fun V3 b2 hb2 m3 bx2 => ?_
  have o1_2 := Xlo bx1 hb2
  replace RS := hide (RS.out.mv m3 (fun _ _ h => h))
  replace RQ := hide (RQ.out.mv m3 (fun _ _ h => h))
  replace RT := hide (RT.out.mv m3 (fun _ _ h => h))
  clear hb2
  refine sv (.slice none 0 0) ?_
  refine sv (.bool false) ?_
  refine nt (h1 _ _ (sk fun K2 h2 => sk fun K3 h3 => rl ?_)); clear h1 K1
  replace HB := Xhn (Xhn (Xhn HB m1) m2) m3; replace bx0 := Xbn (Xbn bx0 m2) m3; replace bx1 := Xbn bx1 m3
  have NB : Hid (∀ g, (rb (.slice sa L.sh.length sc) = some g ∨ rb (.slice qa L.q.length qc) = some g ∨ rb (.slice none 0 0) = some g) → g ≠ b0 ∧ g ≠ b1 ∧ g ≠ b2) := hide (fun g h => by have := RWl g h; omega)
  clear RWl
  refine sv (.pointer (some ⟨b1, 0, none⟩)) ?_
  refine sl 0 bx1 ?_
  refine nt (h3 _ _ (wp_block (sk fun K4 h4 => sk fun K5 h5 => rl ?_))); clear h3 K3
  refine sg (.bool false) ?_
  refine sv (.bool false) ?_
  refine nt (h5 _ _ (cf (rl ?_))); clear h5 K5
  refine sg (.bool false) ?_
  refine sv (.bool false) ?_
  refine nt (h4 _ _ (cf (sk fun K6 h6 => rl ?_))); clear h4 K4
  refine sg (.bool false) ?_
  refine sv (.bool false) ?_
  refine nt (h6 _ _ (cf (sk fun K7 h7 => rl ?_))); clear h6 K6
  refine sg (.bool false) ?_
  refine sv (.bool false) ?_
  refine nt (h7 _ _ (cf (sk fun K8 h8 => rl ?_))); clear h7 K7
  refine sg (.bool true) ?_
  refine sv (.bool true) ?_
  refine nt (h8 _ _ (ct (sk fun K9 h9 => sk fun K10 h10 => rl ?_))); clear h8 K8
  refine sv (.pointer (some ⟨b0, 3, none⟩)) ?_
  refine sl 3 bx0 ?_
  refine sg (.bool true) (h := by have hd := hbv.out; go_simp) ?_
  refine sv (.bool true) ?_
  with_reducible refine sp ?_
  with_reducible refine sp ?_
  with_reducible refine sp ?_
  with_reducible refine sp ?_
  with_reducible refine sp ?_
  refine sg (.bool true) ?_
  refine nt (h10 _ _ (ct (sk fun K11 h11 => rl ?_))); clear h10 K10
  refine sg (.agg #[.int .i64 L.mem, .int .i64 L.own, .slice sa L.sh.length sc, .int .i64 L.bu, .int .i64 L.wt, .int .i64 L.ac, .slice qa L.q.length qc]) (h := by have z0 := cell_box 0 (bx0.out) rfl; have z1 := cell_box 1 (bx0.out) rfl; have z2 := cell_box 2 (bx0.out) rfl; have z3 := cell_box 3 (bx0.out) rfl; have z4 := cell_box 4 (bx0.out) rfl; have z5 := cell_box 5 (bx0.out) rfl; have z6 := cell_box 6 (bx0.out) rfl; go_simp) ?_
  refine ss7 (.int .i64 L.mem) (.int .i64 L.own) (.slice sa L.sh.length sc) (.int .i64 L.bu) (.int .i64 L.wt) (.int .i64 L.ac) (.slice qa L.q.length qc) bx2 fun V4 m4 bx2 => ?_
  replace RS := hide (RS.out.mv m4 (fun g e h => by have h : g = b2 := h; have := NB.out g (.inl e); omega))
  replace RQ := hide (RQ.out.mv m4 (fun g e h => by have h : g = b2 := h; have := NB.out g (.inr (.inl e)); omega))
  replace RT := hide (RT.out.mv m4 (fun g e h => by have h : g = b2 := h; have := NB.out g (.inr (.inr e)); omega))
  refine sv (.slice none 0 0) ?_
  refine sv (.bool false) ?_
  refine nt (h11 _ _ (wp_ret (then_ret (inb_ret (then_ret ?_))))); clear h11 K11; clear h9 K9; clear h2 K2
  replace HB := Xhb HB m4; replace bx0 := Xbb bx0 m4; replace bx1 := Xbb bx1 m4
  have q2_0 := cell_box 0 bx2.out rfl
  have q2_1 := cell_box 1 bx2.out rfl
  have q2_2 := cell_box 2 bx2.out rfl
  have q2_3 := cell_box 3 bx2.out rfl
  have q2_4 := cell_box 4 bx2.out rfl
  have q2_5 := cell_box 5 bx2.out rfl
  have q2_6 := cell_box 6 bx2.out rfl
  exact bodyPost_ret (v := .tuple #[.agg #[.int .i64 L.mem, .int .i64 L.own, .slice sa L.sh.length sc, .int .i64 L.bu, .int .i64 L.wt, .int .i64 L.ac, .slice qa L.q.length qc], .slice none 0 0, .bool false]) (by simp [results, Tryz.results27, go_sem, q2_0, q2_1, q2_2, q2_3, q2_4, q2_5, q2_6]) rfl ⟨_, _, _, _, _, _, rfl, RS.out, RQ.out, RT.out, AP, FO, HB.out⟩

set_option maxRecDepth 20000 in
set_option maxHeartbeats 2000000 in
theorem sgot_7_other (c to l t d : Int) (base : Nat) (L : Hm.Ln) (sa : Option Addr) (sc : Nat) (qa : Option Addr) (qc : Nat) (w : World) (hs : Rg w base (.slice sa L.sh.length sc) 1 L.sh.length (gF (f1 L.sh))) (hq : Rg w base (.slice qa L.q.length qc) 2 L.q.length (gF (f2 L.q))) (hap : ∀ g, rb (.slice sa L.sh.length sc) = some g → rb (.slice qa L.q.length qc) ≠ some g) (hbw : base ≤ w.heap.size) (hbu : ¬ L.bu = 0) (ho : ¬ L.own = c) :
    Calls Tryz.prog 27 #[.agg #[.int .i64 L.mem, .int .i64 L.own, .slice sa L.sh.length sc, .int .i64 L.bu, .int .i64 L.wt, .int .i64 L.ac, .slice qa L.q.length qc], .agg #[.int .i64 7, .int .i64 c, .int .i64 to, .int .i64 l, .int .i64 t, .int .i64 d]] w (LnG w base (.slice sa L.sh.length sc) (.slice qa L.q.length qc) L [] false) := by
  have hbv : Hid ((L.bu == 0) = false) := hide (by simp; omega)
  have hov : Hid ((L.own != c) = true) := hide (by simp [ho])
  clear ho
  clear hbu
  have HB : Hid (Mv (fun g => rb (.slice qa L.q.length qc) = some g) w w) := hide (Mv.refl _ _)
  have RWl : ∀ g, (rb (.slice sa L.sh.length sc) = some g ∨ rb (.slice qa L.q.length qc) = some g ∨ rb (.slice none 0 0) = some g) → g < w.heap.size := fun g h => h.elim (fun e => (hs.lt g e).2) (fun h => h.elim (fun e => (hq.lt g e).2) (fun e => absurd e (by simp [rb])))
  have RS := hide hs; have RQ := hide hq; clear hs hq
  have RT : Hid (Rg w base (.slice none 0 0) 6 0 (gF (f6 []))) := hide (rg_nil _ _ _ _)
  have AP : Apt (.slice sa L.sh.length sc) (.slice qa L.q.length qc) (.slice none 0 0) := ⟨fun g e => ⟨hap g e, by simp [rb]⟩, fun g e => by simp [rb]⟩
  have FO : ∀ g, (rb (.slice sa L.sh.length sc) = some g ∨ rb (.slice qa L.q.length qc) = some g ∨ rb (.slice none 0 0) = some g) → (rb (.slice sa L.sh.length sc) = some g ∨ rb (.slice qa L.q.length qc) = some g) ∨ w.heap.size ≤ g := fun g h => h.elim (fun e => .inl (.inl e)) (fun h => h.elim (fun e => .inl (.inr e)) (fun e => absurd e (by simp [rb])))
  go_enter Tryz.func27, Tryz.ntmps27
  refine sk fun K1 h1 => rl ?_
  refine sbp #[.int .i64 L.mem, .int .i64 L.own, .slice sa L.sh.length sc, .int .i64 L.bu, .int .i64 L.wt, .int .i64 L.ac, .slice qa L.q.length qc] 31 fun V1 b0 hb0 m1 bx0 => ?_
  have o_0 : w.heap.size ≤ b0 := by omega
  replace RS := hide (RS.out.mv m1 (fun _ _ h => h))
  replace RQ := hide (RQ.out.mv m1 (fun _ _ h => h))
  replace RT := hide (RT.out.mv m1 (fun _ _ h => h))
  clear hb0
  refine sbp #[.int .i64 7, .int .i64 c, .int .i64 to, .int .i64 l, .int .i64 t, .int .i64 d] 36 fun V2 b1 hb1 m2 bx1 => ?_
  have o0_1 := Xlo bx0 hb1
  replace RS := hide (RS.out.mv m2 (fun _ _ h => h))
  replace RQ := hide (RQ.out.mv m2 (fun _ _ h => h))
  replace RT := hide (RT.out.mv m2 (fun _ _ h => h))
  clear hb1
  refine sbp #[.int .i64 0, .int .i64 0, .slice none 0 0, .int .i64 0, .int .i64 0, .int .i64 0, .slice none 0 0] 31 fun V3 b2 hb2 m3 bx2 => ?_
  have o1_2 := Xlo bx1 hb2
  replace RS := hide (RS.out.mv m3 (fun _ _ h => h))
  replace RQ := hide (RQ.out.mv m3 (fun _ _ h => h))
  replace RT := hide (RT.out.mv m3 (fun _ _ h => h))
  clear hb2
  refine sv (.slice none 0 0) ?_
  refine sv (.bool false) ?_
  refine nt (h1 _ _ (sk fun K2 h2 => sk fun K3 h3 => rl ?_)); clear h1 K1
  replace HB := Xhn (Xhn (Xhn HB m1) m2) m3; replace bx0 := Xbn (Xbn bx0 m2) m3; replace bx1 := Xbn bx1 m3
  have NB : Hid (∀ g, (rb (.slice sa L.sh.length sc) = some g ∨ rb (.slice qa L.q.length qc) = some g ∨ rb (.slice none 0 0) = some g) → g ≠ b0 ∧ g ≠ b1 ∧ g ≠ b2) := hide (fun g h => by have := RWl g h; omega)
  clear RWl
  refine sv (.pointer (some ⟨b1, 0, none⟩)) ?_
  refine sl 0 bx1 ?_
  refine nt (h3 _ _ (wp_block (sk fun K4 h4 => sk fun K5 h5 => rl ?_))); clear h3 K3
  refine sg (.bool false) ?_
  refine sv (.bool false) ?_
  refine nt (h5 _ _ (cf (rl ?_))); clear h5 K5
  refine sg (.bool false) ?_
  refine sv (.bool false) ?_
  refine nt (h4 _ _ (cf (sk fun K6 h6 => rl ?_))); clear h4 K4
  refine sg (.bool false) ?_
  refine sv (.bool false) ?_
  refine nt (h6 _ _ (cf (sk fun K7 h7 => rl ?_))); clear h6 K6
  refine sg (.bool false) ?_
  refine sv (.bool false) ?_
  refine nt (h7 _ _ (cf (sk fun K8 h8 => rl ?_))); clear h7 K7
  refine sg (.bool true) ?_
  refine sv (.bool true) ?_
  refine nt (h8 _ _ (ct (sk fun K9 h9 => sk fun K10 h10 => rl ?_))); clear h8 K8
  refine sv (.pointer (some ⟨b0, 3, none⟩)) ?_
  refine sl 3 bx0 ?_
  refine sg (.bool false) (h := by have hd := hbv.out; go_simp) ?_
  refine sv (.bool false) ?_
  refine sv (.pointer (some ⟨b0, 1, none⟩)) ?_
  refine sl 1 bx0 ?_
  refine sv (.pointer (some ⟨b1, 1, none⟩)) ?_
  refine sl 1 bx1 ?_
  refine sg (.bool true) (h := by have hd := hov.out; go_simp) ?_
  refine sg (.bool true) ?_
  refine nt (h10 _ _ (ct (sk fun K11 h11 => rl ?_))); clear h10 K10
  refine sg (.agg #[.int .i64 L.mem, .int .i64 L.own, .slice sa L.sh.length sc, .int .i64 L.bu, .int .i64 L.wt, .int .i64 L.ac, .slice qa L.q.length qc]) (h := by have z0 := cell_box 0 (bx0.out) rfl; have z1 := cell_box 1 (bx0.out) rfl; have z2 := cell_box 2 (bx0.out) rfl; have z3 := cell_box 3 (bx0.out) rfl; have z4 := cell_box 4 (bx0.out) rfl; have z5 := cell_box 5 (bx0.out) rfl; have z6 := cell_box 6 (bx0.out) rfl; go_simp) ?_
  refine ss7 (.int .i64 L.mem) (.int .i64 L.own) (.slice sa L.sh.length sc) (.int .i64 L.bu) (.int .i64 L.wt) (.int .i64 L.ac) (.slice qa L.q.length qc) bx2 fun V4 m4 bx2 => ?_
  replace RS := hide (RS.out.mv m4 (fun g e h => by have h : g = b2 := h; have := NB.out g (.inl e); omega))
  replace RQ := hide (RQ.out.mv m4 (fun g e h => by have h : g = b2 := h; have := NB.out g (.inr (.inl e)); omega))
  replace RT := hide (RT.out.mv m4 (fun g e h => by have h : g = b2 := h; have := NB.out g (.inr (.inr e)); omega))
  refine sv (.slice none 0 0) ?_
  refine sv (.bool false) ?_
  refine nt (h11 _ _ (wp_ret (then_ret (inb_ret (then_ret ?_))))); clear h11 K11; clear h9 K9; clear h2 K2
  replace HB := Xhb HB m4; replace bx0 := Xbb bx0 m4; replace bx1 := Xbb bx1 m4
  have q2_0 := cell_box 0 bx2.out rfl
  have q2_1 := cell_box 1 bx2.out rfl
  have q2_2 := cell_box 2 bx2.out rfl
  have q2_3 := cell_box 3 bx2.out rfl
  have q2_4 := cell_box 4 bx2.out rfl
  have q2_5 := cell_box 5 bx2.out rfl
  have q2_6 := cell_box 6 bx2.out rfl
  exact bodyPost_ret (v := .tuple #[.agg #[.int .i64 L.mem, .int .i64 L.own, .slice sa L.sh.length sc, .int .i64 L.bu, .int .i64 L.wt, .int .i64 L.ac, .slice qa L.q.length qc], .slice none 0 0, .bool false]) (by simp [results, Tryz.results27, go_sem, q2_0, q2_1, q2_2, q2_3, q2_4, q2_5, q2_6]) rfl ⟨_, _, _, _, _, _, rfl, RS.out, RQ.out, RT.out, AP, FO, HB.out⟩

set_option maxRecDepth 20000 in
set_option maxHeartbeats 2000000 in
theorem sgot_7_r (c to l t d : Int) (base : Nat) (L : Hm.Ln) (sa : Option Addr) (sc : Nat) (qa : Option Addr) (qc : Nat) (w : World) (hs : Rg w base (.slice sa L.sh.length sc) 1 L.sh.length (gF (f1 L.sh))) (hq : Rg w base (.slice qa L.q.length qc) 2 L.q.length (gF (f2 L.q))) (hap : ∀ g, rb (.slice sa L.sh.length sc) = some g → rb (.slice qa L.q.length qc) ≠ some g) (hbw : base ≤ w.heap.size) (hgd : Gd L) (hb1 : 1 ≤ L.bu) (hb5 : L.bu ≤ 5) (ho : L.own = c) (hw : L.wt = 1) (hc1 : 1 ≤ c) (hc5 : c ≤ 5) (R : Bool × Hm.Ln × List Hm.Mg) (hR : Hm.nextR l L.q (Hm.grantL { L with mem := d, own := 0, sh := [c] } L.bu L.wt) [Hm.mGrant L.bu l L.wt d] = R) :
    Calls Tryz.prog 27 #[.agg #[.int .i64 L.mem, .int .i64 L.own, .slice sa L.sh.length sc, .int .i64 L.bu, .int .i64 L.wt, .int .i64 L.ac, .slice qa L.q.length qc], .agg #[.int .i64 7, .int .i64 c, .int .i64 to, .int .i64 l, .int .i64 t, .int .i64 d]] w (LnG w base (.slice sa L.sh.length sc) (.slice qa L.q.length qc) R.2.1 R.2.2 R.1) := by
  have hbv : Hid ((L.bu == 0) = false) := hide (by simp; omega)
  have hov : Hid ((L.own != c) = false) := hide (by simp [ho])
  clear ho
  have hwv : Hid ((L.wt == 1) = true) := hide (by simpa using hw)
  clear hw
  have HB : Hid (Mv (fun g => rb (.slice qa L.q.length qc) = some g) w w) := hide (Mv.refl _ _)
  have RWl : ∀ g, (rb (.slice sa L.sh.length sc) = some g ∨ rb (.slice qa L.q.length qc) = some g ∨ rb (.slice none 0 0) = some g) → g < w.heap.size := fun g h => h.elim (fun e => (hs.lt g e).2) (fun h => h.elim (fun e => (hq.lt g e).2) (fun e => absurd e (by simp [rb])))
  have RS := hide hs; have RQ := hide hq; clear hs hq
  have RT : Hid (Rg w base (.slice none 0 0) 6 0 (gF (f6 []))) := hide (rg_nil _ _ _ _)
  have AP : Apt (.slice sa L.sh.length sc) (.slice qa L.q.length qc) (.slice none 0 0) := ⟨fun g e => ⟨hap g e, by simp [rb]⟩, fun g e => by simp [rb]⟩
  have FO : ∀ g, (rb (.slice sa L.sh.length sc) = some g ∨ rb (.slice qa L.q.length qc) = some g ∨ rb (.slice none 0 0) = some g) → (rb (.slice sa L.sh.length sc) = some g ∨ rb (.slice qa L.q.length qc) = some g) ∨ w.heap.size ≤ g := fun g h => h.elim (fun e => .inl (.inl e)) (fun h => h.elim (fun e => .inl (.inr e)) (fun e => absurd e (by simp [rb])))
  go_enter Tryz.func27, Tryz.ntmps27
  refine sk fun K1 h1 => rl ?_
  refine sbp #[.int .i64 L.mem, .int .i64 L.own, .slice sa L.sh.length sc, .int .i64 L.bu, .int .i64 L.wt, .int .i64 L.ac, .slice qa L.q.length qc] 31 fun V1 b0 hb0 m1 bx0 => ?_
  have o_0 : w.heap.size ≤ b0 := by omega
  replace RS := hide (RS.out.mv m1 (fun _ _ h => h))
  replace RQ := hide (RQ.out.mv m1 (fun _ _ h => h))
  replace RT := hide (RT.out.mv m1 (fun _ _ h => h))
  clear hb0
  refine sbp #[.int .i64 7, .int .i64 c, .int .i64 to, .int .i64 l, .int .i64 t, .int .i64 d] 36 fun V2 b1 hb1 m2 bx1 => ?_
  have o0_1 := Xlo bx0 hb1
  replace RS := hide (RS.out.mv m2 (fun _ _ h => h))
  replace RQ := hide (RQ.out.mv m2 (fun _ _ h => h))
  replace RT := hide (RT.out.mv m2 (fun _ _ h => h))
  clear hb1
  refine sbp #[.int .i64 0, .int .i64 0, .slice none 0 0, .int .i64 0, .int .i64 0, .int .i64 0, .slice none 0 0] 31 fun V3 b2 hb2 m3 bx2 => ?_
  have o1_2 := Xlo bx1 hb2
  replace RS := hide (RS.out.mv m3 (fun _ _ h => h))
  replace RQ := hide (RQ.out.mv m3 (fun _ _ h => h))
  replace RT := hide (RT.out.mv m3 (fun _ _ h => h))
  clear hb2
  refine sv (.slice none 0 0) ?_
  refine sv (.bool false) ?_
  refine nt (h1 _ _ (sk fun K2 h2 => sk fun K3 h3 => rl ?_)); clear h1 K1
  replace HB := Xhn (Xhn (Xhn HB m1) m2) m3; replace bx0 := Xbn (Xbn bx0 m2) m3; replace bx1 := Xbn bx1 m3
  have NB : Hid (∀ g, (rb (.slice sa L.sh.length sc) = some g ∨ rb (.slice qa L.q.length qc) = some g ∨ rb (.slice none 0 0) = some g) → g ≠ b0 ∧ g ≠ b1 ∧ g ≠ b2) := hide (fun g h => by have := RWl g h; omega)
  clear RWl
  refine sv (.pointer (some ⟨b1, 0, none⟩)) ?_
  refine sl 0 bx1 ?_
  refine nt (h3 _ _ (wp_block (sk fun K4 h4 => sk fun K5 h5 => rl ?_))); clear h3 K3
  refine sg (.bool false) ?_
  refine sv (.bool false) ?_
  refine nt (h5 _ _ (cf (rl ?_))); clear h5 K5
  refine sg (.bool false) ?_
  refine sv (.bool false) ?_
  refine nt (h4 _ _ (cf (sk fun K6 h6 => rl ?_))); clear h4 K4
  refine sg (.bool false) ?_
  refine sv (.bool false) ?_
  refine nt (h6 _ _ (cf (sk fun K7 h7 => rl ?_))); clear h6 K6
  refine sg (.bool false) ?_
  refine sv (.bool false) ?_
  refine nt (h7 _ _ (cf (sk fun K8 h8 => rl ?_))); clear h7 K7
  refine sg (.bool true) ?_
  refine sv (.bool true) ?_
  refine nt (h8 _ _ (ct (sk fun K9 h9 => sk fun K10 h10 => rl ?_))); clear h8 K8
  refine sv (.pointer (some ⟨b0, 3, none⟩)) ?_
  refine sl 3 bx0 ?_
  refine sg (.bool false) (h := by have hd := hbv.out; go_simp) ?_
  refine sv (.bool false) ?_
  refine sv (.pointer (some ⟨b0, 1, none⟩)) ?_
  refine sl 1 bx0 ?_
  refine sv (.pointer (some ⟨b1, 1, none⟩)) ?_
  refine sl 1 bx1 ?_
  refine sg (.bool false) (h := by have hd := hov.out; go_simp) ?_
  refine sg (.bool false) ?_
  refine nt (h10 _ _ (cf (wp_skip (then_normal (h9 _ _ (sk fun K11 h11 => rl ?_)))))); clear h10 K10; clear h9 K9
  refine sv (.pointer (some ⟨b1, 5, none⟩)) ?_
  refine sl 5 bx1 ?_
  refine sv (.pointer (some ⟨b0, 0, none⟩)) ?_
  refine ss 0 (.int .i64 d) bx0 fun V4 m4 bx0 => ?_
  replace RS := hide (RS.out.mv m4 (fun g e h => by have h : g = b0 := h; have := NB.out g (.inl e); omega))
  replace RQ := hide (RQ.out.mv m4 (fun g e h => by have h : g = b0 := h; have := NB.out g (.inr (.inl e)); omega))
  replace RT := hide (RT.out.mv m4 (fun g e h => by have h : g = b0 := h; have := NB.out g (.inr (.inr e)); omega))
  refine nt (h11 _ _ (sk fun K12 h12 => rl ?_)); clear h11 K11
  refine sv (.pointer (some ⟨b0, 1, none⟩)) ?_
  refine ss 1 (.int .i64 0) bx0 fun V5 m5 bx0 => ?_
  replace RS := hide (RS.out.mv m5 (fun g e h => by have h : g = b0 := h; have := NB.out g (.inl e); omega))
  replace RQ := hide (RQ.out.mv m5 (fun g e h => by have h : g = b0 := h; have := NB.out g (.inr (.inl e)); omega))
  replace RT := hide (RT.out.mv m5 (fun g e h => by have h : g = b0 := h; have := NB.out g (.inr (.inr e)); omega))
  refine nt (h12 _ _ (sk fun K13 h13 => rl ?_)); clear h12 K12
  refine sv (.pointer (some ⟨b0, 2, none⟩)) ?_
  refine ss 2 (.slice none 0 0) bx0 fun V6 m6 bx0 => ?_
  replace RS := hide (RS.out.mv m6 (fun g e h => by have h : g = b0 := h; have := NB.out g (.inl e); omega))
  replace RQ := hide (RQ.out.mv m6 (fun g e h => by have h : g = b0 := h; have := NB.out g (.inr (.inl e)); omega))
  replace RT := hide (RT.out.mv m6 (fun g e h => by have h : g = b0 := h; have := NB.out g (.inr (.inr e)); omega))
  refine nt (h13 _ _ (sk fun K14 h14 => rl ?_)); clear h13 K13
  replace HB := Xhb (Xhb (Xhb HB m4) m5) m6; replace bx1 := Xbb (Xbb (Xbb bx1 m4) m5) m6; replace bx2 := Xbb (Xbb (Xbb bx2 m4) m5) m6
  replace RS : Hid (Rg V6 base (.slice none 0 0) 1 0 (gF (f1 []))) := hide (rg_nil _ _ _ _)
  replace AP : Apt (.slice none 0 0) (.slice qa L.q.length qc) (.slice none 0 0) := ⟨fun g e => absurd e (by simp [rb]), AP.2⟩
  replace NB : Hid (∀ g, (rb (.slice none 0 0) = some g ∨ rb (.slice qa L.q.length qc) = some g ∨ rb (.slice none 0 0) = some g) → g ≠ b0 ∧ g ≠ b1 ∧ g ≠ b2) := hide (fun g h => h.elim (fun e => absurd e (by simp [rb])) (fun h => NB.out g (.inr h)))
  replace FO : ∀ g, (rb (.slice none 0 0) = some g ∨ rb (.slice qa L.q.length qc) = some g ∨ rb (.slice none 0 0) = some g) → (rb (.slice sa L.sh.length sc) = some g ∨ rb (.slice qa L.q.length qc) = some g) ∨ w.heap.size ≤ g := fun g h => h.elim (fun e => absurd e (by simp [rb])) (fun h => FO g (.inr h))
  refine sv (.pointer (some ⟨b0, 4, none⟩)) ?_
  refine sl 4 bx0 ?_
  refine sg (.bool true) (h := by have hd := hwv.out; go_simp) ?_
  refine nt (h14 _ _ (ct (rl ?_))); clear h14 K14
  refine sv (.pointer (some ⟨b1, 1, none⟩)) ?_
  refine sl 1 bx1 ?_
  refine sbs 1 #[.int .i64 c] 2 fun V7 b3 hb3 m7 bx3 => ?_
  have o2_3 := Xlo bx2 hb3
  replace NB : Hid (∀ g, (rb (.slice none 0 0) = some g ∨ rb (.slice qa L.q.length qc) = some g ∨ rb (.slice none 0 0) = some g) → g ≠ b0 ∧ g ≠ b1 ∧ g ≠ b2 ∧ g ≠ b3) := hide (fun g h => by have h1 := NB.out g h; have h2 := rows_lt RS.out RQ.out RT.out g h; exact (by omega))
  replace RS := hide (RS.out.mv m7 (fun _ _ h => h))
  replace RQ := hide (RQ.out.mv m7 (fun _ _ h => h))
  replace RT := hide (RT.out.mv m7 (fun _ _ h => h))
  clear hb3
  refine sv (.pointer (some ⟨b0, 2, none⟩)) ?_
  replace bx0 := Xbn bx0 m7
  refine ss 2 (.slice (some ⟨b3, 0, none⟩) 1 1) bx0 fun V8 m8 bx0 => ?_
  replace RS := hide (RS.out.mv m8 (fun g e h => by have h : g = b0 := h; have := NB.out g (.inl e); omega))
  replace RQ := hide (RQ.out.mv m8 (fun g e h => by have h : g = b0 := h; have := NB.out g (.inr (.inl e)); omega))
  replace RT := hide (RT.out.mv m8 (fun g e h => by have h : g = b0 := h; have := NB.out g (.inr (.inr e)); omega))
  refine wpList_nil (inb_norm (then_normal (h2 _ _ (sk fun K15 h15 => rl ?_)))); clear h2 K2
  replace HB := Xhb (Xhn HB m7) m8; replace bx1 := Xbb (Xbn bx1 m7) m8; replace bx2 := Xbb (Xbn bx2 m7) m8; replace bx3 := Xbb bx3 m8
  have hbe : ∀ g, rb (.slice (some ⟨b3, 0, none⟩) 1 1) = some g → g = b3 := fun g e => (rb_blk e).symm
  have hbo : w.heap.size ≤ b3 := by omega
  replace RS := hide (rg_one bx3.out (by omega : base ≤ b3))
  replace AP : Apt (.slice (some ⟨b3, 0, none⟩) 1 1) (.slice qa L.q.length qc) (.slice none 0 0) := ⟨fun g e => ⟨fun e2 => by have h1 := hbe g e; have h2 := NB.out g (.inr (.inl e2)); omega, by simp [rb]⟩, AP.2⟩
  replace FO : ∀ g, (rb (.slice (some ⟨b3, 0, none⟩) 1 1) = some g ∨ rb (.slice qa L.q.length qc) = some g ∨ rb (.slice none 0 0) = some g) → (rb (.slice sa L.sh.length sc) = some g ∨ rb (.slice qa L.q.length qc) = some g) ∨ w.heap.size ≤ g := fun g h => h.elim (fun e => .inr (by have := hbe g e; omega)) (fun h => FO g (.inr h))
  replace NB : Hid (∀ g, (rb (.slice (some ⟨b3, 0, none⟩) 1 1) = some g ∨ rb (.slice qa L.q.length qc) = some g ∨ rb (.slice none 0 0) = some g) → g ≠ b0 ∧ g ≠ b1 ∧ g ≠ b2) := hide (fun g h => h.elim (fun e => by have := hbe g e; omega) (fun h => by have := NB.out g (.inr h); omega))
  clear hbe bx3
  have hg1 : Gd { L with mem := d, own := 0, sh := [c] } := ⟨ok_one hc1 hc5, hgd.n, hgd.q⟩
  refine sg (.agg #[.int .i64 d, .int .i64 0, .slice (some ⟨b3, 0, none⟩) 1 1, .int .i64 L.bu, .int .i64 L.wt, .int .i64 L.ac, .slice qa L.q.length qc]) (h := by have z0 := cell_box 0 (bx0.out) rfl; have z1 := cell_box 1 (bx0.out) rfl; have z2 := cell_box 2 (bx0.out) rfl; have z3 := cell_box 3 (bx0.out) rfl; have z4 := cell_box 4 (bx0.out) rfl; have z5 := cell_box 5 (bx0.out) rfl; have z6 := cell_box 6 (bx0.out) rfl; go_simp) ?_
  refine sv (.pointer (some ⟨b1, 3, none⟩)) ?_
  refine sl 3 bx1 ?_
  refine sv (.pointer (some ⟨b0, 3, none⟩)) ?_
  refine sl 3 bx0 ?_
  refine sv (.pointer (some ⟨b0, 4, none⟩)) ?_
  refine sl 4 bx0 ?_
  refine sv (.agg #[.int .i64 L.bu, .int .i64 L.wt]) ?_
  have szV := HB.out.size
  have hbV := Nat.le_trans hbw szV
  obtain ⟨N8, hN8⟩ : ∃ N, V8.heap.size = N := ⟨_, rfl⟩
  have bz_b0 := lt_of_block bx0.out
  have bz_b1 := lt_of_block bx1.out
  have bz_b2 := lt_of_block bx2.out
  refine sw_call (by rfl) (by first | rfl | (go_simp; done)) (l4Grant_any l L.bu L.wt base { L with mem := d, own := 0, sh := [c] } _ _ _ _ V8 RS.out RQ.out (fun g e => (AP.1 g e).1) hbV hg1.sh hb1 hb5) ?_
  rintro e V9 ⟨sa3, sc3, qa3, qc3, ta3, tc3, rfl, gs, gq, gt, gap, gfr, gtn, hbl⟩
  have m9 : Mv (nob) V8 V9 := Mv.of_below hbl
  refine ⟨_, rfl, ?_⟩
  refine pt ?_
  have RTn : ∀ g, rb (.slice ta3 1 tc3) = some g → w.heap.size ≤ g := fun g e => Nat.le_trans szV (gtn g e)
  replace NB : Hid (∀ g, (rb (.slice sa3 (Hm.grantL { L with mem := d, own := 0, sh := [c] } L.bu L.wt).sh.length sc3) = some g ∨ rb (.slice qa3 (Hm.grantL { L with mem := d, own := 0, sh := [c] } L.bu L.wt).q.length qc3) = some g ∨ rb (.slice ta3 1 tc3) = some g) → g ≠ b0 ∧ g ≠ b1 ∧ g ≠ b2) := hide (fun g h => (gfr g h).elim (fun q => by have := NB.out g (q.elim .inl (fun e => .inr (.inl e))); omega) (fun q => by omega))
  replace FO : ∀ g, (rb (.slice sa3 (Hm.grantL { L with mem := d, own := 0, sh := [c] } L.bu L.wt).sh.length sc3) = some g ∨ rb (.slice qa3 (Hm.grantL { L with mem := d, own := 0, sh := [c] } L.bu L.wt).q.length qc3) = some g ∨ rb (.slice ta3 1 tc3) = some g) → (rb (.slice sa L.sh.length sc) = some g ∨ rb (.slice qa L.q.length qc) = some g) ∨ w.heap.size ≤ g := fun g h => (gfr g h).elim (fun q => FO g (q.elim .inl (fun e => .inr (.inl e)))) (fun q => .inr (Nat.le_trans szV q))
  replace RS := hide gs; replace RQ := hide gq; replace RT := hide gt
  replace AP := gap
  clear gs gq gt gap gfr
  clear hbl gtn szV hbV hN8 bz_b0 bz_b1 bz_b2
  refine sv (.tuple #[.agg #[.int .i64 (Hm.grantL { L with mem := d, own := 0, sh := [c] } L.bu L.wt).mem, .int .i64 (Hm.grantL { L with mem := d, own := 0, sh := [c] } L.bu L.wt).own, .slice sa3 (Hm.grantL { L with mem := d, own := 0, sh := [c] } L.bu L.wt).sh.length sc3, .int .i64 (Hm.grantL { L with mem := d, own := 0, sh := [c] } L.bu L.wt).bu, .int .i64 (Hm.grantL { L with mem := d, own := 0, sh := [c] } L.bu L.wt).wt, .int .i64 (Hm.grantL { L with mem := d, own := 0, sh := [c] } L.bu L.wt).ac, .slice qa3 (Hm.grantL { L with mem := d, own := 0, sh := [c] } L.bu L.wt).q.length qc3], .slice ta3 1 tc3]) ?_
  refine sv (.agg #[.int .i64 (Hm.grantL { L with mem := d, own := 0, sh := [c] } L.bu L.wt).mem, .int .i64 (Hm.grantL { L with mem := d, own := 0, sh := [c] } L.bu L.wt).own, .slice sa3 (Hm.grantL { L with mem := d, own := 0, sh := [c] } L.bu L.wt).sh.length sc3, .int .i64 (Hm.grantL { L with mem := d, own := 0, sh := [c] } L.bu L.wt).bu, .int .i64 (Hm.grantL { L with mem := d, own := 0, sh := [c] } L.bu L.wt).wt, .int .i64 (Hm.grantL { L with mem := d, own := 0, sh := [c] } L.bu L.wt).ac, .slice qa3 (Hm.grantL { L with mem := d, own := 0, sh := [c] } L.bu L.wt).q.length qc3]) ?_
  refine sv (.slice ta3 1 tc3) ?_
  replace HB := Xhn HB m9; replace bx0 := Xbn bx0 m9; replace bx1 := Xbn bx1 m9; replace bx2 := Xbn bx2 m9
  refine sbp #[.int .i64 0, .int .i64 0, .slice none 0 0, .int .i64 0, .int .i64 0, .int .i64 0, .slice none 0 0] 31 fun V10 b4 hb4 m10 bx4 => ?_
  have o2_4 := Xlo bx2 hb4
  replace NB : Hid (∀ g, (rb (.slice sa3 (Hm.grantL { L with mem := d, own := 0, sh := [c] } L.bu L.wt).sh.length sc3) = some g ∨ rb (.slice qa3 (Hm.grantL { L with mem := d, own := 0, sh := [c] } L.bu L.wt).q.length qc3) = some g ∨ rb (.slice ta3 1 tc3) = some g) → g ≠ b0 ∧ g ≠ b1 ∧ g ≠ b2 ∧ g ≠ b4) := hide (fun g h => by have h1 := NB.out g h; have h2 := rows_lt RS.out RQ.out RT.out g h; exact (by omega))
  replace RS := hide (RS.out.mv m10 (fun _ _ h => h))
  replace RQ := hide (RQ.out.mv m10 (fun _ _ h => h))
  replace RT := hide (RT.out.mv m10 (fun _ _ h => h))
  clear hb4
  refine ss7 (.int .i64 (Hm.grantL { L with mem := d, own := 0, sh := [c] } L.bu L.wt).mem) (.int .i64 (Hm.grantL { L with mem := d, own := 0, sh := [c] } L.bu L.wt).own) (.slice sa3 (Hm.grantL { L with mem := d, own := 0, sh := [c] } L.bu L.wt).sh.length sc3) (.int .i64 (Hm.grantL { L with mem := d, own := 0, sh := [c] } L.bu L.wt).bu) (.int .i64 (Hm.grantL { L with mem := d, own := 0, sh := [c] } L.bu L.wt).wt) (.int .i64 (Hm.grantL { L with mem := d, own := 0, sh := [c] } L.bu L.wt).ac) (.slice qa3 (Hm.grantL { L with mem := d, own := 0, sh := [c] } L.bu L.wt).q.length qc3) bx4 fun V11 m11 bx4 => ?_
  replace RS := hide (RS.out.mv m11 (fun g e h => by have h : g = b4 := h; have := NB.out g (.inl e); omega))
  replace RQ := hide (RQ.out.mv m11 (fun g e h => by have h : g = b4 := h; have := NB.out g (.inr (.inl e)); omega))
  replace RT := hide (RT.out.mv m11 (fun g e h => by have h : g = b4 := h; have := NB.out g (.inr (.inr e)); omega))
  refine sv (.slice ta3 1 tc3) ?_
  refine nt (h15 _ _ (sk fun K16 h16 => rl ?_)); clear h15 K15
  replace HB := Xhb (Xhn HB m10) m11; replace bx0 := Xbb (Xbn bx0 m10) m11; replace bx1 := Xbb (Xbn bx1 m10) m11; replace bx2 := Xbb (Xbn bx2 m10) m11
  refine sg (.agg #[.int .i64 (Hm.grantL { L with mem := d, own := 0, sh := [c] } L.bu L.wt).mem, .int .i64 (Hm.grantL { L with mem := d, own := 0, sh := [c] } L.bu L.wt).own, .slice sa3 (Hm.grantL { L with mem := d, own := 0, sh := [c] } L.bu L.wt).sh.length sc3, .int .i64 (Hm.grantL { L with mem := d, own := 0, sh := [c] } L.bu L.wt).bu, .int .i64 (Hm.grantL { L with mem := d, own := 0, sh := [c] } L.bu L.wt).wt, .int .i64 (Hm.grantL { L with mem := d, own := 0, sh := [c] } L.bu L.wt).ac, .slice qa3 (Hm.grantL { L with mem := d, own := 0, sh := [c] } L.bu L.wt).q.length qc3]) (h := by have z0 := cell_box 0 (bx4.out) rfl; have z1 := cell_box 1 (bx4.out) rfl; have z2 := cell_box 2 (bx4.out) rfl; have z3 := cell_box 3 (bx4.out) rfl; have z4 := cell_box 4 (bx4.out) rfl; have z5 := cell_box 5 (bx4.out) rfl; have z6 := cell_box 6 (bx4.out) rfl; go_simp) ?_
  refine sv (.pointer (some ⟨b1, 3, none⟩)) ?_
  refine sl 3 bx1 ?_
  refine sv (.slice ta3 1 tc3) ?_
  have szV := HB.out.size
  have hbV := Nat.le_trans hbw szV
  have NBt := fun g e => NB.out g (.inr (.inr e))
  have bz_b0 := lt_of_block bx0.out
  have bz_b1 := lt_of_block bx1.out
  have bz_b2 := lt_of_block bx2.out
  have bz_b4 := lt_of_block bx4.out
  refine sw_call (by rfl) (by first | rfl | (go_simp; done)) (l4Next_any l base (fun g => rb (.slice sa3 (Hm.grantL { L with mem := d, own := 0, sh := [c] } L.bu L.wt).sh.length sc3) = some g ∨ rb (.slice qa3 (Hm.grantL { L with mem := d, own := 0, sh := [c] } L.bu L.wt).q.length qc3) = some g ∨ rb (.slice ta3 1 tc3) = some g) (fun g => rb (.slice ta3 1 tc3) = some g) R (Hm.grantL { L with mem := d, own := 0, sh := [c] } L.bu L.wt) [Hm.mGrant L.bu l L.wt d] _ _ _ _ _ _ V11 RS.out RQ.out RT.out AP (fun g h => h) (fun g h => h) hbV (hg1.grant hb1 hb5) (by rw [grantL_q]; have := hg1.n; show 1 + 5 * L.q.length ≤ 2000; have : L.q.length ≤ 10 := this; omega) (by rw [grantL_q]; exact hR)) ?_
  rintro e V12 ⟨sa4, sc4, qa4, qc4, ta4, tc4, rfl, gs, gq, gt, gap, gfr, hmv⟩
  have m12 : Mv (fun g => rb (.slice ta3 1 tc3) = some g) V11 V12 := hmv
  refine ⟨_, rfl, ?_⟩
  refine pt ?_
  replace HB := hide (HB.out.step m12 (fun g hg e => by have := RTn g e; omega))
  replace bx0 := hide (m12.box bx0.out (fun h => by have := NBt _ h; omega))
  replace bx1 := hide (m12.box bx1.out (fun h => by have := NBt _ h; omega))
  replace bx2 := hide (m12.box bx2.out (fun h => by have := NBt _ h; omega))
  replace bx4 := hide (m12.box bx4.out (fun h => by have := NBt _ h; omega))
  replace NB : Hid (∀ g, (rb (.slice sa4 R.2.1.sh.length sc4) = some g ∨ rb (.slice qa4 R.2.1.q.length qc4) = some g ∨ rb (.slice ta4 R.2.2.length tc4) = some g) → g ≠ b0 ∧ g ≠ b1 ∧ g ≠ b2 ∧ g ≠ b4) := hide (fun g h => (gfr g h).elim (fun q => by have := NB.out g (q); omega) (fun q => by omega))
  replace FO : ∀ g, (rb (.slice sa4 R.2.1.sh.length sc4) = some g ∨ rb (.slice qa4 R.2.1.q.length qc4) = some g ∨ rb (.slice ta4 R.2.2.length tc4) = some g) → (rb (.slice sa L.sh.length sc) = some g ∨ rb (.slice qa L.q.length qc) = some g) ∨ w.heap.size ≤ g := fun g h => (gfr g h).elim (fun q => FO g (q)) (fun q => .inr (Nat.le_trans szV q))
  replace RS := hide gs; replace RQ := hide gq; replace RT := hide gt
  replace AP := gap
  clear gs gq gt gap gfr
  clear hmv szV hbV NBt bz_b0 bz_b1 bz_b2 bz_b4
  refine sv (.agg #[.int .i64 R.2.1.mem, .int .i64 R.2.1.own, .slice sa4 R.2.1.sh.length sc4, .int .i64 R.2.1.bu, .int .i64 R.2.1.wt, .int .i64 R.2.1.ac, .slice qa4 R.2.1.q.length qc4]) ?_
  refine sv (.slice ta4 R.2.2.length tc4) ?_
  refine sv (.bool R.1) ?_
  refine ss7 (.int .i64 R.2.1.mem) (.int .i64 R.2.1.own) (.slice sa4 R.2.1.sh.length sc4) (.int .i64 R.2.1.bu) (.int .i64 R.2.1.wt) (.int .i64 R.2.1.ac) (.slice qa4 R.2.1.q.length qc4) bx2 fun V13 m13 bx2 => ?_
  replace RS := hide (RS.out.mv m13 (fun g e h => by have h : g = b2 := h; have := NB.out g (.inl e); omega))
  replace RQ := hide (RQ.out.mv m13 (fun g e h => by have h : g = b2 := h; have := NB.out g (.inr (.inl e)); omega))
  replace RT := hide (RT.out.mv m13 (fun g e h => by have h : g = b2 := h; have := NB.out g (.inr (.inr e)); omega))
  refine sv (.slice ta4 R.2.2.length tc4) ?_
  refine sv (.bool R.1) ?_
  refine nt (h16 _ _ (wp_ret ?_)); clear h16 K16
  replace HB := Xhb HB m13; replace bx0 := Xbb bx0 m13; replace bx1 := Xbb bx1 m13; replace bx4 := Xbb bx4 m13
  have q2_0 := cell_box 0 bx2.out rfl
  have q2_1 := cell_box 1 bx2.out rfl
  have q2_2 := cell_box 2 bx2.out rfl
  have q2_3 := cell_box 3 bx2.out rfl
  have q2_4 := cell_box 4 bx2.out rfl
  have q2_5 := cell_box 5 bx2.out rfl
  have q2_6 := cell_box 6 bx2.out rfl
  exact bodyPost_ret (v := .tuple #[.agg #[.int .i64 R.2.1.mem, .int .i64 R.2.1.own, .slice sa4 R.2.1.sh.length sc4, .int .i64 R.2.1.bu, .int .i64 R.2.1.wt, .int .i64 R.2.1.ac, .slice qa4 R.2.1.q.length qc4], .slice ta4 R.2.2.length tc4, .bool R.1]) (by simp [results, Tryz.results27, go_sem, q2_0, q2_1, q2_2, q2_3, q2_4, q2_5, q2_6]) rfl ⟨_, _, _, _, _, _, rfl, RS.out, RQ.out, RT.out, AP, FO, HB.out⟩

set_option maxRecDepth 20000 in
set_option maxHeartbeats 2000000 in
theorem sgot_7_w (c to l t d : Int) (base : Nat) (L : Hm.Ln) (sa : Option Addr) (sc : Nat) (qa : Option Addr) (qc : Nat) (w : World) (hs : Rg w base (.slice sa L.sh.length sc) 1 L.sh.length (gF (f1 L.sh))) (hq : Rg w base (.slice qa L.q.length qc) 2 L.q.length (gF (f2 L.q))) (hap : ∀ g, rb (.slice sa L.sh.length sc) = some g → rb (.slice qa L.q.length qc) ≠ some g) (hbw : base ≤ w.heap.size) (hgd : Gd L) (hb1 : 1 ≤ L.bu) (hb5 : L.bu ≤ 5) (ho : L.own = c) (hw : ¬ L.wt = 1) (hc1 : 1 ≤ c) (hc5 : c ≤ 5) (R : Bool × Hm.Ln × List Hm.Mg) (hR : Hm.nextR l L.q (Hm.grantL { L with mem := d, own := 0, sh := [] } L.bu L.wt) [Hm.mGrant L.bu l L.wt d] = R) :
    Calls Tryz.prog 27 #[.agg #[.int .i64 L.mem, .int .i64 L.own, .slice sa L.sh.length sc, .int .i64 L.bu, .int .i64 L.wt, .int .i64 L.ac, .slice qa L.q.length qc], .agg #[.int .i64 7, .int .i64 c, .int .i64 to, .int .i64 l, .int .i64 t, .int .i64 d]] w (LnG w base (.slice sa L.sh.length sc) (.slice qa L.q.length qc) R.2.1 R.2.2 R.1) := by
  have hbv : Hid ((L.bu == 0) = false) := hide (by simp; omega)
  have hov : Hid ((L.own != c) = false) := hide (by simp [ho])
  clear ho
  have hwv : Hid ((L.wt == 1) = false) := hide (by simpa using hw)
  clear hw
  have HB : Hid (Mv (fun g => rb (.slice qa L.q.length qc) = some g) w w) := hide (Mv.refl _ _)
  have RWl : ∀ g, (rb (.slice sa L.sh.length sc) = some g ∨ rb (.slice qa L.q.length qc) = some g ∨ rb (.slice none 0 0) = some g) → g < w.heap.size := fun g h => h.elim (fun e => (hs.lt g e).2) (fun h => h.elim (fun e => (hq.lt g e).2) (fun e => absurd e (by simp [rb])))
  have RS := hide hs; have RQ := hide hq; clear hs hq
  have RT : Hid (Rg w base (.slice none 0 0) 6 0 (gF (f6 []))) := hide (rg_nil _ _ _ _)
  have AP : Apt (.slice sa L.sh.length sc) (.slice qa L.q.length qc) (.slice none 0 0) := ⟨fun g e => ⟨hap g e, by simp [rb]⟩, fun g e => by simp [rb]⟩
  have FO : ∀ g, (rb (.slice sa L.sh.length sc) = some g ∨ rb (.slice qa L.q.length qc) = some g ∨ rb (.slice none 0 0) = some g) → (rb (.slice sa L.sh.length sc) = some g ∨ rb (.slice qa L.q.length qc) = some g) ∨ w.heap.size ≤ g := fun g h => h.elim (fun e => .inl (.inl e)) (fun h => h.elim (fun e => .inl (.inr e)) (fun e => absurd e (by simp [rb])))
  go_enter Tryz.func27, Tryz.ntmps27
  refine sk fun K1 h1 => rl ?_
  refine sbp #[.int .i64 L.mem, .int .i64 L.own, .slice sa L.sh.length sc, .int .i64 L.bu, .int .i64 L.wt, .int .i64 L.ac, .slice qa L.q.length qc] 31 fun V1 b0 hb0 m1 bx0 => ?_
  have o_0 : w.heap.size ≤ b0 := by omega
  replace RS := hide (RS.out.mv m1 (fun _ _ h => h))
  replace RQ := hide (RQ.out.mv m1 (fun _ _ h => h))
  replace RT := hide (RT.out.mv m1 (fun _ _ h => h))
  clear hb0
  refine sbp #[.int .i64 7, .int .i64 c, .int .i64 to, .int .i64 l, .int .i64 t, .int .i64 d] 36 fun V2 b1 hb1 m2 bx1 => ?_
  have o0_1 := Xlo bx0 hb1
  replace RS := hide (RS.out.mv m2 (fun _ _ h => h))
  replace RQ := hide (RQ.out.mv m2 (fun _ _ h => h))
  replace RT := hide (RT.out.mv m2 (fun _ _ h => h))
  clear hb1
  refine sbp #[.int .i64 0, .int .i64 0, .slice none 0 0, .int .i64 0, .int .i64 0, .int .i64 0, .slice none 0 0] 31 fun V3 b2 hb2 m3 bx2 => ?_
  have o1_2 := Xlo bx1 hb2
  replace RS := hide (RS.out.mv m3 (fun _ _ h => h))
  replace RQ := hide (RQ.out.mv m3 (fun _ _ h => h))
  replace RT := hide (RT.out.mv m3 (fun _ _ h => h))
  clear hb2
  refine sv (.slice none 0 0) ?_
  refine sv (.bool false) ?_
  refine nt (h1 _ _ (sk fun K2 h2 => sk fun K3 h3 => rl ?_)); clear h1 K1
  replace HB := Xhn (Xhn (Xhn HB m1) m2) m3; replace bx0 := Xbn (Xbn bx0 m2) m3; replace bx1 := Xbn bx1 m3
  have NB : Hid (∀ g, (rb (.slice sa L.sh.length sc) = some g ∨ rb (.slice qa L.q.length qc) = some g ∨ rb (.slice none 0 0) = some g) → g ≠ b0 ∧ g ≠ b1 ∧ g ≠ b2) := hide (fun g h => by have := RWl g h; omega)
  clear RWl
  refine sv (.pointer (some ⟨b1, 0, none⟩)) ?_
  refine sl 0 bx1 ?_
  refine nt (h3 _ _ (wp_block (sk fun K4 h4 => sk fun K5 h5 => rl ?_))); clear h3 K3
  refine sg (.bool false) ?_
  refine sv (.bool false) ?_
  refine nt (h5 _ _ (cf (rl ?_))); clear h5 K5
  refine sg (.bool false) ?_
  refine sv (.bool false) ?_
  refine nt (h4 _ _ (cf (sk fun K6 h6 => rl ?_))); clear h4 K4
  refine sg (.bool false) ?_
  refine sv (.bool false) ?_
  refine nt (h6 _ _ (cf (sk fun K7 h7 => rl ?_))); clear h6 K6
  refine sg (.bool false) ?_
  refine sv (.bool false) ?_
  refine nt (h7 _ _ (cf (sk fun K8 h8 => rl ?_))); clear h7 K7
  refine sg (.bool true) ?_
  refine sv (.bool true) ?_
  refine nt (h8 _ _ (ct (sk fun K9 h9 => sk fun K10 h10 => rl ?_))); clear h8 K8
  refine sv (.pointer (some ⟨b0, 3, none⟩)) ?_
  refine sl 3 bx0 ?_
  refine sg (.bool false) (h := by have hd := hbv.out; go_simp) ?_
  refine sv (.bool false) ?_
  refine sv (.pointer (some ⟨b0, 1, none⟩)) ?_
  refine sl 1 bx0 ?_
  refine sv (.pointer (some ⟨b1, 1, none⟩)) ?_
  refine sl 1 bx1 ?_
  refine sg (.bool false) (h := by have hd := hov.out; go_simp) ?_
  refine sg (.bool false) ?_
  refine nt (h10 _ _ (cf (wp_skip (then_normal (h9 _ _ (sk fun K11 h11 => rl ?_)))))); clear h10 K10; clear h9 K9
  refine sv (.pointer (some ⟨b1, 5, none⟩)) ?_
  refine sl 5 bx1 ?_
  refine sv (.pointer (some ⟨b0, 0, none⟩)) ?_
  refine ss 0 (.int .i64 d) bx0 fun V4 m4 bx0 => ?_
  replace RS := hide (RS.out.mv m4 (fun g e h => by have h : g = b0 := h; have := NB.out g (.inl e); omega))
  replace RQ := hide (RQ.out.mv m4 (fun g e h => by have h : g = b0 := h; have := NB.out g (.inr (.inl e)); omega))
  replace RT := hide (RT.out.mv m4 (fun g e h => by have h : g = b0 := h; have := NB.out g (.inr (.inr e)); omega))
  refine nt (h11 _ _ (sk fun K12 h12 => rl ?_)); clear h11 K11
  refine sv (.pointer (some ⟨b0, 1, none⟩)) ?_
  refine ss 1 (.int .i64 0) bx0 fun V5 m5 bx0 => ?_
  replace RS := hide (RS.out.mv m5 (fun g e h => by have h : g = b0 := h; have := NB.out g (.inl e); omega))
  replace RQ := hide (RQ.out.mv m5 (fun g e h => by have h : g = b0 := h; have := NB.out g (.inr (.inl e)); omega))
  replace RT := hide (RT.out.mv m5 (fun g e h => by have h : g = b0 := h; have := NB.out g (.inr (.inr e)); omega))
  refine nt (h12 _ _ (sk fun K13 h13 => rl ?_)); clear h12 K12
  refine sv (.pointer (some ⟨b0, 2, none⟩)) ?_
  refine ss 2 (.slice none 0 0) bx0 fun V6 m6 bx0 => ?_
  replace RS := hide (RS.out.mv m6 (fun g e h => by have h : g = b0 := h; have := NB.out g (.inl e); omega))
  replace RQ := hide (RQ.out.mv m6 (fun g e h => by have h : g = b0 := h; have := NB.out g (.inr (.inl e)); omega))
  replace RT := hide (RT.out.mv m6 (fun g e h => by have h : g = b0 := h; have := NB.out g (.inr (.inr e)); omega))
  refine nt (h13 _ _ (sk fun K14 h14 => rl ?_)); clear h13 K13
  replace HB := Xhb (Xhb (Xhb HB m4) m5) m6; replace bx1 := Xbb (Xbb (Xbb bx1 m4) m5) m6; replace bx2 := Xbb (Xbb (Xbb bx2 m4) m5) m6
  replace RS : Hid (Rg V6 base (.slice none 0 0) 1 0 (gF (f1 []))) := hide (rg_nil _ _ _ _)
  replace AP : Apt (.slice none 0 0) (.slice qa L.q.length qc) (.slice none 0 0) := ⟨fun g e => absurd e (by simp [rb]), AP.2⟩
  replace NB : Hid (∀ g, (rb (.slice none 0 0) = some g ∨ rb (.slice qa L.q.length qc) = some g ∨ rb (.slice none 0 0) = some g) → g ≠ b0 ∧ g ≠ b1 ∧ g ≠ b2) := hide (fun g h => h.elim (fun e => absurd e (by simp [rb])) (fun h => NB.out g (.inr h)))
  replace FO : ∀ g, (rb (.slice none 0 0) = some g ∨ rb (.slice qa L.q.length qc) = some g ∨ rb (.slice none 0 0) = some g) → (rb (.slice sa L.sh.length sc) = some g ∨ rb (.slice qa L.q.length qc) = some g) ∨ w.heap.size ≤ g := fun g h => h.elim (fun e => absurd e (by simp [rb])) (fun h => FO g (.inr h))
  refine sv (.pointer (some ⟨b0, 4, none⟩)) ?_
  refine sl 4 bx0 ?_
  refine sg (.bool false) (h := by have hd := hwv.out; go_simp) ?_
  refine nt (h14 _ _ (cf (wp_skip (inb_norm (then_normal (h2 _ _ (sk fun K15 h15 => rl ?_))))))); clear h14 K14; clear h2 K2
  have hg1 : Gd { L with mem := d, own := 0, sh := [] } := ⟨rfl, hgd.n, hgd.q⟩
  refine sg (.agg #[.int .i64 d, .int .i64 0, .slice none 0 0, .int .i64 L.bu, .int .i64 L.wt, .int .i64 L.ac, .slice qa L.q.length qc]) (h := by have z0 := cell_box 0 (bx0.out) rfl; have z1 := cell_box 1 (bx0.out) rfl; have z2 := cell_box 2 (bx0.out) rfl; have z3 := cell_box 3 (bx0.out) rfl; have z4 := cell_box 4 (bx0.out) rfl; have z5 := cell_box 5 (bx0.out) rfl; have z6 := cell_box 6 (bx0.out) rfl; go_simp) ?_
  refine sv (.pointer (some ⟨b1, 3, none⟩)) ?_
  refine sl 3 bx1 ?_
  refine sv (.pointer (some ⟨b0, 3, none⟩)) ?_
  refine sl 3 bx0 ?_
  refine sv (.pointer (some ⟨b0, 4, none⟩)) ?_
  refine sl 4 bx0 ?_
  refine sv (.agg #[.int .i64 L.bu, .int .i64 L.wt]) ?_
  have szV := HB.out.size
  have hbV := Nat.le_trans hbw szV
  obtain ⟨N8, hN8⟩ : ∃ N, V6.heap.size = N := ⟨_, rfl⟩
  have bz_b0 := lt_of_block bx0.out
  have bz_b1 := lt_of_block bx1.out
  have bz_b2 := lt_of_block bx2.out
  refine sw_call (by rfl) (by first | rfl | (go_simp; done)) (l4Grant_any l L.bu L.wt base { L with mem := d, own := 0, sh := [] } _ _ _ _ V6 RS.out RQ.out (fun g e => (AP.1 g e).1) hbV hg1.sh hb1 hb5) ?_
  rintro e V7 ⟨sa3, sc3, qa3, qc3, ta3, tc3, rfl, gs, gq, gt, gap, gfr, gtn, hbl⟩
  have m7 : Mv (nob) V6 V7 := Mv.of_below hbl
  refine ⟨_, rfl, ?_⟩
  refine pt ?_
  have RTn : ∀ g, rb (.slice ta3 1 tc3) = some g → w.heap.size ≤ g := fun g e => Nat.le_trans szV (gtn g e)
  replace NB : Hid (∀ g, (rb (.slice sa3 (Hm.grantL { L with mem := d, own := 0, sh := [] } L.bu L.wt).sh.length sc3) = some g ∨ rb (.slice qa3 (Hm.grantL { L with mem := d, own := 0, sh := [] } L.bu L.wt).q.length qc3) = some g ∨ rb (.slice ta3 1 tc3) = some g) → g ≠ b0 ∧ g ≠ b1 ∧ g ≠ b2) := hide (fun g h => (gfr g h).elim (fun q => by have := NB.out g (q.elim .inl (fun e => .inr (.inl e))); omega) (fun q => by omega))
  replace FO : ∀ g, (rb (.slice sa3 (Hm.grantL { L with mem := d, own := 0, sh := [] } L.bu L.wt).sh.length sc3) = some g ∨ rb (.slice qa3 (Hm.grantL { L with mem := d, own := 0, sh := [] } L.bu L.wt).q.length qc3) = some g ∨ rb (.slice ta3 1 tc3) = some g) → (rb (.slice sa L.sh.length sc) = some g ∨ rb (.slice qa L.q.length qc) = some g) ∨ w.heap.size ≤ g := fun g h => (gfr g h).elim (fun q => FO g (q.elim .inl (fun e => .inr (.inl e)))) (fun q => .inr (Nat.le_trans szV q))
  replace RS := hide gs; replace RQ := hide gq; replace RT := hide gt
  replace AP := gap
  clear gs gq gt gap gfr
  clear hbl gtn szV hbV hN8 bz_b0 bz_b1 bz_b2
  refine sv (.tuple #[.agg #[.int .i64 (Hm.grantL { L with mem := d, own := 0, sh := [] } L.bu L.wt).mem, .int .i64 (Hm.grantL { L with mem := d, own := 0, sh := [] } L.bu L.wt).own, .slice sa3 (Hm.grantL { L with mem := d, own := 0, sh := [] } L.bu L.wt).sh.length sc3, .int .i64 (Hm.grantL { L with mem := d, own := 0, sh := [] } L.bu L.wt).bu, .int .i64 (Hm.grantL { L with mem := d, own := 0, sh := [] } L.bu L.wt).wt, .int .i64 (Hm.grantL { L with mem := d, own := 0, sh := [] } L.bu L.wt).ac, .slice qa3 (Hm.grantL { L with mem := d, own := 0, sh := [] } L.bu L.wt).q.length qc3], .slice ta3 1 tc3]) ?_
  refine sv (.agg #[.int .i64 (Hm.grantL { L with mem := d, own := 0, sh := [] } L.bu L.wt).mem, .int .i64 (Hm.grantL { L with mem := d, own := 0, sh := [] } L.bu L.wt).own, .slice sa3 (Hm.grantL { L with mem := d, own := 0, sh := [] } L.bu L.wt).sh.length sc3, .int .i64 (Hm.grantL { L with mem := d, own := 0, sh := [] } L.bu L.wt).bu, .int .i64 (Hm.grantL { L with mem := d, own := 0, sh := [] } L.bu L.wt).wt, .int .i64 (Hm.grantL { L with mem := d, own := 0, sh := [] } L.bu L.wt).ac, .slice qa3 (Hm.grantL { L with mem := d, own := 0, sh := [] } L.bu L.wt).q.length qc3]) ?_
  refine sv (.slice ta3 1 tc3) ?_
  replace HB := Xhn HB m7; replace bx0 := Xbn bx0 m7; replace bx1 := Xbn bx1 m7; replace bx2 := Xbn bx2 m7
  refine sbp #[.int .i64 0, .int .i64 0, .slice none 0 0, .int .i64 0, .int .i64 0, .int .i64 0, .slice none 0 0] 31 fun V8 b3 hb3 m8 bx3 => ?_
  have o2_3 := Xlo bx2 hb3
  replace NB : Hid (∀ g, (rb (.slice sa3 (Hm.grantL { L with mem := d, own := 0, sh := [] } L.bu L.wt).sh.length sc3) = some g ∨ rb (.slice qa3 (Hm.grantL { L with mem := d, own := 0, sh := [] } L.bu L.wt).q.length qc3) = some g ∨ rb (.slice ta3 1 tc3) = some g) → g ≠ b0 ∧ g ≠ b1 ∧ g ≠ b2 ∧ g ≠ b3) := hide (fun g h => by have h1 := NB.out g h; have h2 := rows_lt RS.out RQ.out RT.out g h; exact (by omega))
  replace RS := hide (RS.out.mv m8 (fun _ _ h => h))
  replace RQ := hide (RQ.out.mv m8 (fun _ _ h => h))
  replace RT := hide (RT.out.mv m8 (fun _ _ h => h))
  clear hb3
  refine ss7 (.int .i64 (Hm.grantL { L with mem := d, own := 0, sh := [] } L.bu L.wt).mem) (.int .i64 (Hm.grantL { L with mem := d, own := 0, sh := [] } L.bu L.wt).own) (.slice sa3 (Hm.grantL { L with mem := d, own := 0, sh := [] } L.bu L.wt).sh.length sc3) (.int .i64 (Hm.grantL { L with mem := d, own := 0, sh := [] } L.bu L.wt).bu) (.int .i64 (Hm.grantL { L with mem := d, own := 0, sh := [] } L.bu L.wt).wt) (.int .i64 (Hm.grantL { L with mem := d, own := 0, sh := [] } L.bu L.wt).ac) (.slice qa3 (Hm.grantL { L with mem := d, own := 0, sh := [] } L.bu L.wt).q.length qc3) bx3 fun V9 m9 bx3 => ?_
  replace RS := hide (RS.out.mv m9 (fun g e h => by have h : g = b3 := h; have := NB.out g (.inl e); omega))
  replace RQ := hide (RQ.out.mv m9 (fun g e h => by have h : g = b3 := h; have := NB.out g (.inr (.inl e)); omega))
  replace RT := hide (RT.out.mv m9 (fun g e h => by have h : g = b3 := h; have := NB.out g (.inr (.inr e)); omega))
  refine sv (.slice ta3 1 tc3) ?_
  refine nt (h15 _ _ (sk fun K16 h16 => rl ?_)); clear h15 K15
  replace HB := Xhb (Xhn HB m8) m9; replace bx0 := Xbb (Xbn bx0 m8) m9; replace bx1 := Xbb (Xbn bx1 m8) m9; replace bx2 := Xbb (Xbn bx2 m8) m9
  refine sg (.agg #[.int .i64 (Hm.grantL { L with mem := d, own := 0, sh := [] } L.bu L.wt).mem, .int .i64 (Hm.grantL { L with mem := d, own := 0, sh := [] } L.bu L.wt).own, .slice sa3 (Hm.grantL { L with mem := d, own := 0, sh := [] } L.bu L.wt).sh.length sc3, .int .i64 (Hm.grantL { L with mem := d, own := 0, sh := [] } L.bu L.wt).bu, .int .i64 (Hm.grantL { L with mem := d, own := 0, sh := [] } L.bu L.wt).wt, .int .i64 (Hm.grantL { L with mem := d, own := 0, sh := [] } L.bu L.wt).ac, .slice qa3 (Hm.grantL { L with mem := d, own := 0, sh := [] } L.bu L.wt).q.length qc3]) (h := by have z0 := cell_box 0 (bx3.out) rfl; have z1 := cell_box 1 (bx3.out) rfl; have z2 := cell_box 2 (bx3.out) rfl; have z3 := cell_box 3 (bx3.out) rfl; have z4 := cell_box 4 (bx3.out) rfl; have z5 := cell_box 5 (bx3.out) rfl; have z6 := cell_box 6 (bx3.out) rfl; go_simp) ?_
  refine sv (.pointer (some ⟨b1, 3, none⟩)) ?_
  refine sl 3 bx1 ?_
  refine sv (.slice ta3 1 tc3) ?_
  have szV := HB.out.size
  have hbV := Nat.le_trans hbw szV
  have NBt := fun g e => NB.out g (.inr (.inr e))
  have bz_b0 := lt_of_block bx0.out
  have bz_b1 := lt_of_block bx1.out
  have bz_b2 := lt_of_block bx2.out
  have bz_b3 := lt_of_block bx3.out
  refine sw_call (by rfl) (by first | rfl | (go_simp; done)) (l4Next_any l base (fun g => rb (.slice sa3 (Hm.grantL { L with mem := d, own := 0, sh := [] } L.bu L.wt).sh.length sc3) = some g ∨ rb (.slice qa3 (Hm.grantL { L with mem := d, own := 0, sh := [] } L.bu L.wt).q.length qc3) = some g ∨ rb (.slice ta3 1 tc3) = some g) (fun g => rb (.slice ta3 1 tc3) = some g) R (Hm.grantL { L with mem := d, own := 0, sh := [] } L.bu L.wt) [Hm.mGrant L.bu l L.wt d] _ _ _ _ _ _ V9 RS.out RQ.out RT.out AP (fun g h => h) (fun g h => h) hbV (hg1.grant hb1 hb5) (by rw [grantL_q]; have := hg1.n; show 1 + 5 * L.q.length ≤ 2000; have : L.q.length ≤ 10 := this; omega) (by rw [grantL_q]; exact hR)) ?_
  rintro e V10 ⟨sa4, sc4, qa4, qc4, ta4, tc4, rfl, gs, gq, gt, gap, gfr, hmv⟩
  have m10 : Mv (fun g => rb (.slice ta3 1 tc3) = some g) V9 V10 := hmv
  refine ⟨_, rfl, ?_⟩
  refine pt ?_
  replace HB := hide (HB.out.step m10 (fun g hg e => by have := RTn g e; omega))
  replace bx0 := hide (m10.box bx0.out (fun h => by have := NBt _ h; omega))
  replace bx1 := hide (m10.box bx1.out (fun h => by have := NBt _ h; omega))
  replace bx2 := hide (m10.box bx2.out (fun h => by have := NBt _ h; omega))
  replace bx3 := hide (m10.box bx3.out (fun h => by have := NBt _ h; omega))
  replace NB : Hid (∀ g, (rb (.slice sa4 R.2.1.sh.length sc4) = some g ∨ rb (.slice qa4 R.2.1.q.length qc4) = some g ∨ rb (.slice ta4 R.2.2.length tc4) = some g) → g ≠ b0 ∧ g ≠ b1 ∧ g ≠ b2 ∧ g ≠ b3) := hide (fun g h => (gfr g h).elim (fun q => by have := NB.out g (q); omega) (fun q => by omega))
  replace FO : ∀ g, (rb (.slice sa4 R.2.1.sh.length sc4) = some g ∨ rb (.slice qa4 R.2.1.q.length qc4) = some g ∨ rb (.slice ta4 R.2.2.length tc4) = some g) → (rb (.slice sa L.sh.length sc) = some g ∨ rb (.slice qa L.q.length qc) = some g) ∨ w.heap.size ≤ g := fun g h => (gfr g h).elim (fun q => FO g (q)) (fun q => .inr (Nat.le_trans szV q))
  replace RS := hide gs; replace RQ := hide gq; replace RT := hide gt
  replace AP := gap
  clear gs gq gt gap gfr
  clear hmv szV hbV NBt bz_b0 bz_b1 bz_b2 bz_b3
  refine sv (.agg #[.int .i64 R.2.1.mem, .int .i64 R.2.1.own, .slice sa4 R.2.1.sh.length sc4, .int .i64 R.2.1.bu, .int .i64 R.2.1.wt, .int .i64 R.2.1.ac, .slice qa4 R.2.1.q.length qc4]) ?_
  refine sv (.slice ta4 R.2.2.length tc4) ?_
  refine sv (.bool R.1) ?_
  refine ss7 (.int .i64 R.2.1.mem) (.int .i64 R.2.1.own) (.slice sa4 R.2.1.sh.length sc4) (.int .i64 R.2.1.bu) (.int .i64 R.2.1.wt) (.int .i64 R.2.1.ac) (.slice qa4 R.2.1.q.length qc4) bx2 fun V11 m11 bx2 => ?_
  replace RS := hide (RS.out.mv m11 (fun g e h => by have h : g = b2 := h; have := NB.out g (.inl e); omega))
  replace RQ := hide (RQ.out.mv m11 (fun g e h => by have h : g = b2 := h; have := NB.out g (.inr (.inl e)); omega))
  replace RT := hide (RT.out.mv m11 (fun g e h => by have h : g = b2 := h; have := NB.out g (.inr (.inr e)); omega))
  refine sv (.slice ta4 R.2.2.length tc4) ?_
  refine sv (.bool R.1) ?_
  refine nt (h16 _ _ (wp_ret ?_)); clear h16 K16
  replace HB := Xhb HB m11; replace bx0 := Xbb bx0 m11; replace bx1 := Xbb bx1 m11; replace bx3 := Xbb bx3 m11
  have q2_0 := cell_box 0 bx2.out rfl
  have q2_1 := cell_box 1 bx2.out rfl
  have q2_2 := cell_box 2 bx2.out rfl
  have q2_3 := cell_box 3 bx2.out rfl
  have q2_4 := cell_box 4 bx2.out rfl
  have q2_5 := cell_box 5 bx2.out rfl
  have q2_6 := cell_box 6 bx2.out rfl
  exact bodyPost_ret (v := .tuple #[.agg #[.int .i64 R.2.1.mem, .int .i64 R.2.1.own, .slice sa4 R.2.1.sh.length sc4, .int .i64 R.2.1.bu, .int .i64 R.2.1.wt, .int .i64 R.2.1.ac, .slice qa4 R.2.1.q.length qc4], .slice ta4 R.2.2.length tc4, .bool R.1]) (by simp [results, Tryz.results27, go_sem, q2_0, q2_1, q2_2, q2_3, q2_4, q2_5, q2_6]) rfl ⟨_, _, _, _, _, _, rfl, RS.out, RQ.out, RT.out, AP, FO, HB.out⟩

end Go.Proofs.YtlalldlbgnlbjaaGreatDoor
