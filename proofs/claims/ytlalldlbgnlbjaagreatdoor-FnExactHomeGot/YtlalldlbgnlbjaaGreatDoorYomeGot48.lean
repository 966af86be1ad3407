/- HnD -/
import Derived.Test.YtlalldlbgnlbjaaGreatDoorYomeGot45
import Derived.Test.YtlalldlbgnlbjaaGreatDoorYomeGot46
import Derived.Test.YtlalldlbgnlbjaaGreatDoorYomeGot47
/- impl.HomeGot (written by mkHnD.py) -/
namespace Go.Proofs.YtlalldlbgnlbjaaGreatDoor
open Go.RowKit
set_option linter.unusedVariables false
set_option linter.unusedSimpArgs false

theorem ok_kind {k c to l t d : Int} (h : okB k c to l t d = true) : (homeB k = true ∧ (k = 1 ∨ k = 2 ∨ k = 3 ∨ k = 6 ∨ k = 7) ∧ 1 ≤ c ∧ c ≤ 5) ∨ (homeB k = false ∧ c = 0) := by
  have hk : 1 ≤ k ∧ k ≤ 9 := by
    simp only [okB, inB, Bool.and_eq_true, decide_eq_true_eq] at h
    exact h.1.1.1.1
  have he : endsB k c to = true := by
    simp only [okB, Bool.and_eq_true] at h
    exact h.1.1.2
  rcases kinds hk.1 hk.2 with rfl | rfl | rfl | rfl | rfl | rfl | rfl | rfl | rfl <;> simp [endsB, homeB, inB, eqB] at he ⊢ <;> omega
theorem Tab.mv {w w' : World} (h : Tab w) (m : Mv nob w w') : Tab w' := h.below m.below
/-- whether a home takes a message, and what it makes of it -/
noncomputable def hgB (L : Hm.Ln) (k c to l t d : Int) : Bool := lok L && okB k c to l t d && homeB k && (Hm.gotR L k c l d).1
noncomputable def hgL (L : Hm.Ln) (k c to l t d : Int) : Hm.Ln := if hgB L k c to l t d = true then (Hm.gotR L k c l d).2.1 else zL
noncomputable def hgM (L : Hm.Ln) (k c to l t d : Int) : List Hm.Mg := if hgB L k c to l t d = true then (Hm.gotR L k c l d).2.2 else []
theorem got_yes (E : Nat → Addr) (base hb : Nat) (L : Hm.Ln) (line : Int) (sa : Option Addr) (sc : Nat) (qa : Option Addr) (qc : Nat) (ta : Option Addr) (tc : Nat) (w : World) (k c to l t d : Int) (h : Hr E w base hb L line [] sa sc qa qc ta tc) (hlk : lok L = true) (hk : k = 1 ∨ k = 2 ∨ k = 3 ∨ k = 6 ∨ k = 7) (hc1 : 1 ≤ c) (hc5 : c ≤ 5) (he : Er E w base) (hB : (Hm.gotR L k c line d).1 = true) :
    Calls Tryz.prog 33 #[.pointer (some ⟨hb, 0, none⟩), .agg #[.int .i64 k, .int .i64 c, .int .i64 to, .int .i64 l, .int .i64 t, .int .i64 d]] w (HPost E w base hb (.slice sa L.sh.length sc) (.slice qa L.q.length qc) (.slice ta ([] : List Hm.Mg).length tc) (Hm.gotR L k c line d).2.1 line (Hm.gotR L k c line d).2.2 .nilIface) :=
  (got_any E base hb L line sa sc qa qc ta tc w k c to l t d h hlk hk hc1 hc5 he).mono fun e w' h => h.elim (fun q => q.2) (fun q => absurd (hB.symm.trans q.1) (by decide))
theorem got_no (E : Nat → Addr) (base hb : Nat) (L : Hm.Ln) (line : Int) (sa : Option Addr) (sc : Nat) (qa : Option Addr) (qc : Nat) (ta : Option Addr) (tc : Nat) (w : World) (k c to l t d : Int) (h : Hr E w base hb L line [] sa sc qa qc ta tc) (hlk : lok L = true) (hk : k = 1 ∨ k = 2 ∨ k = 3 ∨ k = 6 ∨ k = 7) (hc1 : 1 ≤ c) (hc5 : c ≤ 5) (he : Er E w base) (hB : (Hm.gotR L k c line d).1 = false) :
    Calls Tryz.prog 33 #[.pointer (some ⟨hb, 0, none⟩), .agg #[.int .i64 k, .int .i64 c, .int .i64 to, .int .i64 l, .int .i64 t, .int .i64 d]] w (fun e w' => ∃ L2 ms2 c2 p2, HPost E w base hb (.slice sa L.sh.length sc) (.slice qa L.q.length qc) (.slice ta ([] : List Hm.Mg).length tc) L2 line ms2 (rfV c2 p2) e w') :=
  (got_any E base hb L line sa sc qa qc ta tc w k c to l t d h hlk hk hc1 hc5 he).mono fun e w' h => h.elim (fun q => absurd (hB.symm.trans q.1) (by decide)) (fun q => q.2)

set_option maxRecDepth 20000 in
set_option maxHeartbeats 2000000 in
theorem hgot_lok (E : Nat → Addr) (k c to l t d : Int) (L : Hm.Ln) (sa : Option Addr) (sc : Nat) (qa : Option Addr) (qc : Nat) (w : World) (hs : Sg w (.slice sa L.sh.length sc) 1 L.sh.length (gF (f1 L.sh))) (hps : Pl (.slice sa L.sh.length sc) L.sh.length) (hq : Sg w (.slice qa L.q.length qc) 2 L.q.length (gF (f2 L.q))) (hpq : Pl (.slice qa L.q.length qc) L.q.length) (hsl : L.sh.length ≤ 1048576) (hql : L.q.length ≤ 1048576) (hg : Gl E w) (htab : Tab w) (her : Er E w w.heap.size) (hlk : lok L = false) :
    Calls Tryz.prog 9 #[.agg #[.int .i64 L.mem, .int .i64 L.own, .slice sa L.sh.length sc, .int .i64 L.bu, .int .i64 L.wt, .int .i64 L.ac, .slice qa L.q.length qc], .agg #[.int .i64 k, .int .i64 c, .int .i64 to, .int .i64 l, .int .i64 t, .int .i64 d]] w (LnP w zL [] false) := by
  have HB : Hid (Mv nob w w) := hide (Mv.refl _ _)
  have hs0 := hide hs; have hq0 := hide hq; have hg0 := hide hg; have hg4 := hg.lo; clear hs hq hg
  have ht0 := hide htab; have he0 := hide her; clear htab her
  go_enter Tryz.func9, Tryz.ntmps9
  refine sk fun K1 h1 => rl ?_
  refine sbp #[.int .i64 L.mem, .int .i64 L.own, .slice sa L.sh.length sc, .int .i64 L.bu, .int .i64 L.wt, .int .i64 L.ac, .slice qa L.q.length qc] 31 fun V1 b0 hb0 m1 bx0 => ?_
  have o_0 : w.heap.size ≤ b0 := by omega
  clear hb0
  refine sbp #[.int .i64 k, .int .i64 c, .int .i64 to, .int .i64 l, .int .i64 t, .int .i64 d] 36 fun V2 b1 hb1 m2 bx1 => ?_
  have o0_1 := Xlo bx0 hb1
  clear hb1
  refine sbp #[.int .i64 0, .int .i64 0, .slice none 0 0, .int .i64 0, .int .i64 0, .int .i64 0, .slice none 0 0] 31 fun V3 b2 hb2 m3 bx2 => ?_
  have o1_2 := Xlo bx1 hb2
  clear hb2
  refine sv (.slice none 0 0) ?_
  refine sv (.bool false) ?_
  refine nt (h1 _ _ (sk fun K2 h2 => sk fun K3 h3 => rl ?_)); clear h1 K1
  replace bx0 := Xbn (Xbn bx0 m2) m3
  refine sg (.agg #[.int .i64 L.mem, .int .i64 L.own, .slice sa L.sh.length sc, .int .i64 L.bu, .int .i64 L.wt, .int .i64 L.ac, .slice qa L.q.length qc]) (h := by have z0 := cell_box 0 (bx0.out) rfl; have z1 := cell_box 1 (bx0.out) rfl; have z2 := cell_box 2 (bx0.out) rfl; have z3 := cell_box 3 (bx0.out) rfl; have z4 := cell_box 4 (bx0.out) rfl; have z5 := cell_box 5 (bx0.out) rfl; have z6 := cell_box 6 (bx0.out) rfl; go_simp) ?_
  replace HB := Xhn (Xhn (Xhn HB m1) m2) m3
  refine sw_call (by rfl) (by first | rfl | (go_simp; done)) (implLineOk_any L.mem L.own (.slice sa L.sh.length sc) L.sh L.bu L.wt L.ac qa qc L.q.length (f2 L.q) V3 (sg_sl (hs0.out.below HB.out.below)) hsl (sg_sr (hq0.out.below HB.out.below)) hql) ?_
  rintro e V4 ⟨rfl, hbl⟩
  have m4 : Mv (nob) V3 V4 := Mv.of_below hbl
  refine ⟨_, rfl, ?_⟩
  refine pt ?_
  clear hbl
  rw [show lineB L.mem L.own L.sh L.bu L.wt L.ac L.q.length (f2 L.q) = false from hlk]
  refine sg (.bool true) ?_
  refine sv (.bool true) ?_
  with_reducible refine sp ?_
  with_reducible refine sp ?_
  with_reducible refine sp ?_
  refine sg (.bool true) ?_
  refine sv (.bool true) ?_
  with_reducible refine sp ?_
  with_reducible refine sp ?_
  with_reducible refine sp ?_
  refine sg (.bool true) ?_
  refine nt (h3 _ _ (ct (sk fun K4 h4 => rl ?_))); clear h3 K3
  refine sv (.agg #[.int .i64 0, .int .i64 0, .slice none 0 0, .int .i64 0, .int .i64 0, .int .i64 0, .slice none 0 0]) ?_
  replace bx2 := Xbn bx2 m4
  refine ss7 (.int .i64 0) (.int .i64 0) (.slice none 0 0) (.int .i64 0) (.int .i64 0) (.int .i64 0) (.slice none 0 0) bx2 fun V5 m5 bx2 => ?_
  refine sv (.slice none 0 0) ?_
  refine sv (.bool false) ?_
  refine nt (h4 _ _ (wp_ret (then_ret ?_))); clear h4 K4; clear h2 K2
  replace bx1 := Xbb (Xbn (Xbn bx1 m3) m4) m5; replace HB := Xhb (Xhn HB m4) m5; replace bx0 := Xbb (Xbn bx0 m4) m5
  have q2_0 := cell_box 0 bx2.out rfl
  have q2_1 := cell_box 1 bx2.out rfl
  have q2_2 := cell_box 2 bx2.out rfl
  have q2_3 := cell_box 3 bx2.out rfl
  have q2_4 := cell_box 4 bx2.out rfl
  have q2_5 := cell_box 5 bx2.out rfl
  have q2_6 := cell_box 6 bx2.out rfl
  exact bodyPost_ret (v := .tuple #[.agg #[.int .i64 0, .int .i64 0, .slice none 0 0, .int .i64 0, .int .i64 0, .int .i64 0, .slice none 0 0], .slice none 0 0, .bool false]) (by simp [results, Tryz.results9, go_sem, q2_0, q2_1, q2_2, q2_3, q2_4, q2_5, q2_6]) rfl ⟨_, _, _, _, _, _, rfl, rg_nil _ _ _ _, rg_nil _ _ _ _, rg_nil _ _ _ _, zl_apt, HB.out.below⟩

set_option maxRecDepth 20000 in
set_option maxHeartbeats 2000000 in
theorem hgot_msg (E : Nat → Addr) (k c to l t d : Int) (L : Hm.Ln) (sa : Option Addr) (sc : Nat) (qa : Option Addr) (qc : Nat) (w : World) (hs : Sg w (.slice sa L.sh.length sc) 1 L.sh.length (gF (f1 L.sh))) (hps : Pl (.slice sa L.sh.length sc) L.sh.length) (hq : Sg w (.slice qa L.q.length qc) 2 L.q.length (gF (f2 L.q))) (hpq : Pl (.slice qa L.q.length qc) L.q.length) (hsl : L.sh.length ≤ 1048576) (hql : L.q.length ≤ 1048576) (hg : Gl E w) (htab : Tab w) (her : Er E w w.heap.size) (hlk : lok L = true) (hmk : okB k c to l t d = false) :
    Calls Tryz.prog 9 #[.agg #[.int .i64 L.mem, .int .i64 L.own, .slice sa L.sh.length sc, .int .i64 L.bu, .int .i64 L.wt, .int .i64 L.ac, .slice qa L.q.length qc], .agg #[.int .i64 k, .int .i64 c, .int .i64 to, .int .i64 l, .int .i64 t, .int .i64 d]] w (LnP w zL [] false) := by
  have HB : Hid (Mv nob w w) := hide (Mv.refl _ _)
  have hs0 := hide hs; have hq0 := hide hq; have hg0 := hide hg; have hg4 := hg.lo; clear hs hq hg
  have ht0 := hide htab; have he0 := hide her; clear htab her
  go_enter Tryz.func9, Tryz.ntmps9
  refine sk fun K1 h1 => rl ?_
  refine sbp #[.int .i64 L.mem, .int .i64 L.own, .slice sa L.sh.length sc, .int .i64 L.bu, .int .i64 L.wt, .int .i64 L.ac, .slice qa L.q.length qc] 31 fun V1 b0 hb0 m1 bx0 => ?_
  have o_0 : w.heap.size ≤ b0 := by omega
  clear hb0
  refine sbp #[.int .i64 k, .int .i64 c, .int .i64 to, .int .i64 l, .int .i64 t, .int .i64 d] 36 fun V2 b1 hb1 m2 bx1 => ?_
  have o0_1 := Xlo bx0 hb1
  clear hb1
  refine sbp #[.int .i64 0, .int .i64 0, .slice none 0 0, .int .i64 0, .int .i64 0, .int .i64 0, .slice none 0 0] 31 fun V3 b2 hb2 m3 bx2 => ?_
  have o1_2 := Xlo bx1 hb2
  clear hb2
  refine sv (.slice none 0 0) ?_
  refine sv (.bool false) ?_
  refine nt (h1 _ _ (sk fun K2 h2 => sk fun K3 h3 => rl ?_)); clear h1 K1
  replace bx0 := Xbn (Xbn bx0 m2) m3
  refine sg (.agg #[.int .i64 L.mem, .int .i64 L.own, .slice sa L.sh.length sc, .int .i64 L.bu, .int .i64 L.wt, .int .i64 L.ac, .slice qa L.q.length qc]) (h := by have z0 := cell_box 0 (bx0.out) rfl; have z1 := cell_box 1 (bx0.out) rfl; have z2 := cell_box 2 (bx0.out) rfl; have z3 := cell_box 3 (bx0.out) rfl; have z4 := cell_box 4 (bx0.out) rfl; have z5 := cell_box 5 (bx0.out) rfl; have z6 := cell_box 6 (bx0.out) rfl; go_simp) ?_
  replace HB := Xhn (Xhn (Xhn HB m1) m2) m3
  refine sw_call (by rfl) (by first | rfl | (go_simp; done)) (implLineOk_any L.mem L.own (.slice sa L.sh.length sc) L.sh L.bu L.wt L.ac qa qc L.q.length (f2 L.q) V3 (sg_sl (hs0.out.below HB.out.below)) hsl (sg_sr (hq0.out.below HB.out.below)) hql) ?_
  rintro e V4 ⟨rfl, hbl⟩
  have m4 : Mv (nob) V3 V4 := Mv.of_below hbl
  refine ⟨_, rfl, ?_⟩
  refine pt ?_
  clear hbl
  rw [show lineB L.mem L.own L.sh L.bu L.wt L.ac L.q.length (f2 L.q) = true from hlk]
  refine sg (.bool false) ?_
  refine sv (.bool false) ?_
  replace bx1 := Xbn (Xbn bx1 m3) m4
  refine sl6 bx1 ?_
  replace HB := Xhn HB m4
  refine sw_call (by rfl) (by first | rfl | (go_simp; done)) (implOk_any k c to l t d V4 (ht0.out.mv HB.out)) ?_
  rintro e V5 ⟨rfl, hbl⟩
  have m5 : Mv (nob) V4 V5 := Mv.of_below hbl
  refine ⟨_, rfl, ?_⟩
  refine pt ?_
  clear hbl
  rw [hmk]
  refine sg (.bool true) ?_
  refine sg (.bool true) ?_
  refine sv (.bool true) ?_
  with_reducible refine sp ?_
  with_reducible refine sp ?_
  with_reducible refine sp ?_
  refine sg (.bool true) ?_
  refine nt (h3 _ _ (ct (sk fun K4 h4 => rl ?_))); clear h3 K3
  refine sv (.agg #[.int .i64 0, .int .i64 0, .slice none 0 0, .int .i64 0, .int .i64 0, .int .i64 0, .slice none 0 0]) ?_
  replace bx2 := Xbn (Xbn bx2 m4) m5
  refine ss7 (.int .i64 0) (.int .i64 0) (.slice none 0 0) (.int .i64 0) (.int .i64 0) (.int .i64 0) (.slice none 0 0) bx2 fun V6 m6 bx2 => ?_
  refine sv (.slice none 0 0) ?_
  refine sv (.bool false) ?_
  refine nt (h4 _ _ (wp_ret (then_ret ?_))); clear h4 K4; clear h2 K2
  replace bx0 := Xbb (Xbn (Xbn bx0 m4) m5) m6; replace HB := Xhb (Xhn HB m5) m6; replace bx1 := Xbb (Xbn bx1 m5) m6
  have q2_0 := cell_box 0 bx2.out rfl
  have q2_1 := cell_box 1 bx2.out rfl
  have q2_2 := cell_box 2 bx2.out rfl
  have q2_3 := cell_box 3 bx2.out rfl
  have q2_4 := cell_box 4 bx2.out rfl
  have q2_5 := cell_box 5 bx2.out rfl
  have q2_6 := cell_box 6 bx2.out rfl
  exact bodyPost_ret (v := .tuple #[.agg #[.int .i64 0, .int .i64 0, .slice none 0 0, .int .i64 0, .int .i64 0, .int .i64 0, .slice none 0 0], .slice none 0 0, .bool false]) (by simp [results, Tryz.results9, go_sem, q2_0, q2_1, q2_2, q2_3, q2_4, q2_5, q2_6]) rfl ⟨_, _, _, _, _, _, rfl, rg_nil _ _ _ _, rg_nil _ _ _ _, rg_nil _ _ _ _, zl_apt, HB.out.below⟩

set_option maxRecDepth 20000 in
set_option maxHeartbeats 2000000 in
theorem hgot_home (E : Nat → Addr) (k c to l t d : Int) (L : Hm.Ln) (sa : Option Addr) (sc : Nat) (qa : Option Addr) (qc : Nat) (w : World) (hs : Sg w (.slice sa L.sh.length sc) 1 L.sh.length (gF (f1 L.sh))) (hps : Pl (.slice sa L.sh.length sc) L.sh.length) (hq : Sg w (.slice qa L.q.length qc) 2 L.q.length (gF (f2 L.q))) (hpq : Pl (.slice qa L.q.length qc) L.q.length) (hsl : L.sh.length ≤ 1048576) (hql : L.q.length ≤ 1048576) (hg : Gl E w) (htab : Tab w) (her : Er E w w.heap.size) (hlk : lok L = true) (hmk : okB k c to l t d = true) (hc0 : c = 0) :
    Calls Tryz.prog 9 #[.agg #[.int .i64 L.mem, .int .i64 L.own, .slice sa L.sh.length sc, .int .i64 L.bu, .int .i64 L.wt, .int .i64 L.ac, .slice qa L.q.length qc], .agg #[.int .i64 k, .int .i64 c, .int .i64 to, .int .i64 l, .int .i64 t, .int .i64 d]] w (LnP w zL [] false) := by
  have HB : Hid (Mv nob w w) := hide (Mv.refl _ _)
  have hs0 := hide hs; have hq0 := hide hq; have hg0 := hide hg; have hg4 := hg.lo; clear hs hq hg
  have ht0 := hide htab; have he0 := hide her; clear htab her
  have hcv : Hid ((c == 0) = true) := hide (by simpa using hc0)
  clear hc0
  go_enter Tryz.func9, Tryz.ntmps9
  refine sk fun K1 h1 => rl ?_
  refine sbp #[.int .i64 L.mem, .int .i64 L.own, .slice sa L.sh.length sc, .int .i64 L.bu, .int .i64 L.wt, .int .i64 L.ac, .slice qa L.q.length qc] 31 fun V1 b0 hb0 m1 bx0 => ?_
  have o_0 : w.heap.size ≤ b0 := by omega
  clear hb0
  refine sbp #[.int .i64 k, .int .i64 c, .int .i64 to, .int .i64 l, .int .i64 t, .int .i64 d] 36 fun V2 b1 hb1 m2 bx1 => ?_
  have o0_1 := Xlo bx0 hb1
  clear hb1
  refine sbp #[.int .i64 0, .int .i64 0, .slice none 0 0, .int .i64 0, .int .i64 0, .int .i64 0, .slice none 0 0] 31 fun V3 b2 hb2 m3 bx2 => ?_
  have o1_2 := Xlo bx1 hb2
  clear hb2
  refine sv (.slice none 0 0) ?_
  refine sv (.bool false) ?_
  refine nt (h1 _ _ (sk fun K2 h2 => sk fun K3 h3 => rl ?_)); clear h1 K1
  replace bx0 := Xbn (Xbn bx0 m2) m3
  refine sg (.agg #[.int .i64 L.mem, .int .i64 L.own, .slice sa L.sh.length sc, .int .i64 L.bu, .int .i64 L.wt, .int .i64 L.ac, .slice qa L.q.length qc]) (h := by have z0 := cell_box 0 (bx0.out) rfl; have z1 := cell_box 1 (bx0.out) rfl; have z2 := cell_box 2 (bx0.out) rfl; have z3 := cell_box 3 (bx0.out) rfl; have z4 := cell_box 4 (bx0.out) rfl; have z5 := cell_box 5 (bx0.out) rfl; have z6 := cell_box 6 (bx0.out) rfl; go_simp) ?_
  replace HB := Xhn (Xhn (Xhn HB m1) m2) m3
  refine sw_call (by rfl) (by first | rfl | (go_simp; done)) (implLineOk_any L.mem L.own (.slice sa L.sh.length sc) L.sh L.bu L.wt L.ac qa qc L.q.length (f2 L.q) V3 (sg_sl (hs0.out.below HB.out.below)) hsl (sg_sr (hq0.out.below HB.out.below)) hql) ?_
  rintro e V4 ⟨rfl, hbl⟩
  have m4 : Mv (nob) V3 V4 := Mv.of_below hbl
  refine ⟨_, rfl, ?_⟩
  refine pt ?_
  clear hbl
  rw [show lineB L.mem L.own L.sh L.bu L.wt L.ac L.q.length (f2 L.q) = true from hlk]
  refine sg (.bool false) ?_
  refine sv (.bool false) ?_
  replace bx1 := Xbn (Xbn bx1 m3) m4
  refine sl6 bx1 ?_
  replace HB := Xhn HB m4
  refine sw_call (by rfl) (by first | rfl | (go_simp; done)) (implOk_any k c to l t d V4 (ht0.out.mv HB.out)) ?_
  rintro e V5 ⟨rfl, hbl⟩
  have m5 : Mv (nob) V4 V5 := Mv.of_below hbl
  refine ⟨_, rfl, ?_⟩
  refine pt ?_
  clear hbl
  rw [hmk]
  refine sg (.bool false) ?_
  refine sg (.bool false) ?_
  refine sv (.bool false) ?_
  refine sv (.pointer (some ⟨b1, 1, none⟩)) ?_
  replace bx1 := Xbn bx1 m5
  refine sl 1 bx1 ?_
  refine sg (.bool true) (h := by have hd := hcv.out; go_simp) ?_
  refine sg (.bool true) ?_
  refine nt (h3 _ _ (ct (sk fun K4 h4 => rl ?_))); clear h3 K3
  refine sv (.agg #[.int .i64 0, .int .i64 0, .slice none 0 0, .int .i64 0, .int .i64 0, .int .i64 0, .slice none 0 0]) ?_
  replace bx2 := Xbn (Xbn bx2 m4) m5
  refine ss7 (.int .i64 0) (.int .i64 0) (.slice none 0 0) (.int .i64 0) (.int .i64 0) (.int .i64 0) (.slice none 0 0) bx2 fun V6 m6 bx2 => ?_
  refine sv (.slice none 0 0) ?_
  refine sv (.bool false) ?_
  refine nt (h4 _ _ (wp_ret (then_ret ?_))); clear h4 K4; clear h2 K2
  replace bx0 := Xbb (Xbn (Xbn bx0 m4) m5) m6; replace HB := Xhb (Xhn HB m5) m6; replace bx1 := Xbb bx1 m6
  have q2_0 := cell_box 0 bx2.out rfl
  have q2_1 := cell_box 1 bx2.out rfl
  have q2_2 := cell_box 2 bx2.out rfl
  have q2_3 := cell_box 3 bx2.out rfl
  have q2_4 := cell_box 4 bx2.out rfl
  have q2_5 := cell_box 5 bx2.out rfl
  have q2_6 := cell_box 6 bx2.out rfl
  exact bodyPost_ret (v := .tuple #[.agg #[.int .i64 0, .int .i64 0, .slice none 0 0, .int .i64 0, .int .i64 0, .int .i64 0, .slice none 0 0], .slice none 0 0, .bool false]) (by simp [results, Tryz.results9, go_sem, q2_0, q2_1, q2_2, q2_3, q2_4, q2_5, q2_6]) rfl ⟨_, _, _, _, _, _, rfl, rg_nil _ _ _ _, rg_nil _ _ _ _, rg_nil _ _ _ _, zl_apt, HB.out.below⟩

set_option maxRecDepth 20000 in
set_option maxHeartbeats 2000000 in
theorem hgot_yes (E : Nat → Addr) (k c to l t d : Int) (L : Hm.Ln) (sa : Option Addr) (sc : Nat) (qa : Option Addr) (qc : Nat) (w : World) (hs : Sg w (.slice sa L.sh.length sc) 1 L.sh.length (gF (f1 L.sh))) (hps : Pl (.slice sa L.sh.length sc) L.sh.length) (hq : Sg w (.slice qa L.q.length qc) 2 L.q.length (gF (f2 L.q))) (hpq : Pl (.slice qa L.q.length qc) L.q.length) (hsl : L.sh.length ≤ 1048576) (hql : L.q.length ≤ 1048576) (hg : Gl E w) (htab : Tab w) (her : Er E w w.heap.size) (hlk : lok L = true) (hmk : okB k c to l t d = true) (hk : k = 1 ∨ k = 2 ∨ k = 3 ∨ k = 6 ∨ k = 7) (hc1 : 1 ≤ c) (hc5 : c ≤ 5) (hB : (Hm.gotR L k c l d).1 = true) :
    Calls Tryz.prog 9 #[.agg #[.int .i64 L.mem, .int .i64 L.own, .slice sa L.sh.length sc, .int .i64 L.bu, .int .i64 L.wt, .int .i64 L.ac, .slice qa L.q.length qc], .agg #[.int .i64 k, .int .i64 c, .int .i64 to, .int .i64 l, .int .i64 t, .int .i64 d]] w (LnP w (Hm.gotR L k c l d).2.1 (Hm.gotR L k c l d).2.2 true) := by
  have HB : Hid (Mv nob w w) := hide (Mv.refl _ _)
  have hs0 := hide hs; have hq0 := hide hq; have hg0 := hide hg; have hg4 := hg.lo; clear hs hq hg
  have ht0 := hide htab; have he0 := hide her; clear htab her
  have hcv : Hid ((c == 0) = false) := hide (by simp; omega)
  go_enter Tryz.func9, Tryz.ntmps9
  refine sk fun K1 h1 => rl ?_
  refine sbp #[.int .i64 L.mem, .int .i64 L.own, .slice sa L.sh.length sc, .int .i64 L.bu, .int .i64 L.wt, .int .i64 L.ac, .slice qa L.q.length qc] 31 fun V1 b0 hb0 m1 bx0 => ?_
  have o_0 : w.heap.size ≤ b0 := by omega
  clear hb0
  refine sbp #[.int .i64 k, .int .i64 c, .int .i64 to, .int .i64 l, .int .i64 t, .int .i64 d] 36 fun V2 b1 hb1 m2 bx1 => ?_
  have o0_1 := Xlo bx0 hb1
  clear hb1
  refine sbp #[.int .i64 0, .int .i64 0, .slice none 0 0, .int .i64 0, .int .i64 0, .int .i64 0, .slice none 0 0] 31 fun V3 b2 hb2 m3 bx2 => ?_
  have o1_2 := Xlo bx1 hb2
  clear hb2
  refine sv (.slice none 0 0) ?_
  refine sv (.bool false) ?_
  refine nt (h1 _ _ (sk fun K2 h2 => sk fun K3 h3 => rl ?_)); clear h1 K1
  replace bx0 := Xbn (Xbn bx0 m2) m3
  refine sg (.agg #[.int .i64 L.mem, .int .i64 L.own, .slice sa L.sh.length sc, .int .i64 L.bu, .int .i64 L.wt, .int .i64 L.ac, .slice qa L.q.length qc]) (h := by have z0 := cell_box 0 (bx0.out) rfl; have z1 := cell_box 1 (bx0.out) rfl; have z2 := cell_box 2 (bx0.out) rfl; have z3 := cell_box 3 (bx0.out) rfl; have z4 := cell_box 4 (bx0.out) rfl; have z5 := cell_box 5 (bx0.out) rfl; have z6 := cell_box 6 (bx0.out) rfl; go_simp) ?_
  replace HB := Xhn (Xhn (Xhn HB m1) m2) m3
  refine sw_call (by rfl) (by first | rfl | (go_simp; done)) (implLineOk_any L.mem L.own (.slice sa L.sh.length sc) L.sh L.bu L.wt L.ac qa qc L.q.length (f2 L.q) V3 (sg_sl (hs0.out.below HB.out.below)) hsl (sg_sr (hq0.out.below HB.out.below)) hql) ?_
  rintro e V4 ⟨rfl, hbl⟩
  have m4 : Mv (nob) V3 V4 := Mv.of_below hbl
  refine ⟨_, rfl, ?_⟩
  refine pt ?_
  clear hbl
  rw [show lineB L.mem L.own L.sh L.bu L.wt L.ac L.q.length (f2 L.q) = true from hlk]
  refine sg (.bool false) ?_
  refine sv (.bool false) ?_
  replace bx1 := Xbn (Xbn bx1 m3) m4
  refine sl6 bx1 ?_
  replace HB := Xhn HB m4
  refine sw_call (by rfl) (by first | rfl | (go_simp; done)) (implOk_any k c to l t d V4 (ht0.out.mv HB.out)) ?_
  rintro e V5 ⟨rfl, hbl⟩
  have m5 : Mv (nob) V4 V5 := Mv.of_below hbl
  refine ⟨_, rfl, ?_⟩
  refine pt ?_
  clear hbl
  rw [hmk]
  refine sg (.bool false) ?_
  refine sg (.bool false) ?_
  refine sv (.bool false) ?_
  refine sv (.pointer (some ⟨b1, 1, none⟩)) ?_
  replace bx1 := Xbn bx1 m5
  refine sl 1 bx1 ?_
  refine sg (.bool false) (h := by have hd := hcv.out; go_simp) ?_
  refine sg (.bool false) ?_
  refine nt (h3 _ _ (cf (wp_skip (then_normal (h2 _ _ (sk fun K4 h4 => rl ?_)))))); clear h3 K3; clear h2 K2
  replace bx0 := Xbn (Xbn bx0 m4) m5; replace bx2 := Xbn (Xbn bx2 m4) m5; replace HB := Xhn HB m5
  refine sg (.agg #[.int .i64 L.mem, .int .i64 L.own, .slice sa L.sh.length sc, .int .i64 L.bu, .int .i64 L.wt, .int .i64 L.ac, .slice qa L.q.length qc]) (h := by have z0 := cell_box 0 (bx0.out) rfl; have z1 := cell_box 1 (bx0.out) rfl; have z2 := cell_box 2 (bx0.out) rfl; have z3 := cell_box 3 (bx0.out) rfl; have z4 := cell_box 4 (bx0.out) rfl; have z5 := cell_box 5 (bx0.out) rfl; have z6 := cell_box 6 (bx0.out) rfl; go_simp) ?_
  refine sv (.pointer (some ⟨b1, 3, none⟩)) ?_
  refine sl 3 bx1 ?_
  have szV := HB.out.size
  have b2z := lt_of_block bx2.out
  refine sw_call (by rfl) (by first | rfl | (go_simp; done)) (homeOf_any E l L sa sc qa qc V5 (hs0.out.below HB.out.below) hps (hq0.out.below HB.out.below) hpq hsl hql (hg0.out.mv HB.out (fun _ _ h => h))) ?_
  rintro e V6 ⟨hb, sa1, sc1, qa1, qc1, rfl, hr0, hbl⟩
  have m6 : Mv (nob) V5 V6 := Mv.of_below hbl
  refine ⟨_, rfl, ?_⟩
  refine pt ?_
  obtain ⟨N0, hN0⟩ : ∃ N, V5.heap.size = N := ⟨_, rfl⟩
  rw [hN0] at szV b2z hr0
  clear hN0
  have HR := hide hr0
  clear hr0 hbl
  refine sv (.pointer (some ⟨hb, 0, none⟩)) ?_
  refine nt (h4 _ _ (sk fun K5 h5 => rl ?_)); clear h4 K4
  replace HB := Xhn HB m6; replace bx0 := Xbn bx0 m6; replace bx1 := Xbn bx1 m6; replace bx2 := Xbn bx2 m6
  have HBB := fun g h => (HR.out.lt g h).1
  have ER := (he0.out.mv HB.out (fun _ _ h => h)).up szV
  have hlc := hlk
  obtain ⟨X, hX⟩ : ∃ X, (Hm.gotR L k c l d).2.1 = X := ⟨_, rfl⟩
  obtain ⟨M, hM⟩ : ∃ M, (Hm.gotR L k c l d).2.2 = M := ⟨_, rfl⟩
  refine sv (.pointer (some ⟨hb, 0, none⟩)) ?_
  refine sv (.pointer (some ⟨hb, 0, none⟩)) ?_
  refine sl6 bx1 ?_
  refine sw_call (by rfl) (by first | rfl | (go_simp; done)) (got_yes E N0 hb L l _ _ _ _ _ _ V6 k c to l t d HR.out hlk hk hc1 hc5 ER hB) ?_
  rintro e V7 ⟨sa2, sc2, qa2, qc2, ta2, tc2, rfl, hr1, hfr, hmv⟩
  have m7 : Mv (Hb hb (.slice sa1 L.sh.length sc1) (.slice qa1 L.q.length qc1) (.slice none 0 0)) V6 V7 := hmv
  refine ⟨_, rfl, ?_⟩
  refine pt ?_
  replace HB := hide (HB.out.step m7 (fun g hg e => by have := HBB g e; omega))
  replace bx0 := hide (m7.box bx0.out (fun h => by have := HBB _ h; omega))
  replace bx1 := hide (m7.box bx1.out (fun h => by have := HBB _ h; omega))
  replace bx2 := hide (m7.box bx2.out (fun h => by have := HBB _ h; omega))
  rw [hX, hM] at hr1
  replace HR := hide hr1
  clear hr1 hfr hmv
  refine sw_call (by rfl) (by first | rfl | (go_simp; done)) (answer_nil E N0 hb X l M _ _ _ _ _ _ V7 HR.out) ?_
  rintro e V8 ⟨rfl, hr2, hmv⟩
  have m8 : Mv (nob) V7 V8 := hmv
  refine ⟨_, rfl, ?_⟩
  refine pt ?_
  replace HR := hide (HR.out.mv m8 (fun _ _ h => h) (fun _ _ h => h))
  clear hmv hr2
  refine sv (.agg #[.int .i64 X.mem, .int .i64 X.own, .slice sa2 X.sh.length sc2, .int .i64 X.bu, .int .i64 X.wt, .int .i64 X.ac, .slice qa2 X.q.length qc2]) ?_
  refine sv (.slice ta2 M.length tc2) ?_
  refine sv (.bool true) ?_
  replace bx2 := Xbn bx2 m8
  refine ss7 (.int .i64 X.mem) (.int .i64 X.own) (.slice sa2 X.sh.length sc2) (.int .i64 X.bu) (.int .i64 X.wt) (.int .i64 X.ac) (.slice qa2 X.q.length qc2) bx2 fun V9 m9 bx2 => ?_
  replace HR := hide (HR.out.mv m9 (fun g hg h => by have h : g = b2 := h; have := (HR.out.lt g hg).1; omega) (fun g hg h => by have h : g = b2 := h; omega))
  refine sv (.slice ta2 M.length tc2) ?_
  refine sv (.bool true) ?_
  refine nt (h5 _ _ (wp_ret ?_)); clear h5 K5
  replace HB := Xhb (Xhn HB m8) m9; replace bx0 := Xbb (Xbn bx0 m8) m9; replace bx1 := Xbb (Xbn bx1 m8) m9
  rw [hX, hM]
  have q2_0 := cell_box 0 bx2.out rfl
  have q2_1 := cell_box 1 bx2.out rfl
  have q2_2 := cell_box 2 bx2.out rfl
  have q2_3 := cell_box 3 bx2.out rfl
  have q2_4 := cell_box 4 bx2.out rfl
  have q2_5 := cell_box 5 bx2.out rfl
  have q2_6 := cell_box 6 bx2.out rfl
  exact bodyPost_ret (v := .tuple #[.agg #[.int .i64 X.mem, .int .i64 X.own, .slice sa2 X.sh.length sc2, .int .i64 X.bu, .int .i64 X.wt, .int .i64 X.ac, .slice qa2 X.q.length qc2], .slice ta2 M.length tc2, .bool true]) (by simp [results, Tryz.results9, go_sem, q2_0, q2_1, q2_2, q2_3, q2_4, q2_5, q2_6]) rfl ⟨_, _, _, _, _, _, rfl, HR.out.rs.base szV, HR.out.rq.base szV, HR.out.rt.base szV, HR.out.ap.2, HB.out.below⟩

set_option maxRecDepth 20000 in
set_option maxHeartbeats 2000000 in
theorem hgot_no (E : Nat → Addr) (k c to l t d : Int) (L : Hm.Ln) (sa : Option Addr) (sc : Nat) (qa : Option Addr) (qc : Nat) (w : World) (hs : Sg w (.slice sa L.sh.length sc) 1 L.sh.length (gF (f1 L.sh))) (hps : Pl (.slice sa L.sh.length sc) L.sh.length) (hq : Sg w (.slice qa L.q.length qc) 2 L.q.length (gF (f2 L.q))) (hpq : Pl (.slice qa L.q.length qc) L.q.length) (hsl : L.sh.length ≤ 1048576) (hql : L.q.length ≤ 1048576) (hg : Gl E w) (htab : Tab w) (her : Er E w w.heap.size) (hlk : lok L = true) (hmk : okB k c to l t d = true) (hk : k = 1 ∨ k = 2 ∨ k = 3 ∨ k = 6 ∨ k = 7) (hc1 : 1 ≤ c) (hc5 : c ≤ 5) (hB : (Hm.gotR L k c l d).1 = false) :
    Calls Tryz.prog 9 #[.agg #[.int .i64 L.mem, .int .i64 L.own, .slice sa L.sh.length sc, .int .i64 L.bu, .int .i64 L.wt, .int .i64 L.ac, .slice qa L.q.length qc], .agg #[.int .i64 k, .int .i64 c, .int .i64 to, .int .i64 l, .int .i64 t, .int .i64 d]] w (LnP w zL [] false) := by
  have HB : Hid (Mv nob w w) := hide (Mv.refl _ _)
  have hs0 := hide hs; have hq0 := hide hq; have hg0 := hide hg; have hg4 := hg.lo; clear hs hq hg
  have ht0 := hide htab; have he0 := hide her; clear htab her
  have hcv : Hid ((c == 0) = false) := hide (by simp; omega)
  go_enter Tryz.func9, Tryz.ntmps9
  refine sk fun K1 h1 => rl ?_
  refine sbp #[.int .i64 L.mem, .int .i64 L.own, .slice sa L.sh.length sc, .int .i64 L.bu, .int .i64 L.wt, .int .i64 L.ac, .slice qa L.q.length qc] 31 fun V1 b0 hb0 m1 bx0 => ?_
  have o_0 : w.heap.size ≤ b0 := by omega
  clear hb0
  refine sbp #[.int .i64 k, .int .i64 c, .int .i64 to, .int .i64 l, .int .i64 t, .int .i64 d] 36 fun V2 b1 hb1 m2 bx1 => ?_
  have o0_1 := Xlo bx0 hb1
  clear hb1
  refine sbp #[.int .i64 0, .int .i64 0, .slice none 0 0, .int .i64 0, .int .i64 0, .int .i64 0, .slice none 0 0] 31 fun V3 b2 hb2 m3 bx2 => ?_
  have o1_2 := Xlo bx1 hb2
  clear hb2
  refine sv (.slice none 0 0) ?_
  refine sv (.bool false) ?_
  refine nt (h1 _ _ (sk fun K2 h2 => sk fun K3 h3 => rl ?_)); clear h1 K1
  replace bx0 := Xbn (Xbn bx0 m2) m3
  refine sg (.agg #[.int .i64 L.mem, .int .i64 L.own, .slice sa L.sh.length sc, .int .i64 L.bu, .int .i64 L.wt, .int .i64 L.ac, .slice qa L.q.length qc]) (h := by have z0 := cell_box 0 (bx0.out) rfl; have z1 := cell_box 1 (bx0.out) rfl; have z2 := cell_box 2 (bx0.out) rfl; have z3 := cell_box 3 (bx0.out) rfl; have z4 := cell_box 4 (bx0.out) rfl; have z5 := cell_box 5 (bx0.out) rfl; have z6 := cell_box 6 (bx0.out) rfl; go_simp) ?_
  replace HB := Xhn (Xhn (Xhn HB m1) m2) m3
  refine sw_call (by rfl) (by first | rfl | (go_simp; done)) (implLineOk_any L.mem L.own (.slice sa L.sh.length sc) L.sh L.bu L.wt L.ac qa qc L.q.length (f2 L.q) V3 (sg_sl (hs0.out.below HB.out.below)) hsl (sg_sr (hq0.out.below HB.out.below)) hql) ?_
  rintro e V4 ⟨rfl, hbl⟩
  have m4 : Mv (nob) V3 V4 := Mv.of_below hbl
  refine ⟨_, rfl, ?_⟩
  refine pt ?_
  clear hbl
  rw [show lineB L.mem L.own L.sh L.bu L.wt L.ac L.q.length (f2 L.q) = true from hlk]
  refine sg (.bool false) ?_
  refine sv (.bool false) ?_
  replace bx1 := Xbn (Xbn bx1 m3) m4
  refine sl6 bx1 ?_
  replace HB := Xhn HB m4
  refine sw_call (by rfl) (by first | rfl | (go_simp; done)) (implOk_any k c to l t d V4 (ht0.out.mv HB.out)) ?_
  rintro e V5 ⟨rfl, hbl⟩
  have m5 : Mv (nob) V4 V5 := Mv.of_below hbl
  refine ⟨_, rfl, ?_⟩
  refine pt ?_
  clear hbl
  rw [hmk]
  refine sg (.bool false) ?_
  refine sg (.bool false) ?_
  refine sv (.bool false) ?_
  refine sv (.pointer (some ⟨b1, 1, none⟩)) ?_
  replace bx1 := Xbn bx1 m5
  refine sl 1 bx1 ?_
  refine sg (.bool false) (h := by have hd := hcv.out; go_simp) ?_
  refine sg (.bool false) ?_
  refine nt (h3 _ _ (cf (wp_skip (then_normal (h2 _ _ (sk fun K4 h4 => rl ?_)))))); clear h3 K3; clear h2 K2
  replace bx0 := Xbn (Xbn bx0 m4) m5; replace bx2 := Xbn (Xbn bx2 m4) m5; replace HB := Xhn HB m5
  refine sg (.agg #[.int .i64 L.mem, .int .i64 L.own, .slice sa L.sh.length sc, .int .i64 L.bu, .int .i64 L.wt, .int .i64 L.ac, .slice qa L.q.length qc]) (h := by have z0 := cell_box 0 (bx0.out) rfl; have z1 := cell_box 1 (bx0.out) rfl; have z2 := cell_box 2 (bx0.out) rfl; have z3 := cell_box 3 (bx0.out) rfl; have z4 := cell_box 4 (bx0.out) rfl; have z5 := cell_box 5 (bx0.out) rfl; have z6 := cell_box 6 (bx0.out) rfl; go_simp) ?_
  refine sv (.pointer (some ⟨b1, 3, none⟩)) ?_
  refine sl 3 bx1 ?_
  have szV := HB.out.size
  have b2z := lt_of_block bx2.out
  refine sw_call (by rfl) (by first | rfl | (go_simp; done)) (homeOf_any E l L sa sc qa qc V5 (hs0.out.below HB.out.below) hps (hq0.out.below HB.out.below) hpq hsl hql (hg0.out.mv HB.out (fun _ _ h => h))) ?_
  rintro e V6 ⟨hb, sa1, sc1, qa1, qc1, rfl, hr0, hbl⟩
  have m6 : Mv (nob) V5 V6 := Mv.of_below hbl
  refine ⟨_, rfl, ?_⟩
  refine pt ?_
  obtain ⟨N0, hN0⟩ : ∃ N, V5.heap.size = N := ⟨_, rfl⟩
  rw [hN0] at szV b2z hr0
  clear hN0
  have HR := hide hr0
  clear hr0 hbl
  refine sv (.pointer (some ⟨hb, 0, none⟩)) ?_
  refine nt (h4 _ _ (sk fun K5 h5 => rl ?_)); clear h4 K4
  replace HB := Xhn HB m6; replace bx0 := Xbn bx0 m6; replace bx1 := Xbn bx1 m6; replace bx2 := Xbn bx2 m6
  have HBB := fun g h => (HR.out.lt g h).1
  have ER := (he0.out.mv HB.out (fun _ _ h => h)).up szV
  have hlc := hlk
  refine sv (.pointer (some ⟨hb, 0, none⟩)) ?_
  refine sv (.pointer (some ⟨hb, 0, none⟩)) ?_
  refine sl6 bx1 ?_
  refine sw_call (by rfl) (by first | rfl | (go_simp; done)) (got_no E N0 hb L l _ _ _ _ _ _ V6 k c to l t d HR.out hlk hk hc1 hc5 ER hB) ?_
  rintro e V7 ⟨L2, ms2, c2, p2, sa2, sc2, qa2, qc2, ta2, tc2, rfl, hr1, hfr, hmv⟩
  have m7 : Mv (Hb hb (.slice sa1 L.sh.length sc1) (.slice qa1 L.q.length qc1) (.slice none 0 0)) V6 V7 := hmv
  refine ⟨_, rfl, ?_⟩
  refine pt ?_
  replace HB := hide (HB.out.step m7 (fun g hg e => by have := HBB g e; omega))
  replace bx0 := hide (m7.box bx0.out (fun h => by have := HBB _ h; omega))
  replace bx1 := hide (m7.box bx1.out (fun h => by have := HBB _ h; omega))
  replace bx2 := hide (m7.box bx2.out (fun h => by have := HBB _ h; omega))
  replace HR := hide hr1
  clear hr1 hfr hmv
  refine sw_call (by rfl) (by first | rfl | (go_simp; done)) (answer_no E N0 hb L2 l ms2 _ _ _ _ _ _ V7 c2 p2 HR.out) ?_
  rintro e V8 ⟨rfl, hmv⟩
  have m8 : Mv (nob) V7 V8 := hmv
  refine ⟨_, rfl, ?_⟩
  refine pt ?_
  replace HR := hide (HR.out.mv m8 (fun _ _ h => h) (fun _ _ h => h))
  clear hmv
  refine sv (.agg #[.int .i64 0, .int .i64 0, .slice none 0 0, .int .i64 0, .int .i64 0, .int .i64 0, .slice none 0 0]) ?_
  refine sv (.slice none 0 0) ?_
  refine sv (.bool false) ?_
  replace bx2 := Xbn bx2 m8
  refine ss7 (.int .i64 0) (.int .i64 0) (.slice none 0 0) (.int .i64 0) (.int .i64 0) (.int .i64 0) (.slice none 0 0) bx2 fun V9 m9 bx2 => ?_
  replace HR := hide (HR.out.mv m9 (fun g hg h => by have h : g = b2 := h; have := (HR.out.lt g hg).1; omega) (fun g hg h => by have h : g = b2 := h; omega))
  refine sv (.slice none 0 0) ?_
  refine sv (.bool false) ?_
  refine nt (h5 _ _ (wp_ret ?_)); clear h5 K5
  replace HB := Xhb (Xhn HB m8) m9; replace bx0 := Xbb (Xbn bx0 m8) m9; replace bx1 := Xbb (Xbn bx1 m8) m9
  have q2_0 := cell_box 0 bx2.out rfl
  have q2_1 := cell_box 1 bx2.out rfl
  have q2_2 := cell_box 2 bx2.out rfl
  have q2_3 := cell_box 3 bx2.out rfl
  have q2_4 := cell_box 4 bx2.out rfl
  have q2_5 := cell_box 5 bx2.out rfl
  have q2_6 := cell_box 6 bx2.out rfl
  exact bodyPost_ret (v := .tuple #[.agg #[.int .i64 0, .int .i64 0, .slice none 0 0, .int .i64 0, .int .i64 0, .int .i64 0, .slice none 0 0], .slice none 0 0, .bool false]) (by simp [results, Tryz.results9, go_sem, q2_0, q2_1, q2_2, q2_3, q2_4, q2_5, q2_6]) rfl ⟨_, _, _, _, _, _, rfl, rg_nil _ _ _ _, rg_nil _ _ _ _, rg_nil _ _ _ _, zl_apt, HB.out.below⟩

theorem implHomeGot_any (E : Nat → Addr) (k c to l t d : Int) (L : Hm.Ln) (sa : Option Addr) (sc : Nat) (qa : Option Addr) (qc : Nat) (w : World) (hs : Sg w (.slice sa L.sh.length sc) 1 L.sh.length (gF (f1 L.sh))) (hps : Pl (.slice sa L.sh.length sc) L.sh.length) (hq : Sg w (.slice qa L.q.length qc) 2 L.q.length (gF (f2 L.q))) (hpq : Pl (.slice qa L.q.length qc) L.q.length) (hsl : L.sh.length ≤ 1048576) (hql : L.q.length ≤ 1048576) (hg : Gl E w) (htab : Tab w) (her : Er E w w.heap.size) :
    Calls Tryz.prog 9 #[.agg #[.int .i64 L.mem, .int .i64 L.own, .slice sa L.sh.length sc, .int .i64 L.bu, .int .i64 L.wt, .int .i64 L.ac, .slice qa L.q.length qc], .agg #[.int .i64 k, .int .i64 c, .int .i64 to, .int .i64 l, .int .i64 t, .int .i64 d]] w (LnP w (hgL L k c to l t d) (hgM L k c to l t d) (hgB L k c to l t d)) := by
  cases hlk : lok L with
  | false =>
    have hB2 : hgB L k c to l t d = false := by simp [hgB, hlk]
    rw [show hgL L k c to l t d = zL from by simp [hgL, hB2], show hgM L k c to l t d = [] from by simp [hgM, hB2], hB2]
    exact hgot_lok E k c to l t d L sa sc qa qc w hs hps hq hpq hsl hql hg htab her hlk
  | true =>
    cases hmk : okB k c to l t d with
    | false =>
      have hB2 : hgB L k c to l t d = false := by simp [hgB, hlk, hmk]
      rw [show hgL L k c to l t d = zL from by simp [hgL, hB2], show hgM L k c to l t d = [] from by simp [hgM, hB2], hB2]
      exact hgot_msg E k c to l t d L sa sc qa qc w hs hps hq hpq hsl hql hg htab her hlk hmk
    | true =>
      rcases ok_kind hmk with ⟨hh, hk, hc1, hc5⟩ | ⟨hh, hc0⟩
      · cases hB : (Hm.gotR L k c l d).1 with
        | true =>
          have hB2 : hgB L k c to l t d = true := by simp [hgB, hlk, hmk, hh, hB]
          rw [show hgL L k c to l t d = (Hm.gotR L k c l d).2.1 from by simp [hgL, hB2], show hgM L k c to l t d = (Hm.gotR L k c l d).2.2 from by simp [hgM, hB2], hB2]
          exact hgot_yes E k c to l t d L sa sc qa qc w hs hps hq hpq hsl hql hg htab her hlk hmk hk hc1 hc5 hB
        | false =>
          have hB2 : hgB L k c to l t d = false := by simp [hgB, hlk, hmk, hh, hB]
          rw [show hgL L k c to l t d = zL from by simp [hgL, hB2], show hgM L k c to l t d = [] from by simp [hgM, hB2], hB2]
          exact hgot_no E k c to l t d L sa sc qa qc w hs hps hq hpq hsl hql hg htab her hlk hmk hk hc1 hc5 hB
      · skip
        have hB2 : hgB L k c to l t d = false := by simp [hgB, hlk, hmk, hh]
        rw [show hgL L k c to l t d = zL from by simp [hgL, hB2], show hgM L k c to l t d = [] from by simp [hgM, hB2], hB2]
        exact hgot_home E k c to l t d L sa sc qa qc w hs hps hq hpq hsl hql hg htab her hlk hmk hc0
end Go.Proofs.YtlalldlbgnlbjaaGreatDoor
