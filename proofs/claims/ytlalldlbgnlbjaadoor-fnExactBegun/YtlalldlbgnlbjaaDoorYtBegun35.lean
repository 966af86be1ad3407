/- HmK -/
import Derived.Test.YtlalldlbgnlbjaaDoorYtBegun34
/- the model's Begun (written by mkHmK.py) -/
namespace Go.Proofs.YtlalldlbgnlbjaaDoor
open Go.RowKit
set_option linter.unusedVariables false
set_option linter.unusedSimpArgs false

theorem Mv.le {S : Nat → Prop} {w v : World} {c : Nat} (h : Mv S w v) (e : v.heap.size = c) : w.heap.size ≤ c := e ▸ h.size
theorem in_any2 (n a b : Int) (w : World) : Calls Tryd.prog 26 #[.int .i64 n, .int .i64 a, .int .i64 b] w fun e w' => e = .returned (.bool (inB n a b)) ∧ Below w.heap.size w w' :=
  (in_any n a b w).mono fun e w' h => ⟨h.1, by rw [h.2]; exact Below.refl _ _⟩
theorem req_t {c t : Int} (h : reqB c t = true) : (1 ≤ c ∧ c ≤ 5) ∧ (t = 1 ∨ t = 2) := by
  have h2 : inB c 1 5 = true ∧ inB t 1 2 = true := Bool.and_eq_true _ _ ▸ h
  refine ⟨by simpa [inB] using h2.1, ?_⟩
  have : 1 ≤ t ∧ t ≤ 2 := by simpa [inB] using h2.2
  omega

set_option maxRecDepth 20000 in
set_option maxHeartbeats 2000000 in
theorem sbegun_lok (line c t : Int) (L : Hm.Ln) (sa : Option Addr) (sc : Nat) (qa : Option Addr) (qc : Nat) (w : World) (hs : Sg w (.slice sa L.sh.length sc) 1 L.sh.length (gF (f1 L.sh))) (hfs : Gf (.slice sa L.sh.length sc) L.sh.length) (hq : Sg w (.slice qa L.q.length qc) 2 L.q.length (gF (f2 L.q))) (hfq : Gf (.slice qa L.q.length qc) L.q.length) (hsl : L.sh.length ≤ 1048576) (hql : L.q.length ≤ 1048576) (hlk : lok L = false) :
    Calls Tryd.prog 6 #[.agg #[.int .i64 L.mem, .int .i64 L.own, .slice sa L.sh.length sc, .int .i64 L.bu, .int .i64 L.wt, .int .i64 L.ac, .slice qa L.q.length qc], .int .i64 line, .agg #[.int .i64 c, .int .i64 t]] w (LnP w zL [] false) := by
  have HB : Hid (Mv nob w w) := hide (Mv.refl _ _)
  have hs0 := hide hs; have hq0 := hide hq; clear hs hq
  go_enter Tryd.func6, Tryd.ntmps6
  refine sk fun K1 h1 => rl ?_
  refine sbp #[.int .i64 L.mem, .int .i64 L.own, .slice sa L.sh.length sc, .int .i64 L.bu, .int .i64 L.wt, .int .i64 L.ac, .slice qa L.q.length qc] 31 fun V1 b0 hb0 m1 bx0 => ?_
  have o_0 : w.heap.size ≤ b0 := by omega
  clear hb0
  refine sbp #[.int .i64 c, .int .i64 t] 36 fun V2 b1 hb1 m2 bx1 => ?_
  have o0_1 := Xlo bx0 hb1
  clear hb1
  refine sbp #[.int .i64 0, .int .i64 0, .slice none 0 0, .int .i64 0, .int .i64 0, .int .i64 0, .slice none 0 0] 31 fun V3 b2 hb2 m3 bx2 => ?_
  have o1_2 := Xlo bx1 hb2
  clear hb2
  refine sv (.slice none 0 0) ?_
  refine sv (.bool false) ?_
  refine nt (h1 _ _ (sk fun K2 h2 => sk fun K3 h3 => rl ?_)); clear h1 K1
  replace bx0 := Xbn (Xbn bx0 m2) m3
  refine sg (.agg #[.int .i64 L.mem, .int .i64 L.own, .slice sa L.sh.length sc, .int .i64 L.bu, .int .i64 L.wt, .int .i64 L.ac, .slice qa L.q.length qc]) (h := by have z0 := cell_box 0 (bx0.out) rfl; have z1 := cell_box 1 (bx0.out) rfl; have z2 := cell_box 2 (bx0.out) rfl; have z3 := cell_box 3 (bx0.out) rfl; have z4 := cell_box 4 (bx0.out) rfl; have z5 := cell_box 5 (bx0.out) rfl; have z6 := cell_box 6 (bx0.out) rfl; go_simp) ?_
  replace HB := Xhn (Xhn (Xhn HB m1) m2) m3
  refine sw_call (by rfl) (by first | rfl | (go_simp; done)) (specLineOk_any L.mem L.own (.slice sa L.sh.length sc) L.sh L.bu L.wt L.ac qa qc L.q.length (f2 L.q) V3 (sg_sl (hs0.out.below HB.out.below)) hsl (sg_sr (hq0.out.below HB.out.below)) hql) ?_
  rintro e V4 ⟨rfl, hbl⟩
  have m4 : Mv (nob) V3 V4 := Mv.of_below hbl
  refine ⟨_, rfl, ?_⟩
  refine pt ?_
  clear hbl
  rw [show lineB L.mem L.own L.sh L.bu L.wt L.ac L.q.length (f2 L.q) = false from hlk]
  refine sg (.bool true) ?_
  refine sv (.bool true) ?_
  with_reducible refine sp ?_
  with_reducible refine sp ?_
  with_reducible refine sp ?_
  refine sg (.bool true) ?_
  refine sv (.bool true) ?_
  with_reducible refine sp ?_
  with_reducible refine sp ?_
  with_reducible refine sp ?_
  refine sg (.bool true) ?_
  refine sv (.bool true) ?_
  with_reducible refine sp ?_
  with_reducible refine sp ?_
  with_reducible refine sp ?_
  refine sg (.bool true) ?_
  refine nt (h3 _ _ (ct (sk fun K4 h4 => rl ?_))); clear h3 K3
  refine sv (.agg #[.int .i64 0, .int .i64 0, .slice none 0 0, .int .i64 0, .int .i64 0, .int .i64 0, .slice none 0 0]) ?_
  replace bx2 := Xbn bx2 m4
  refine ss7 (.int .i64 0) (.int .i64 0) (.slice none 0 0) (.int .i64 0) (.int .i64 0) (.int .i64 0) (.slice none 0 0) bx2 fun V5 m5 bx2 => ?_
  refine sv (.slice none 0 0) ?_
  refine sv (.bool false) ?_
  refine nt (h4 _ _ (wp_ret (then_ret ?_))); clear h4 K4; clear h2 K2
  replace bx1 := Xbb (Xbn (Xbn bx1 m3) m4) m5; replace HB := Xhb (Xhn HB m4) m5; replace bx0 := Xbb (Xbn bx0 m4) m5
  have q2_0 := cell_box 0 bx2.out rfl
  have q2_1 := cell_box 1 bx2.out rfl
  have q2_2 := cell_box 2 bx2.out rfl
  have q2_3 := cell_box 3 bx2.out rfl
  have q2_4 := cell_box 4 bx2.out rfl
  have q2_5 := cell_box 5 bx2.out rfl
  have q2_6 := cell_box 6 bx2.out rfl
  exact bodyPost_ret (v := .tuple #[.agg #[.int .i64 0, .int .i64 0, .slice none 0 0, .int .i64 0, .int .i64 0, .int .i64 0, .slice none 0 0], .slice none 0 0, .bool false]) (by simp [results, Tryd.results6, go_sem, q2_0, q2_1, q2_2, q2_3, q2_4, q2_5, q2_6]) rfl ⟨_, _, _, _, _, _, rfl, rg_nil _ _ _ _, rg_nil _ _ _ _, rg_nil _ _ _ _, zl_apt, HB.out.below⟩

set_option maxRecDepth 20000 in
set_option maxHeartbeats 2000000 in
theorem sbegun_line (line c t : Int) (L : Hm.Ln) (sa : Option Addr) (sc : Nat) (qa : Option Addr) (qc : Nat) (w : World) (hs : Sg w (.slice sa L.sh.length sc) 1 L.sh.length (gF (f1 L.sh))) (hfs : Gf (.slice sa L.sh.length sc) L.sh.length) (hq : Sg w (.slice qa L.q.length qc) 2 L.q.length (gF (f2 L.q))) (hfq : Gf (.slice qa L.q.length qc) L.q.length) (hsl : L.sh.length ≤ 1048576) (hql : L.q.length ≤ 1048576) (hlk : lok L = true) (hil : inB line 0 3 = false) :
    Calls Tryd.prog 6 #[.agg #[.int .i64 L.mem, .int .i64 L.own, .slice sa L.sh.length sc, .int .i64 L.bu, .int .i64 L.wt, .int .i64 L.ac, .slice qa L.q.length qc], .int .i64 line, .agg #[.int .i64 c, .int .i64 t]] w (LnP w zL [] false) := by
  have HB : Hid (Mv nob w w) := hide (Mv.refl _ _)
  have hs0 := hide hs; have hq0 := hide hq; clear hs hq
  go_enter Tryd.func6, Tryd.ntmps6
  refine sk fun K1 h1 => rl ?_
  refine sbp #[.int .i64 L.mem, .int .i64 L.own, .slice sa L.sh.length sc, .int .i64 L.bu, .int .i64 L.wt, .int .i64 L.ac, .slice qa L.q.length qc] 31 fun V1 b0 hb0 m1 bx0 => ?_
  have o_0 : w.heap.size ≤ b0 := by omega
  clear hb0
  refine sbp #[.int .i64 c, .int .i64 t] 36 fun V2 b1 hb1 m2 bx1 => ?_
  have o0_1 := Xlo bx0 hb1
  clear hb1
  refine sbp #[.int .i64 0, .int .i64 0, .slice none 0 0, .int .i64 0, .int .i64 0, .int .i64 0, .slice none 0 0] 31 fun V3 b2 hb2 m3 bx2 => ?_
  have o1_2 := Xlo bx1 hb2
  clear hb2
  refine sv (.slice none 0 0) ?_
  refine sv (.bool false) ?_
  refine nt (h1 _ _ (sk fun K2 h2 => sk fun K3 h3 => rl ?_)); clear h1 K1
  replace bx0 := Xbn (Xbn bx0 m2) m3
  refine sg (.agg #[.int .i64 L.mem, .int .i64 L.own, .slice sa L.sh.length sc, .int .i64 L.bu, .int .i64 L.wt, .int .i64 L.ac, .slice qa L.q.length qc]) (h := by have z0 := cell_box 0 (bx0.out) rfl; have z1 := cell_box 1 (bx0.out) rfl; have z2 := cell_box 2 (bx0.out) rfl; have z3 := cell_box 3 (bx0.out) rfl; have z4 := cell_box 4 (bx0.out) rfl; have z5 := cell_box 5 (bx0.out) rfl; have z6 := cell_box 6 (bx0.out) rfl; go_simp) ?_
  replace HB := Xhn (Xhn (Xhn HB m1) m2) m3
  refine sw_call (by rfl) (by first | rfl | (go_simp; done)) (specLineOk_any L.mem L.own (.slice sa L.sh.length sc) L.sh L.bu L.wt L.ac qa qc L.q.length (f2 L.q) V3 (sg_sl (hs0.out.below HB.out.below)) hsl (sg_sr (hq0.out.below HB.out.below)) hql) ?_
  rintro e V4 ⟨rfl, hbl⟩
  have m4 : Mv (nob) V3 V4 := Mv.of_below hbl
  refine ⟨_, rfl, ?_⟩
  refine pt ?_
  clear hbl
  rw [show lineB L.mem L.own L.sh L.bu L.wt L.ac L.q.length (f2 L.q) = true from hlk]
  refine sg (.bool false) ?_
  refine sv (.bool false) ?_
  refine sv (.int .i64 line) ?_
  refine sw_call (by rfl) (by first | rfl | (go_simp; done)) (in_any2 line 0 3 V4) ?_
  rintro e V5 ⟨rfl, hbl⟩
  have m5 : Mv (nob) V4 V5 := Mv.of_below hbl
  refine ⟨_, rfl, ?_⟩
  refine pt ?_
  clear hbl
  rw [hil]
  refine sg (.bool true) ?_
  refine sg (.bool true) ?_
  refine sv (.bool true) ?_
  with_reducible refine sp ?_
  with_reducible refine sp ?_
  with_reducible refine sp ?_
  refine sg (.bool true) ?_
  refine sv (.bool true) ?_
  with_reducible refine sp ?_
  with_reducible refine sp ?_
  with_reducible refine sp ?_
  refine sg (.bool true) ?_
  refine nt (h3 _ _ (ct (sk fun K4 h4 => rl ?_))); clear h3 K3
  refine sv (.agg #[.int .i64 0, .int .i64 0, .slice none 0 0, .int .i64 0, .int .i64 0, .int .i64 0, .slice none 0 0]) ?_
  replace bx2 := Xbn (Xbn bx2 m4) m5
  refine ss7 (.int .i64 0) (.int .i64 0) (.slice none 0 0) (.int .i64 0) (.int .i64 0) (.int .i64 0) (.slice none 0 0) bx2 fun V6 m6 bx2 => ?_
  refine sv (.slice none 0 0) ?_
  refine sv (.bool false) ?_
  refine nt (h4 _ _ (wp_ret (then_ret ?_))); clear h4 K4; clear h2 K2
  replace bx1 := Xbb (Xbn (Xbn (Xbn bx1 m3) m4) m5) m6; replace HB := Xhb (Xhn (Xhn HB m4) m5) m6; replace bx0 := Xbb (Xbn (Xbn bx0 m4) m5) m6
  have q2_0 := cell_box 0 bx2.out rfl
  have q2_1 := cell_box 1 bx2.out rfl
  have q2_2 := cell_box 2 bx2.out rfl
  have q2_3 := cell_box 3 bx2.out rfl
  have q2_4 := cell_box 4 bx2.out rfl
  have q2_5 := cell_box 5 bx2.out rfl
  have q2_6 := cell_box 6 bx2.out rfl
  exact bodyPost_ret (v := .tuple #[.agg #[.int .i64 0, .int .i64 0, .slice none 0 0, .int .i64 0, .int .i64 0, .int .i64 0, .slice none 0 0], .slice none 0 0, .bool false]) (by simp [results, Tryd.results6, go_sem, q2_0, q2_1, q2_2, q2_3, q2_4, q2_5, q2_6]) rfl ⟨_, _, _, _, _, _, rfl, rg_nil _ _ _ _, rg_nil _ _ _ _, rg_nil _ _ _ _, zl_apt, HB.out.below⟩

set_option maxRecDepth 20000 in
set_option maxHeartbeats 2000000 in
theorem sbegun_req (line c t : Int) (L : Hm.Ln) (sa : Option Addr) (sc : Nat) (qa : Option Addr) (qc : Nat) (w : World) (hs : Sg w (.slice sa L.sh.length sc) 1 L.sh.length (gF (f1 L.sh))) (hfs : Gf (.slice sa L.sh.length sc) L.sh.length) (hq : Sg w (.slice qa L.q.length qc) 2 L.q.length (gF (f2 L.q))) (hfq : Gf (.slice qa L.q.length qc) L.q.length) (hsl : L.sh.length ≤ 1048576) (hql : L.q.length ≤ 1048576) (hlk : lok L = true) (hil : inB line 0 3 = true) (hrq : reqB c t = false) :
    Calls Tryd.prog 6 #[.agg #[.int .i64 L.mem, .int .i64 L.own, .slice sa L.sh.length sc, .int .i64 L.bu, .int .i64 L.wt, .int .i64 L.ac, .slice qa L.q.length qc], .int .i64 line, .agg #[.int .i64 c, .int .i64 t]] w (LnP w zL [] false) := by
  have HB : Hid (Mv nob w w) := hide (Mv.refl _ _)
  have hs0 := hide hs; have hq0 := hide hq; clear hs hq
  go_enter Tryd.func6, Tryd.ntmps6
  refine sk fun K1 h1 => rl ?_
  refine sbp #[.int .i64 L.mem, .int .i64 L.own, .slice sa L.sh.length sc, .int .i64 L.bu, .int .i64 L.wt, .int .i64 L.ac, .slice qa L.q.length qc] 31 fun V1 b0 hb0 m1 bx0 => ?_
  have o_0 : w.heap.size ≤ b0 := by omega
  clear hb0
  refine sbp #[.int .i64 c, .int .i64 t] 36 fun V2 b1 hb1 m2 bx1 => ?_
  have o0_1 := Xlo bx0 hb1
  clear hb1
  refine sbp #[.int .i64 0, .int .i64 0, .slice none 0 0, .int .i64 0, .int .i64 0, .int .i64 0, .slice none 0 0] 31 fun V3 b2 hb2 m3 bx2 => ?_
  have o1_2 := Xlo bx1 hb2
  clear hb2
  refine sv (.slice none 0 0) ?_
  refine sv (.bool false) ?_
  refine nt (h1 _ _ (sk fun K2 h2 => sk fun K3 h3 => rl ?_)); clear h1 K1
  replace bx0 := Xbn (Xbn bx0 m2) m3
  refine sg (.agg #[.int .i64 L.mem, .int .i64 L.own, .slice sa L.sh.length sc, .int .i64 L.bu, .int .i64 L.wt, .int .i64 L.ac, .slice qa L.q.length qc]) (h := by have z0 := cell_box 0 (bx0.out) rfl; have z1 := cell_box 1 (bx0.out) rfl; have z2 := cell_box 2 (bx0.out) rfl; have z3 := cell_box 3 (bx0.out) rfl; have z4 := cell_box 4 (bx0.out) rfl; have z5 := cell_box 5 (bx0.out) rfl; have z6 := cell_box 6 (bx0.out) rfl; go_simp) ?_
  replace HB := Xhn (Xhn (Xhn HB m1) m2) m3
  refine sw_call (by rfl) (by first | rfl | (go_simp; done)) (specLineOk_any L.mem L.own (.slice sa L.sh.length sc) L.sh L.bu L.wt L.ac qa qc L.q.length (f2 L.q) V3 (sg_sl (hs0.out.below HB.out.below)) hsl (sg_sr (hq0.out.below HB.out.below)) hql) ?_
  rintro e V4 ⟨rfl, hbl⟩
  have m4 : Mv (nob) V3 V4 := Mv.of_below hbl
  refine ⟨_, rfl, ?_⟩
  refine pt ?_
  clear hbl
  rw [show lineB L.mem L.own L.sh L.bu L.wt L.ac L.q.length (f2 L.q) = true from hlk]
  refine sg (.bool false) ?_
  refine sv (.bool false) ?_
  refine sv (.int .i64 line) ?_
  refine sw_call (by rfl) (by first | rfl | (go_simp; done)) (in_any2 line 0 3 V4) ?_
  rintro e V5 ⟨rfl, hbl⟩
  have m5 : Mv (nob) V4 V5 := Mv.of_below hbl
  refine ⟨_, rfl, ?_⟩
  refine pt ?_
  clear hbl
  rw [hil]
  refine sg (.bool false) ?_
  refine sg (.bool false) ?_
  refine sv (.bool false) ?_
  replace bx1 := Xbn (Xbn (Xbn bx1 m3) m4) m5
  refine sg (.agg #[.int .i64 c, .int .i64 t]) (h := by have z0 := cell_box 0 (bx1.out) rfl; have z1 := cell_box 1 (bx1.out) rfl; go_simp) ?_
  refine sw_call (by rfl) (by first | rfl | (go_simp; done)) (l4Req_any c t V5) ?_
  rintro e V6 ⟨rfl, hbl⟩
  have m6 : Mv (nob) V5 V6 := Mv.of_below hbl
  refine ⟨_, rfl, ?_⟩
  refine pt ?_
  clear hbl
  rw [hrq]
  refine sg (.bool true) ?_
  refine sg (.bool true) ?_
  refine sv (.bool true) ?_
  with_reducible refine sp ?_
  with_reducible refine sp ?_
  with_reducible refine sp ?_
  refine sg (.bool true) ?_
  refine nt (h3 _ _ (ct (sk fun K4 h4 => rl ?_))); clear h3 K3
  refine sv (.agg #[.int .i64 0, .int .i64 0, .slice none 0 0, .int .i64 0, .int .i64 0, .int .i64 0, .slice none 0 0]) ?_
  replace bx2 := Xbn (Xbn (Xbn bx2 m4) m5) m6
  refine ss7 (.int .i64 0) (.int .i64 0) (.slice none 0 0) (.int .i64 0) (.int .i64 0) (.int .i64 0) (.slice none 0 0) bx2 fun V7 m7 bx2 => ?_
  refine sv (.slice none 0 0) ?_
  refine sv (.bool false) ?_
  refine nt (h4 _ _ (wp_ret (then_ret ?_))); clear h4 K4; clear h2 K2
  replace HB := Xhb (Xhn (Xhn (Xhn HB m4) m5) m6) m7; replace bx0 := Xbb (Xbn (Xbn (Xbn bx0 m4) m5) m6) m7; replace bx1 := Xbb (Xbn bx1 m6) m7
  have q2_0 := cell_box 0 bx2.out rfl
  have q2_1 := cell_box 1 bx2.out rfl
  have q2_2 := cell_box 2 bx2.out rfl
  have q2_3 := cell_box 3 bx2.out rfl
  have q2_4 := cell_box 4 bx2.out rfl
  have q2_5 := cell_box 5 bx2.out rfl
  have q2_6 := cell_box 6 bx2.out rfl
  exact bodyPost_ret (v := .tuple #[.agg #[.int .i64 0, .int .i64 0, .slice none 0 0, .int .i64 0, .int .i64 0, .int .i64 0, .slice none 0 0], .slice none 0 0, .bool false]) (by simp [results, Tryd.results6, go_sem, q2_0, q2_1, q2_2, q2_3, q2_4, q2_5, q2_6]) rfl ⟨_, _, _, _, _, _, rfl, rg_nil _ _ _ _, rg_nil _ _ _ _, rg_nil _ _ _ _, zl_apt, HB.out.below⟩

set_option maxRecDepth 20000 in
set_option maxHeartbeats 2000000 in
theorem sbegun_busy (line c t : Int) (L : Hm.Ln) (sa : Option Addr) (sc : Nat) (qa : Option Addr) (qc : Nat) (w : World) (hs : Sg w (.slice sa L.sh.length sc) 1 L.sh.length (gF (f1 L.sh))) (hfs : Gf (.slice sa L.sh.length sc) L.sh.length) (hq : Sg w (.slice qa L.q.length qc) 2 L.q.length (gF (f2 L.q))) (hfq : Gf (.slice qa L.q.length qc) L.q.length) (hsl : L.sh.length ≤ 1048576) (hql : L.q.length ≤ 1048576) (hlk : lok L = true) (hil : inB line 0 3 = true) (hrq : reqB c t = true) (hbu : ¬ L.bu = 0) :
    Calls Tryd.prog 6 #[.agg #[.int .i64 L.mem, .int .i64 L.own, .slice sa L.sh.length sc, .int .i64 L.bu, .int .i64 L.wt, .int .i64 L.ac, .slice qa L.q.length qc], .int .i64 line, .agg #[.int .i64 c, .int .i64 t]] w (LnP w zL [] false) := by
  have HB : Hid (Mv nob w w) := hide (Mv.refl _ _)
  have hs0 := hide hs; have hq0 := hide hq; clear hs hq
  go_enter Tryd.func6, Tryd.ntmps6
  refine sk fun K1 h1 => rl ?_
  refine sbp #[.int .i64 L.mem, .int .i64 L.own, .slice sa L.sh.length sc, .int .i64 L.bu, .int .i64 L.wt, .int .i64 L.ac, .slice qa L.q.length qc] 31 fun V1 b0 hb0 m1 bx0 => ?_
  have o_0 : w.heap.size ≤ b0 := by omega
  clear hb0
  refine sbp #[.int .i64 c, .int .i64 t] 36 fun V2 b1 hb1 m2 bx1 => ?_
  have o0_1 := Xlo bx0 hb1
  clear hb1
  refine sbp #[.int .i64 0, .int .i64 0, .slice none 0 0, .int .i64 0, .int .i64 0, .int .i64 0, .slice none 0 0] 31 fun V3 b2 hb2 m3 bx2 => ?_
  have o1_2 := Xlo bx1 hb2
  clear hb2
  refine sv (.slice none 0 0) ?_
  refine sv (.bool false) ?_
  refine nt (h1 _ _ (sk fun K2 h2 => sk fun K3 h3 => rl ?_)); clear h1 K1
  have hbuh := hide hbu; clear hbu
  replace bx0 := Xbn (Xbn bx0 m2) m3
  refine sg (.agg #[.int .i64 L.mem, .int .i64 L.own, .slice sa L.sh.length sc, .int .i64 L.bu, .int .i64 L.wt, .int .i64 L.ac, .slice qa L.q.length qc]) (h := by have z0 := cell_box 0 (bx0.out) rfl; have z1 := cell_box 1 (bx0.out) rfl; have z2 := cell_box 2 (bx0.out) rfl; have z3 := cell_box 3 (bx0.out) rfl; have z4 := cell_box 4 (bx0.out) rfl; have z5 := cell_box 5 (bx0.out) rfl; have z6 := cell_box 6 (bx0.out) rfl; go_simp) ?_
  replace HB := Xhn (Xhn (Xhn HB m1) m2) m3
  refine sw_call (by rfl) (by first | rfl | (go_simp; done)) (specLineOk_any L.mem L.own (.slice sa L.sh.length sc) L.sh L.bu L.wt L.ac qa qc L.q.length (f2 L.q) V3 (sg_sl (hs0.out.below HB.out.below)) hsl (sg_sr (hq0.out.below HB.out.below)) hql) ?_
  rintro e V4 ⟨rfl, hbl⟩
  have m4 : Mv (nob) V3 V4 := Mv.of_below hbl
  refine ⟨_, rfl, ?_⟩
  refine pt ?_
  clear hbl
  rw [show lineB L.mem L.own L.sh L.bu L.wt L.ac L.q.length (f2 L.q) = true from hlk]
  refine sg (.bool false) ?_
  refine sv (.bool false) ?_
  refine sv (.int .i64 line) ?_
  refine sw_call (by rfl) (by first | rfl | (go_simp; done)) (in_any2 line 0 3 V4) ?_
  rintro e V5 ⟨rfl, hbl⟩
  have m5 : Mv (nob) V4 V5 := Mv.of_below hbl
  refine ⟨_, rfl, ?_⟩
  refine pt ?_
  clear hbl
  rw [hil]
  refine sg (.bool false) ?_
  refine sg (.bool false) ?_
  refine sv (.bool false) ?_
  replace bx1 := Xbn (Xbn (Xbn bx1 m3) m4) m5
  refine sg (.agg #[.int .i64 c, .int .i64 t]) (h := by have z0 := cell_box 0 (bx1.out) rfl; have z1 := cell_box 1 (bx1.out) rfl; go_simp) ?_
  refine sw_call (by rfl) (by first | rfl | (go_simp; done)) (l4Req_any c t V5) ?_
  rintro e V6 ⟨rfl, hbl⟩
  have m6 : Mv (nob) V5 V6 := Mv.of_below hbl
  refine ⟨_, rfl, ?_⟩
  refine pt ?_
  clear hbl
  rw [hrq]
  refine sg (.bool false) ?_
  refine sg (.bool false) ?_
  refine sv (.bool false) ?_
  refine sv (.pointer (some ⟨b0, 3, none⟩)) ?_
  replace bx0 := Xbn (Xbn (Xbn bx0 m4) m5) m6
  refine sl 3 bx0 ?_
  refine sg (.bool true) (h := by have hd : (L.bu != 0) = true := (by simp [hbuh.out]); go_simp) ?_
  refine sg (.bool true) ?_
  refine nt (h3 _ _ (ct (sk fun K4 h4 => rl ?_))); clear h3 K3
  refine sv (.agg #[.int .i64 0, .int .i64 0, .slice none 0 0, .int .i64 0, .int .i64 0, .int .i64 0, .slice none 0 0]) ?_
  replace bx2 := Xbn (Xbn (Xbn bx2 m4) m5) m6
  refine ss7 (.int .i64 0) (.int .i64 0) (.slice none 0 0) (.int .i64 0) (.int .i64 0) (.int .i64 0) (.slice none 0 0) bx2 fun V7 m7 bx2 => ?_
  refine sv (.slice none 0 0) ?_
  refine sv (.bool false) ?_
  refine nt (h4 _ _ (wp_ret (then_ret ?_))); clear h4 K4; clear h2 K2
  replace HB := Xhb (Xhn (Xhn (Xhn HB m4) m5) m6) m7; replace bx1 := Xbb (Xbn bx1 m6) m7; replace bx0 := Xbb bx0 m7
  have q2_0 := cell_box 0 bx2.out rfl
  have q2_1 := cell_box 1 bx2.out rfl
  have q2_2 := cell_box 2 bx2.out rfl
  have q2_3 := cell_box 3 bx2.out rfl
  have q2_4 := cell_box 4 bx2.out rfl
  have q2_5 := cell_box 5 bx2.out rfl
  have q2_6 := cell_box 6 bx2.out rfl
  exact bodyPost_ret (v := .tuple #[.agg #[.int .i64 0, .int .i64 0, .slice none 0 0, .int .i64 0, .int .i64 0, .int .i64 0, .slice none 0 0], .slice none 0 0, .bool false]) (by simp [results, Tryd.results6, go_sem, q2_0, q2_1, q2_2, q2_3, q2_4, q2_5, q2_6]) rfl ⟨_, _, _, _, _, _, rfl, rg_nil _ _ _ _, rg_nil _ _ _ _, rg_nil _ _ _ _, zl_apt, HB.out.below⟩

set_option maxRecDepth 20000 in
set_option maxHeartbeats 2000000 in
theorem sbegun_owns (line c t : Int) (L : Hm.Ln) (sa : Option Addr) (sc : Nat) (qa : Option Addr) (qc : Nat) (w : World) (hs : Sg w (.slice sa L.sh.length sc) 1 L.sh.length (gF (f1 L.sh))) (hfs : Gf (.slice sa L.sh.length sc) L.sh.length) (hq : Sg w (.slice qa L.q.length qc) 2 L.q.length (gF (f2 L.q))) (hfq : Gf (.slice qa L.q.length qc) L.q.length) (hsl : L.sh.length ≤ 1048576) (hql : L.q.length ≤ 1048576) (hlk : lok L = true) (hil : inB line 0 3 = true) (hrq : reqB c t = true) (hbu : L.bu = 0) (ho : L.own = c) :
    Calls Tryd.prog 6 #[.agg #[.int .i64 L.mem, .int .i64 L.own, .slice sa L.sh.length sc, .int .i64 L.bu, .int .i64 L.wt, .int .i64 L.ac, .slice qa L.q.length qc], .int .i64 line, .agg #[.int .i64 c, .int .i64 t]] w (LnP w zL [] false) := by
  have HB : Hid (Mv nob w w) := hide (Mv.refl _ _)
  have hs0 := hide hs; have hq0 := hide hq; clear hs hq
  go_enter Tryd.func6, Tryd.ntmps6
  refine sk fun K1 h1 => rl ?_
  refine sbp #[.int .i64 L.mem, .int .i64 L.own, .slice sa L.sh.length sc, .int .i64 L.bu, .int .i64 L.wt, .int .i64 L.ac, .slice qa L.q.length qc] 31 fun V1 b0 hb0 m1 bx0 => ?_
  have o_0 : w.heap.size ≤ b0 := by omega
  clear hb0
  refine sbp #[.int .i64 c, .int .i64 t] 36 fun V2 b1 hb1 m2 bx1 => ?_
  have o0_1 := Xlo bx0 hb1
  clear hb1
  refine sbp #[.int .i64 0, .int .i64 0, .slice none 0 0, .int .i64 0, .int .i64 0, .int .i64 0, .slice none 0 0] 31 fun V3 b2 hb2 m3 bx2 => ?_
  have o1_2 := Xlo bx1 hb2
  clear hb2
  refine sv (.slice none 0 0) ?_
  refine sv (.bool false) ?_
  refine nt (h1 _ _ (sk fun K2 h2 => sk fun K3 h3 => rl ?_)); clear h1 K1
  have hbuh := hide hbu; clear hbu
  replace bx0 := Xbn (Xbn bx0 m2) m3
  refine sg (.agg #[.int .i64 L.mem, .int .i64 L.own, .slice sa L.sh.length sc, .int .i64 L.bu, .int .i64 L.wt, .int .i64 L.ac, .slice qa L.q.length qc]) (h := by have z0 := cell_box 0 (bx0.out) rfl; have z1 := cell_box 1 (bx0.out) rfl; have z2 := cell_box 2 (bx0.out) rfl; have z3 := cell_box 3 (bx0.out) rfl; have z4 := cell_box 4 (bx0.out) rfl; have z5 := cell_box 5 (bx0.out) rfl; have z6 := cell_box 6 (bx0.out) rfl; go_simp) ?_
  replace HB := Xhn (Xhn (Xhn HB m1) m2) m3
  refine sw_call (by rfl) (by first | rfl | (go_simp; done)) (specLineOk_any L.mem L.own (.slice sa L.sh.length sc) L.sh L.bu L.wt L.ac qa qc L.q.length (f2 L.q) V3 (sg_sl (hs0.out.below HB.out.below)) hsl (sg_sr (hq0.out.below HB.out.below)) hql) ?_
  rintro e V4 ⟨rfl, hbl⟩
  have m4 : Mv (nob) V3 V4 := Mv.of_below hbl
  refine ⟨_, rfl, ?_⟩
  refine pt ?_
  clear hbl
  rw [show lineB L.mem L.own L.sh L.bu L.wt L.ac L.q.length (f2 L.q) = true from hlk]
  refine sg (.bool false) ?_
  refine sv (.bool false) ?_
  refine sv (.int .i64 line) ?_
  refine sw_call (by rfl) (by first | rfl | (go_simp; done)) (in_any2 line 0 3 V4) ?_
  rintro e V5 ⟨rfl, hbl⟩
  have m5 : Mv (nob) V4 V5 := Mv.of_below hbl
  refine ⟨_, rfl, ?_⟩
  refine pt ?_
  clear hbl
  rw [hil]
  refine sg (.bool false) ?_
  refine sg (.bool false) ?_
  refine sv (.bool false) ?_
  replace bx1 := Xbn (Xbn (Xbn bx1 m3) m4) m5
  refine sg (.agg #[.int .i64 c, .int .i64 t]) (h := by have z0 := cell_box 0 (bx1.out) rfl; have z1 := cell_box 1 (bx1.out) rfl; go_simp) ?_
  refine sw_call (by rfl) (by first | rfl | (go_simp; done)) (l4Req_any c t V5) ?_
  rintro e V6 ⟨rfl, hbl⟩
  have m6 : Mv (nob) V5 V6 := Mv.of_below hbl
  refine ⟨_, rfl, ?_⟩
  refine pt ?_
  clear hbl
  rw [hrq]
  refine sg (.bool false) ?_
  refine sg (.bool false) ?_
  refine sv (.bool false) ?_
  refine sv (.pointer (some ⟨b0, 3, none⟩)) ?_
  replace bx0 := Xbn (Xbn (Xbn bx0 m4) m5) m6
  refine sl 3 bx0 ?_
  refine sg (.bool false) (h := by have hd : (L.bu != 0) = false := (by simp [hbuh.out]); go_simp) ?_
  refine sg (.bool false) ?_
  refine nt (h3 _ _ (cf (wp_skip (then_normal (h2 _ _ (sk fun K4 h4 => ?_)))))); clear h3 K3; clear h2 K2
  replace HB := Xhn (Xhn (Xhn HB m4) m5) m6; replace bx2 := Xbn (Xbn (Xbn bx2 m4) m5) m6; replace bx1 := Xbn bx1 m6
  have szR := HB.out.size
  obtain ⟨hcc, htt⟩ := req_t hrq
  have hok := lok_sh hlk
  refine wp_region_but (z := 999) (S := fun w' => Mv (fun x => False) V6.drew w') (by kernel_rfl) (Mv.refl _ _) (fun hS => ?_)
  have m7 : Mv nob V6 V6.drew := Mv.drew _
  obtain ⟨V7, hN⟩ : ∃ V, V6.drew = V := ⟨_, rfl⟩
  rw [hN] at hS m7 ⊢
  clear hN
  replace bx0 := Xbn bx0 m7; replace bx1 := Xbn bx1 m7
  have rbx0 := bx0; have rbx1 := bx1
  refine tk 0 (.agg #[.int .i64 L.mem, .int .i64 L.own, .slice sa L.sh.length sc, .int .i64 L.bu, .int .i64 L.wt, .int .i64 L.ac, .slice qa L.q.length qc]) rfl (fun w' hSw => by (try dsimp only at hSw); have z0 := cell_box 0 (hSw.box rbx0.out (fun h => h)) rfl; have z1 := cell_box 1 (hSw.box rbx0.out (fun h => h)) rfl; have z2 := cell_box 2 (hSw.box rbx0.out (fun h => h)) rfl; have z3 := cell_box 3 (hSw.box rbx0.out (fun h => h)) rfl; have z4 := cell_box 4 (hSw.box rbx0.out (fun h => h)) rfl; have z5 := cell_box 5 (hSw.box rbx0.out (fun h => h)) rfl; have z6 := cell_box 6 (hSw.box rbx0.out (fun h => h)) rfl; go_simp) ?_
  refine tk0 2 (.int .i64 line) rfl ?_
  refine tk 3 (.agg #[.int .i64 c, .int .i64 t]) rfl (fun w' hSw => by (try dsimp only at hSw); have z0 := cell_box 0 (hSw.box rbx1.out (fun h => h)) rfl; have z1 := cell_box 1 (hSw.box rbx1.out (fun h => h)) rfl; go_simp) ?_
  replace HB := Xhn HB m7; replace bx2 := Xbn bx2 m7
  refine kd_each2 (l := [1, 9]) (by kernel_rfl) rfl ⟨?_, ?_, trivial⟩
  · refine .inl ?_
    have szV := HB.out.size
    have bnz := lt_of_block bx2.out
    obtain ⟨N0, hN0⟩ : ∃ N, V7.heap.size = N := ⟨_, rfl⟩
    refine ⟨_, rfl, by rfl, .inr ⟨_, _, _, by first | rfl | (go_simp; done), l4Copy_any L sa sc qa qc V7 (hs0.out.below HB.out.below) hfs (hq0.out.below HB.out.below) hfq hsl hql, ?_⟩⟩
    rintro e V8 ⟨sa1, sc1, qa1, qc1, rfl, hrs, hrq2, cap, hbl⟩
    have m8 : Mv (nob) V7 V8 := Mv.of_below hbl
    replace hS := hS.step m8 (fun _ _ h => h.elim)
    refine ⟨_, rfl, fun _ => hS, ?_⟩
    refine ptk ?_
    rw [hN0] at szV bnz hrs hrq2
    obtain ⟨N1, hN1⟩ : ∃ N, V8.heap.size = N := ⟨_, rfl⟩
    have CSb : ∀ g, rb (.slice sa1 L.sh.length sc1) = some g → N0 ≤ g ∧ g < N1 := fun g e => hN1 ▸ hrs.lt g e
    have CQb : ∀ g, rb (.slice qa1 L.q.length qc1) = some g → N0 ≤ g ∧ g < N1 := fun g e => hN1 ▸ hrq2.lt g e
    have CS := hide hrs
    have CQ := hide hrq2
    have h01 : N0 ≤ N1 := by have := hbl.size; omega
    have HN : Hid (N1 ≤ V8.heap.size) := hide (Nat.le_of_eq hN1.symm)
    clear hrs hrq2 hbl hN0
    replace HB := Xhn HB m8; replace bx0 := Xbn bx0 m8; replace bx1 := Xbn bx1 m8; replace bx2 := Xbn bx2 m8
    refine kd_each2 (l := [4, 9]) (by kernel_rfl) rfl ⟨?_, ?_, trivial⟩
    · refine .inl ?_
      have bnz2 := lt_of_block bx2.out
      obtain ⟨N3, hN3⟩ : ∃ N, V8.heap.size = N := ⟨_, rfl⟩
      have h13 : N1 ≤ N3 := hN3 ▸ HN.out
      refine ⟨_, rfl, by rfl, .inr ⟨_, _, _, by first | rfl | (go_simp; done), l4Begun_o line c t N0 L sa1 sc1 qa1 qc1 V8 CS.out CQ.out cap (Nat.le_trans h01 HN.out) hok hcc.1 hcc.2 ho, ?_⟩⟩
      rintro e V9 ⟨sa3, sc3, qa3, qc3, ta3, tc3, rfl, gs, gq, gt, gap, gfr, hbl⟩
      have m9 : Mv (nob) V8 V9 := Mv.of_below hbl
      replace hS := hS.step m9 (fun _ _ h => h.elim)
      refine ⟨_, rfl, fun _ => hS, ?_⟩
      refine ptk ?_
      replace CS := hide (CS.out.mv m9 (fun _ _ h => h))
      replace CQ := hide (CQ.out.mv m9 (fun _ _ h => h))
      replace HN := hide (Nat.le_trans HN.out (m9).size)
      rw [hN3] at gfr bnz2
      obtain ⟨N4, hN4⟩ : ∃ N, V9.heap.size = N := ⟨_, rfl⟩
      have GNb : ∀ g, (rb (.slice sa3 L.sh.length sc3) = some g ∨ rb (.slice qa3 L.q.length qc3) = some g ∨ rb (.slice ta3 0 tc3) = some g) → ((N0 ≤ g ∧ g < N1) ∨ N3 ≤ g) ∧ g < N4 := fun g h => ⟨(gfr g h).elim (fun q => .inl (q.elim (CSb g) (CQb g))) .inr, hN4 ▸ (rows_lt gs gq gt g h).2⟩
      have GS := hide gs
      have GQ := hide gq
      have GT := hide gt
      clear gs gq gt gfr hbl CS CQ HN hN3
      refine tk0 5 (.tuple #[.agg #[.int .i64 L.mem, .int .i64 L.own, .slice sa3 L.sh.length sc3, .int .i64 L.bu, .int .i64 L.wt, .int .i64 L.ac, .slice qa3 L.q.length qc3], .slice ta3 0 tc3, .bool false]) rfl ?_
      refine tk0 6 (.agg #[.int .i64 L.mem, .int .i64 L.own, .slice sa3 L.sh.length sc3, .int .i64 L.bu, .int .i64 L.wt, .int .i64 L.ac, .slice qa3 L.q.length qc3]) rfl ?_
      refine tk0 7 (.slice ta3 0 tc3) rfl ?_
      refine tk0 8 (.bool false) rfl ?_
      refine kd_valI (i := 9) (v := .pointer (some ⟨V9.heap.size, 0, none⟩)) (w' := V9.alloc (.cells #[.int .i64 0, .int .i64 0, .slice none 0 0, .int .i64 0, .int .i64 0, .int .i64 0, .slice none 0 0] 31)) (fun V => Mv nob V9 V ∧ V.heap[V9.heap.size]? = some (.cells #[.int .i64 0, .int .i64 0, .slice none 0 0, .int .i64 0, .int .i64 0, .int .i64 0, .slice none 0 0] 31 (0, 0))) (by kernel_rfl) rfl (by rfl) (by first | rfl | go_simp) ⟨Mv.alloc _ _, heap_alloc_new _ _⟩ (fun V hI _ => hS.step hI.1 (fun _ _ h => h.elim)) ?_
      rintro V10 ⟨m10, nx⟩
      refine ptk ?_
      obtain ⟨b3, hb3⟩ : ∃ b3, V9.heap.size = b3 := ⟨_, rfl⟩
      rw [hb3] at nx ⊢
      have or_3 := Mv.le hS hb3
      replace bx2 := Xbn bx2 m9
      have o2_3 := Xlo bx2 hb3
      have e4_b3 := hb3
      replace GS := hide (GS.out.mv m10 (fun _ _ h => h))
      replace GQ := hide (GQ.out.mv m10 (fun _ _ h => h))
      replace GT := hide (GT.out.mv m10 (fun _ _ h => h))
      have bx3 := hide nx
      clear nx
      replace hS := hS.step m10 (fun _ _ h => h.elim)
      clear hb3
      refine kd_skipI (i := 10) (w' := ((((((V10.setCell ⟨b3, 0, none⟩ (.int .i64 L.mem)).setCell ⟨b3, 1, none⟩ (.int .i64 L.own)).setCell ⟨b3, 2, none⟩ (.slice sa3 L.sh.length sc3)).setCell ⟨b3, 3, none⟩ (.int .i64 L.bu)).setCell ⟨b3, 4, none⟩ (.int .i64 L.wt)).setCell ⟨b3, 5, none⟩ (.int .i64 L.ac)).setCell ⟨b3, 6, none⟩ (.slice qa3 L.q.length qc3)) (fun V => Mv (fun g => g = b3) V10 V ∧ V.heap[b3]? = some (.cells #[.int .i64 L.mem, .int .i64 L.own, .slice sa3 L.sh.length sc3, .int .i64 L.bu, .int .i64 L.wt, .int .i64 L.ac, .slice qa3 L.q.length qc3] 31 (0, 0))) (by kernel_rfl) rfl (by rfl) (by have fr := fun i => frozen_of_row _ _ i _ _ bx3.out; have z0 := cell_box 0 bx3.out rfl; have z1 := cell_box 1 bx3.out rfl; have z2 := cell_box 2 bx3.out rfl; have z3 := cell_box 3 bx3.out rfl; have z4 := cell_box 4 bx3.out rfl; have z5 := cell_box 5 bx3.out rfl; have z6 := cell_box 6 bx3.out rfl; go_simp) ⟨Mv.set (Mv.set (Mv.set (Mv.set (Mv.set (Mv.set (Mv.set (Mv.refl _ _) _ _) _ _) _ _) _ _) _ _) _ _) _ _, (heap_setCell_same _ _ 6 _ _ _ (heap_setCell_same _ _ 5 _ _ _ (heap_setCell_same _ _ 4 _ _ _ (heap_setCell_same _ _ 3 _ _ _ (heap_setCell_same _ _ 2 _ _ _ (heap_setCell_same _ _ 1 _ _ _ (heap_setCell_same _ _ 0 _ _ _ (bx3.out)))))))).trans rfl⟩ (fun V hI _ => hS.step hI.1 (fun g hg h => by have h : g = b3 := h; exfalso; omega)) ?_
      rintro V11 ⟨m11, nxV11⟩
      refine ptk ?_
      replace GS := hide (GS.out.mv m11 (fun g e h => by have h : g = b3 := h; have := GNb g (.inl e); omega))
      replace GQ := hide (GQ.out.mv m11 (fun g e h => by have h : g = b3 := h; have := GNb g (.inr (.inl e)); omega))
      replace GT := hide (GT.out.mv m11 (fun g e h => by have h : g = b3 := h; have := GNb g (.inr (.inr e)); omega))
      replace bx3 := hide nxV11
      clear nxV11
      replace hS := hS.step m11 (fun g hg h => by have h : g = b3 := h; exfalso; omega)
      refine tk0 11 (.slice ta3 0 tc3) rfl ?_
      refine tk0 12 (.bool false) rfl ?_
      refine wpAnyK_done (by kernel_rfl) ?_
      clear hS rbx0 rbx1
      refine then_normal (h4 _ _ (sk fun K5 h5 => sk fun K6 h6 => rl ?_)); clear h4 K4
      replace HB := Xhb (Xhn (Xhn HB m9) m10) m11; replace bx0 := Xbb (Xbn (Xbn bx0 m9) m10) m11; replace bx1 := Xbb (Xbn (Xbn bx1 m9) m10) m11; replace bx2 := Xbb (Xbn bx2 m10) m11
      refine sv (.bool false) ?_
      refine sg (.bool true) ?_
      refine nt (h6 _ _ (ct (sk fun K7 h7 => rl ?_))); clear h6 K6
      refine sv (.agg #[.int .i64 0, .int .i64 0, .slice none 0 0, .int .i64 0, .int .i64 0, .int .i64 0, .slice none 0 0]) ?_
      refine ss7 (.int .i64 0) (.int .i64 0) (.slice none 0 0) (.int .i64 0) (.int .i64 0) (.int .i64 0) (.slice none 0 0) bx2 fun V12 m12 bx2 => ?_
      replace GS := hide (GS.out.mv m12 (fun g e h => by have h : g = b2 := h; have := GNb g (.inl e); omega))
      replace GQ := hide (GQ.out.mv m12 (fun g e h => by have h : g = b2 := h; have := GNb g (.inr (.inl e)); omega))
      replace GT := hide (GT.out.mv m12 (fun g e h => by have h : g = b2 := h; have := GNb g (.inr (.inr e)); omega))
      refine sv (.slice none 0 0) ?_
      refine sv (.bool false) ?_
      refine nt (h7 _ _ (wp_ret (then_ret ?_))); clear h7 K7; clear h5 K5
      replace HB := Xhb HB m12; replace bx0 := Xbb bx0 m12; replace bx1 := Xbb bx1 m12; replace bx3 := Xbb bx3 m12
      have q2_0 := cell_box 0 bx2.out rfl
      have q2_1 := cell_box 1 bx2.out rfl
      have q2_2 := cell_box 2 bx2.out rfl
      have q2_3 := cell_box 3 bx2.out rfl
      have q2_4 := cell_box 4 bx2.out rfl
      have q2_5 := cell_box 5 bx2.out rfl
      have q2_6 := cell_box 6 bx2.out rfl
      exact bodyPost_ret (v := .tuple #[.agg #[.int .i64 0, .int .i64 0, .slice none 0 0, .int .i64 0, .int .i64 0, .int .i64 0, .slice none 0 0], .slice none 0 0, .bool false]) (by simp [results, Tryd.results6, go_sem, q2_0, q2_1, q2_2, q2_3, q2_4, q2_5, q2_6]) rfl ⟨_, _, _, _, _, _, rfl, rg_nil _ _ _ _, rg_nil _ _ _ _, rg_nil _ _ _ _, zl_apt, HB.out.below⟩
    · refine .inl ?_
      refine ⟨_, rfl, by rfl, .inl ⟨.pointer (some ⟨V8.heap.size, 0, none⟩), V8.alloc (.cells #[.int .i64 0, .int .i64 0, .slice none 0 0, .int .i64 0, .int .i64 0, .int .i64 0, .slice none 0 0] 31), (by first | rfl | go_simp), fun _ => hS.step (Mv.alloc _ _) (fun _ _ h => h.elim), ?_⟩⟩
      have m13 : Mv nob V8 (V8.alloc (.cells #[.int .i64 0, .int .i64 0, .slice none 0 0, .int .i64 0, .int .i64 0, .int .i64 0, .slice none 0 0] 31)) := Mv.alloc _ _
      have nx := heap_alloc_new V8 (.cells #[.int .i64 0, .int .i64 0, .slice none 0 0, .int .i64 0, .int .i64 0, .int .i64 0, .slice none 0 0] 31)
      obtain ⟨V13, hN⟩ : ∃ V, V8.alloc (.cells #[.int .i64 0, .int .i64 0, .slice none 0 0, .int .i64 0, .int .i64 0, .int .i64 0, .slice none 0 0] 31) = V := ⟨_, rfl⟩
      rw [hN] at m13 nx ⊢
      clear hN
      refine ptk ?_
      obtain ⟨b3, hb3⟩ : ∃ b3, V8.heap.size = b3 := ⟨_, rfl⟩
      rw [hb3] at nx ⊢
      have or_3 := Mv.le hS hb3
      have o2_3 := Xlo bx2 hb3
      have e4_b3 := hb3
      replace CS := hide (CS.out.mv m13 (fun _ _ h => h))
      replace CQ := hide (CQ.out.mv m13 (fun _ _ h => h))
      replace HN := hide (Nat.le_trans HN.out (m13).size)
      have bx3 := hide nx
      clear nx
      replace hS := hS.step m13 (fun _ _ h => h.elim)
      clear hb3
      have bnz2 := lt_of_block bx3.out
      obtain ⟨N3, hN3⟩ : ∃ N, V13.heap.size = N := ⟨_, rfl⟩
      have h13 : N1 ≤ N3 := hN3 ▸ HN.out
      refine kd_call (i := 4) (by kernel_rfl) rfl (by rfl) (by first | rfl | (go_simp; done)) (l4Begun_o line c t N0 L sa1 sc1 qa1 qc1 V13 CS.out CQ.out cap (Nat.le_trans h01 HN.out) hok hcc.1 hcc.2 ho) ?_
      rintro e V14 ⟨sa3, sc3, qa3, qc3, ta3, tc3, rfl, gs, gq, gt, gap, gfr, hbl⟩
      have m14 : Mv (nob) V13 V14 := Mv.of_below hbl
      replace hS := hS.step m14 (fun _ _ h => h.elim)
      refine ⟨_, rfl, fun _ => hS, ?_⟩
      refine ptk ?_
      replace CS := hide (CS.out.mv m14 (fun _ _ h => h))
      replace CQ := hide (CQ.out.mv m14 (fun _ _ h => h))
      replace HN := hide (Nat.le_trans HN.out (m14).size)
      rw [hN3] at gfr bnz2
      obtain ⟨N4, hN4⟩ : ∃ N, V14.heap.size = N := ⟨_, rfl⟩
      have GNb : ∀ g, (rb (.slice sa3 L.sh.length sc3) = some g ∨ rb (.slice qa3 L.q.length qc3) = some g ∨ rb (.slice ta3 0 tc3) = some g) → ((N0 ≤ g ∧ g < N1) ∨ N3 ≤ g) ∧ g < N4 := fun g h => ⟨(gfr g h).elim (fun q => .inl (q.elim (CSb g) (CQb g))) .inr, hN4 ▸ (rows_lt gs gq gt g h).2⟩
      have GS := hide gs
      have GQ := hide gq
      have GT := hide gt
      clear gs gq gt gfr hbl CS CQ HN hN3
      refine tk0 5 (.tuple #[.agg #[.int .i64 L.mem, .int .i64 L.own, .slice sa3 L.sh.length sc3, .int .i64 L.bu, .int .i64 L.wt, .int .i64 L.ac, .slice qa3 L.q.length qc3], .slice ta3 0 tc3, .bool false]) rfl ?_
      refine tk0 6 (.agg #[.int .i64 L.mem, .int .i64 L.own, .slice sa3 L.sh.length sc3, .int .i64 L.bu, .int .i64 L.wt, .int .i64 L.ac, .slice qa3 L.q.length qc3]) rfl ?_
      refine tk0 7 (.slice ta3 0 tc3) rfl ?_
      refine tk0 8 (.bool false) rfl ?_
      replace bx3 := Xbn bx3 m14
      refine kd_skipI (i := 10) (w' := ((((((V14.setCell ⟨b3, 0, none⟩ (.int .i64 L.mem)).setCell ⟨b3, 1, none⟩ (.int .i64 L.own)).setCell ⟨b3, 2, none⟩ (.slice sa3 L.sh.length sc3)).setCell ⟨b3, 3, none⟩ (.int .i64 L.bu)).setCell ⟨b3, 4, none⟩ (.int .i64 L.wt)).setCell ⟨b3, 5, none⟩ (.int .i64 L.ac)).setCell ⟨b3, 6, none⟩ (.slice qa3 L.q.length qc3)) (fun V => Mv (fun g => g = b3) V14 V ∧ V.heap[b3]? = some (.cells #[.int .i64 L.mem, .int .i64 L.own, .slice sa3 L.sh.length sc3, .int .i64 L.bu, .int .i64 L.wt, .int .i64 L.ac, .slice qa3 L.q.length qc3] 31 (0, 0))) (by kernel_rfl) rfl (by rfl) (by have fr := fun i => frozen_of_row _ _ i _ _ bx3.out; have z0 := cell_box 0 bx3.out rfl; have z1 := cell_box 1 bx3.out rfl; have z2 := cell_box 2 bx3.out rfl; have z3 := cell_box 3 bx3.out rfl; have z4 := cell_box 4 bx3.out rfl; have z5 := cell_box 5 bx3.out rfl; have z6 := cell_box 6 bx3.out rfl; go_simp) ⟨Mv.set (Mv.set (Mv.set (Mv.set (Mv.set (Mv.set (Mv.set (Mv.refl _ _) _ _) _ _) _ _) _ _) _ _) _ _) _ _, (heap_setCell_same _ _ 6 _ _ _ (heap_setCell_same _ _ 5 _ _ _ (heap_setCell_same _ _ 4 _ _ _ (heap_setCell_same _ _ 3 _ _ _ (heap_setCell_same _ _ 2 _ _ _ (heap_setCell_same _ _ 1 _ _ _ (heap_setCell_same _ _ 0 _ _ _ (bx3.out)))))))).trans rfl⟩ (fun V hI _ => hS.step hI.1 (fun g hg h => by have h : g = b3 := h; exfalso; omega)) ?_
      rintro V15 ⟨m15, nxV15⟩
      refine ptk ?_
      replace GS := hide (GS.out.mv m15 (fun g e h => by have h : g = b3 := h; have := GNb g (.inl e); omega))
      replace GQ := hide (GQ.out.mv m15 (fun g e h => by have h : g = b3 := h; have := GNb g (.inr (.inl e)); omega))
      replace GT := hide (GT.out.mv m15 (fun g e h => by have h : g = b3 := h; have := GNb g (.inr (.inr e)); omega))
      replace bx3 := hide nxV15
      clear nxV15
      replace hS := hS.step m15 (fun g hg h => by have h : g = b3 := h; exfalso; omega)
      refine tk0 11 (.slice ta3 0 tc3) rfl ?_
      refine tk0 12 (.bool false) rfl ?_
      refine wpAnyK_done (by kernel_rfl) ?_
      clear hS rbx0 rbx1
      refine then_normal (h4 _ _ (sk fun K8 h8 => sk fun K9 h9 => rl ?_)); clear h4 K4
      replace HB := Xhb (Xhn (Xhn HB m13) m14) m15; replace bx0 := Xbb (Xbn (Xbn bx0 m13) m14) m15; replace bx1 := Xbb (Xbn (Xbn bx1 m13) m14) m15; replace bx2 := Xbb (Xbn (Xbn bx2 m13) m14) m15
      refine sv (.bool false) ?_
      refine sg (.bool true) ?_
      refine nt (h9 _ _ (ct (sk fun K10 h10 => rl ?_))); clear h9 K9
      refine sv (.agg #[.int .i64 0, .int .i64 0, .slice none 0 0, .int .i64 0, .int .i64 0, .int .i64 0, .slice none 0 0]) ?_
      refine ss7 (.int .i64 0) (.int .i64 0) (.slice none 0 0) (.int .i64 0) (.int .i64 0) (.int .i64 0) (.slice none 0 0) bx2 fun V16 m16 bx2 => ?_
      replace GS := hide (GS.out.mv m16 (fun g e h => by have h : g = b2 := h; have := GNb g (.inl e); omega))
      replace GQ := hide (GQ.out.mv m16 (fun g e h => by have h : g = b2 := h; have := GNb g (.inr (.inl e)); omega))
      replace GT := hide (GT.out.mv m16 (fun g e h => by have h : g = b2 := h; have := GNb g (.inr (.inr e)); omega))
      refine sv (.slice none 0 0) ?_
      refine sv (.bool false) ?_
      refine nt (h10 _ _ (wp_ret (then_ret ?_))); clear h10 K10; clear h8 K8
      replace HB := Xhb HB m16; replace bx0 := Xbb bx0 m16; replace bx1 := Xbb bx1 m16; replace bx3 := Xbb bx3 m16
      have q2_0 := cell_box 0 bx2.out rfl
      have q2_1 := cell_box 1 bx2.out rfl
      have q2_2 := cell_box 2 bx2.out rfl
      have q2_3 := cell_box 3 bx2.out rfl
      have q2_4 := cell_box 4 bx2.out rfl
      have q2_5 := cell_box 5 bx2.out rfl
      have q2_6 := cell_box 6 bx2.out rfl
      exact bodyPost_ret (v := .tuple #[.agg #[.int .i64 0, .int .i64 0, .slice none 0 0, .int .i64 0, .int .i64 0, .int .i64 0, .slice none 0 0], .slice none 0 0, .bool false]) (by simp [results, Tryd.results6, go_sem, q2_0, q2_1, q2_2, q2_3, q2_4, q2_5, q2_6]) rfl ⟨_, _, _, _, _, _, rfl, rg_nil _ _ _ _, rg_nil _ _ _ _, rg_nil _ _ _ _, zl_apt, HB.out.below⟩
  · refine .inl ?_
    refine ⟨_, rfl, by rfl, .inl ⟨.pointer (some ⟨V7.heap.size, 0, none⟩), V7.alloc (.cells #[.int .i64 0, .int .i64 0, .slice none 0 0, .int .i64 0, .int .i64 0, .int .i64 0, .slice none 0 0] 31), (by first | rfl | go_simp), fun _ => hS.step (Mv.alloc _ _) (fun _ _ h => h.elim), ?_⟩⟩
    have m17 : Mv nob V7 (V7.alloc (.cells #[.int .i64 0, .int .i64 0, .slice none 0 0, .int .i64 0, .int .i64 0, .int .i64 0, .slice none 0 0] 31)) := Mv.alloc _ _
    have nx := heap_alloc_new V7 (.cells #[.int .i64 0, .int .i64 0, .slice none 0 0, .int .i64 0, .int .i64 0, .int .i64 0, .slice none 0 0] 31)
    obtain ⟨V17, hN⟩ : ∃ V, V7.alloc (.cells #[.int .i64 0, .int .i64 0, .slice none 0 0, .int .i64 0, .int .i64 0, .int .i64 0, .slice none 0 0] 31) = V := ⟨_, rfl⟩
    rw [hN] at m17 nx ⊢
    clear hN
    refine ptk ?_
    obtain ⟨b3, hb3⟩ : ∃ b3, V7.heap.size = b3 := ⟨_, rfl⟩
    rw [hb3] at nx ⊢
    have or_3 := Mv.le hS hb3
    have o2_3 := Xlo bx2 hb3
    have e4_b3 := hb3
    have bx3 := hide nx
    clear nx
    replace hS := hS.step m17 (fun _ _ h => h.elim)
    clear hb3
    replace HB := Xhn HB m17
    have szV := HB.out.size
    have bnz := lt_of_block bx3.out
    obtain ⟨N0, hN0⟩ : ∃ N, V17.heap.size = N := ⟨_, rfl⟩
    refine kd_call (i := 1) (by kernel_rfl) rfl (by rfl) (by first | rfl | (go_simp; done)) (l4Copy_any L sa sc qa qc V17 (hs0.out.below HB.out.below) hfs (hq0.out.below HB.out.below) hfq hsl hql) ?_
    rintro e V18 ⟨sa1, sc1, qa1, qc1, rfl, hrs, hrq2, cap, hbl⟩
    have m18 : Mv (nob) V17 V18 := Mv.of_below hbl
    replace hS := hS.step m18 (fun _ _ h => h.elim)
    refine ⟨_, rfl, fun _ => hS, ?_⟩
    refine ptk ?_
    rw [hN0] at szV bnz hrs hrq2
    obtain ⟨N1, hN1⟩ : ∃ N, V18.heap.size = N := ⟨_, rfl⟩
    have CSb : ∀ g, rb (.slice sa1 L.sh.length sc1) = some g → N0 ≤ g ∧ g < N1 := fun g e => hN1 ▸ hrs.lt g e
    have CQb : ∀ g, rb (.slice qa1 L.q.length qc1) = some g → N0 ≤ g ∧ g < N1 := fun g e => hN1 ▸ hrq2.lt g e
    have CS := hide hrs
    have CQ := hide hrq2
    have h01 : N0 ≤ N1 := by have := hbl.size; omega
    have HN : Hid (N1 ≤ V18.heap.size) := hide (Nat.le_of_eq hN1.symm)
    clear hrs hrq2 hbl hN0
    replace bx3 := Xbn bx3 m18
    have bnz2 := lt_of_block bx3.out
    obtain ⟨N3, hN3⟩ : ∃ N, V18.heap.size = N := ⟨_, rfl⟩
    have h13 : N1 ≤ N3 := hN3 ▸ HN.out
    refine kd_call (i := 4) (by kernel_rfl) rfl (by rfl) (by first | rfl | (go_simp; done)) (l4Begun_o line c t N0 L sa1 sc1 qa1 qc1 V18 CS.out CQ.out cap (Nat.le_trans h01 HN.out) hok hcc.1 hcc.2 ho) ?_
    rintro e V19 ⟨sa3, sc3, qa3, qc3, ta3, tc3, rfl, gs, gq, gt, gap, gfr, hbl⟩
    have m19 : Mv (nob) V18 V19 := Mv.of_below hbl
    replace hS := hS.step m19 (fun _ _ h => h.elim)
    refine ⟨_, rfl, fun _ => hS, ?_⟩
    refine ptk ?_
    replace CS := hide (CS.out.mv m19 (fun _ _ h => h))
    replace CQ := hide (CQ.out.mv m19 (fun _ _ h => h))
    replace HN := hide (Nat.le_trans HN.out (m19).size)
    rw [hN3] at gfr bnz2
    obtain ⟨N4, hN4⟩ : ∃ N, V19.heap.size = N := ⟨_, rfl⟩
    have GNb : ∀ g, (rb (.slice sa3 L.sh.length sc3) = some g ∨ rb (.slice qa3 L.q.length qc3) = some g ∨ rb (.slice ta3 0 tc3) = some g) → ((N0 ≤ g ∧ g < N1) ∨ N3 ≤ g) ∧ g < N4 := fun g h => ⟨(gfr g h).elim (fun q => .inl (q.elim (CSb g) (CQb g))) .inr, hN4 ▸ (rows_lt gs gq gt g h).2⟩
    have GS := hide gs
    have GQ := hide gq
    have GT := hide gt
    clear gs gq gt gfr hbl CS CQ HN hN3
    refine tk0 5 (.tuple #[.agg #[.int .i64 L.mem, .int .i64 L.own, .slice sa3 L.sh.length sc3, .int .i64 L.bu, .int .i64 L.wt, .int .i64 L.ac, .slice qa3 L.q.length qc3], .slice ta3 0 tc3, .bool false]) rfl ?_
    refine tk0 6 (.agg #[.int .i64 L.mem, .int .i64 L.own, .slice sa3 L.sh.length sc3, .int .i64 L.bu, .int .i64 L.wt, .int .i64 L.ac, .slice qa3 L.q.length qc3]) rfl ?_
    refine tk0 7 (.slice ta3 0 tc3) rfl ?_
    refine tk0 8 (.bool false) rfl ?_
    replace bx3 := Xbn bx3 m19
    refine kd_skipI (i := 10) (w' := ((((((V19.setCell ⟨b3, 0, none⟩ (.int .i64 L.mem)).setCell ⟨b3, 1, none⟩ (.int .i64 L.own)).setCell ⟨b3, 2, none⟩ (.slice sa3 L.sh.length sc3)).setCell ⟨b3, 3, none⟩ (.int .i64 L.bu)).setCell ⟨b3, 4, none⟩ (.int .i64 L.wt)).setCell ⟨b3, 5, none⟩ (.int .i64 L.ac)).setCell ⟨b3, 6, none⟩ (.slice qa3 L.q.length qc3)) (fun V => Mv (fun g => g = b3) V19 V ∧ V.heap[b3]? = some (.cells #[.int .i64 L.mem, .int .i64 L.own, .slice sa3 L.sh.length sc3, .int .i64 L.bu, .int .i64 L.wt, .int .i64 L.ac, .slice qa3 L.q.length qc3] 31 (0, 0))) (by kernel_rfl) rfl (by rfl) (by have fr := fun i => frozen_of_row _ _ i _ _ bx3.out; have z0 := cell_box 0 bx3.out rfl; have z1 := cell_box 1 bx3.out rfl; have z2 := cell_box 2 bx3.out rfl; have z3 := cell_box 3 bx3.out rfl; have z4 := cell_box 4 bx3.out rfl; have z5 := cell_box 5 bx3.out rfl; have z6 := cell_box 6 bx3.out rfl; go_simp) ⟨Mv.set (Mv.set (Mv.set (Mv.set (Mv.set (Mv.set (Mv.set (Mv.refl _ _) _ _) _ _) _ _) _ _) _ _) _ _) _ _, (heap_setCell_same _ _ 6 _ _ _ (heap_setCell_same _ _ 5 _ _ _ (heap_setCell_same _ _ 4 _ _ _ (heap_setCell_same _ _ 3 _ _ _ (heap_setCell_same _ _ 2 _ _ _ (heap_setCell_same _ _ 1 _ _ _ (heap_setCell_same _ _ 0 _ _ _ (bx3.out)))))))).trans rfl⟩ (fun V hI _ => hS.step hI.1 (fun g hg h => by have h : g = b3 := h; exfalso; omega)) ?_
    rintro V20 ⟨m20, nxV20⟩
    refine ptk ?_
    replace GS := hide (GS.out.mv m20 (fun g e h => by have h : g = b3 := h; have := GNb g (.inl e); omega))
    replace GQ := hide (GQ.out.mv m20 (fun g e h => by have h : g = b3 := h; have := GNb g (.inr (.inl e)); omega))
    replace GT := hide (GT.out.mv m20 (fun g e h => by have h : g = b3 := h; have := GNb g (.inr (.inr e)); omega))
    replace bx3 := hide nxV20
    clear nxV20
    replace hS := hS.step m20 (fun g hg h => by have h : g = b3 := h; exfalso; omega)
    refine tk0 11 (.slice ta3 0 tc3) rfl ?_
    refine tk0 12 (.bool false) rfl ?_
    refine wpAnyK_done (by kernel_rfl) ?_
    clear hS rbx0 rbx1
    refine then_normal (h4 _ _ (sk fun K11 h11 => sk fun K12 h12 => rl ?_)); clear h4 K4
    replace bx0 := Xbb (Xbn (Xbn (Xbn bx0 m17) m18) m19) m20; replace bx1 := Xbb (Xbn (Xbn (Xbn bx1 m17) m18) m19) m20; replace bx2 := Xbb (Xbn (Xbn (Xbn bx2 m17) m18) m19) m20; replace HB := Xhb (Xhn (Xhn HB m18) m19) m20
    refine sv (.bool false) ?_
    refine sg (.bool true) ?_
    refine nt (h12 _ _ (ct (sk fun K13 h13 => rl ?_))); clear h12 K12
    refine sv (.agg #[.int .i64 0, .int .i64 0, .slice none 0 0, .int .i64 0, .int .i64 0, .int .i64 0, .slice none 0 0]) ?_
    refine ss7 (.int .i64 0) (.int .i64 0) (.slice none 0 0) (.int .i64 0) (.int .i64 0) (.int .i64 0) (.slice none 0 0) bx2 fun V21 m21 bx2 => ?_
    replace GS := hide (GS.out.mv m21 (fun g e h => by have h : g = b2 := h; have := GNb g (.inl e); omega))
    replace GQ := hide (GQ.out.mv m21 (fun g e h => by have h : g = b2 := h; have := GNb g (.inr (.inl e)); omega))
    replace GT := hide (GT.out.mv m21 (fun g e h => by have h : g = b2 := h; have := GNb g (.inr (.inr e)); omega))
    refine sv (.slice none 0 0) ?_
    refine sv (.bool false) ?_
    refine nt (h13 _ _ (wp_ret (then_ret ?_))); clear h13 K13; clear h11 K11
    replace HB := Xhb HB m21; replace bx0 := Xbb bx0 m21; replace bx1 := Xbb bx1 m21; replace bx3 := Xbb bx3 m21
    have q2_0 := cell_box 0 bx2.out rfl
    have q2_1 := cell_box 1 bx2.out rfl
    have q2_2 := cell_box 2 bx2.out rfl
    have q2_3 := cell_box 3 bx2.out rfl
    have q2_4 := cell_box 4 bx2.out rfl
    have q2_5 := cell_box 5 bx2.out rfl
    have q2_6 := cell_box 6 bx2.out rfl
    exact bodyPost_ret (v := .tuple #[.agg #[.int .i64 0, .int .i64 0, .slice none 0 0, .int .i64 0, .int .i64 0, .int .i64 0, .slice none 0 0], .slice none 0 0, .bool false]) (by simp [results, Tryd.results6, go_sem, q2_0, q2_1, q2_2, q2_3, q2_4, q2_5, q2_6]) rfl ⟨_, _, _, _, _, _, rfl, rg_nil _ _ _ _, rg_nil _ _ _ _, rg_nil _ _ _ _, zl_apt, HB.out.below⟩

set_option maxRecDepth 20000 in
set_option maxHeartbeats 2000000 in
theorem sbegun_yes (line c t : Int) (L : Hm.Ln) (sa : Option Addr) (sc : Nat) (qa : Option Addr) (qc : Nat) (w : World) (hs : Sg w (.slice sa L.sh.length sc) 1 L.sh.length (gF (f1 L.sh))) (hfs : Gf (.slice sa L.sh.length sc) L.sh.length) (hq : Sg w (.slice qa L.q.length qc) 2 L.q.length (gF (f2 L.q))) (hfq : Gf (.slice qa L.q.length qc) L.q.length) (hsl : L.sh.length ≤ 1048576) (hql : L.q.length ≤ 1048576) (hlk : lok L = true) (hil : inB line 0 3 = true) (hrq : reqB c t = true) (hbu : L.bu = 0) (ho : ¬ L.own = c) :
    Calls Tryd.prog 6 #[.agg #[.int .i64 L.mem, .int .i64 L.own, .slice sa L.sh.length sc, .int .i64 L.bu, .int .i64 L.wt, .int .i64 L.ac, .slice qa L.q.length qc], .int .i64 line, .agg #[.int .i64 c, .int .i64 t]] w (LnP w (Hm.begL L line c t) (Hm.begM L line c t) true) := by
  have HB : Hid (Mv nob w w) := hide (Mv.refl _ _)
  have hs0 := hide hs; have hq0 := hide hq; clear hs hq
  go_enter Tryd.func6, Tryd.ntmps6
  refine sk fun K1 h1 => rl ?_
  refine sbp #[.int .i64 L.mem, .int .i64 L.own, .slice sa L.sh.length sc, .int .i64 L.bu, .int .i64 L.wt, .int .i64 L.ac, .slice qa L.q.length qc] 31 fun V1 b0 hb0 m1 bx0 => ?_
  have o_0 : w.heap.size ≤ b0 := by omega
  clear hb0
  refine sbp #[.int .i64 c, .int .i64 t] 36 fun V2 b1 hb1 m2 bx1 => ?_
  have o0_1 := Xlo bx0 hb1
  clear hb1
  refine sbp #[.int .i64 0, .int .i64 0, .slice none 0 0, .int .i64 0, .int .i64 0, .int .i64 0, .slice none 0 0] 31 fun V3 b2 hb2 m3 bx2 => ?_
  have o1_2 := Xlo bx1 hb2
  clear hb2
  refine sv (.slice none 0 0) ?_
  refine sv (.bool false) ?_
  refine nt (h1 _ _ (sk fun K2 h2 => sk fun K3 h3 => rl ?_)); clear h1 K1
  have hbuh := hide hbu; clear hbu
  replace bx0 := Xbn (Xbn bx0 m2) m3
  refine sg (.agg #[.int .i64 L.mem, .int .i64 L.own, .slice sa L.sh.length sc, .int .i64 L.bu, .int .i64 L.wt, .int .i64 L.ac, .slice qa L.q.length qc]) (h := by have z0 := cell_box 0 (bx0.out) rfl; have z1 := cell_box 1 (bx0.out) rfl; have z2 := cell_box 2 (bx0.out) rfl; have z3 := cell_box 3 (bx0.out) rfl; have z4 := cell_box 4 (bx0.out) rfl; have z5 := cell_box 5 (bx0.out) rfl; have z6 := cell_box 6 (bx0.out) rfl; go_simp) ?_
  replace HB := Xhn (Xhn (Xhn HB m1) m2) m3
  refine sw_call (by rfl) (by first | rfl | (go_simp; done)) (specLineOk_any L.mem L.own (.slice sa L.sh.length sc) L.sh L.bu L.wt L.ac qa qc L.q.length (f2 L.q) V3 (sg_sl (hs0.out.below HB.out.below)) hsl (sg_sr (hq0.out.below HB.out.below)) hql) ?_
  rintro e V4 ⟨rfl, hbl⟩
  have m4 : Mv (nob) V3 V4 := Mv.of_below hbl
  refine ⟨_, rfl, ?_⟩
  refine pt ?_
  clear hbl
  rw [show lineB L.mem L.own L.sh L.bu L.wt L.ac L.q.length (f2 L.q) = true from hlk]
  refine sg (.bool false) ?_
  refine sv (.bool false) ?_
  refine sv (.int .i64 line) ?_
  refine sw_call (by rfl) (by first | rfl | (go_simp; done)) (in_any2 line 0 3 V4) ?_
  rintro e V5 ⟨rfl, hbl⟩
  have m5 : Mv (nob) V4 V5 := Mv.of_below hbl
  refine ⟨_, rfl, ?_⟩
  refine pt ?_
  clear hbl
  rw [hil]
  refine sg (.bool false) ?_
  refine sg (.bool false) ?_
  refine sv (.bool false) ?_
  replace bx1 := Xbn (Xbn (Xbn bx1 m3) m4) m5
  refine sg (.agg #[.int .i64 c, .int .i64 t]) (h := by have z0 := cell_box 0 (bx1.out) rfl; have z1 := cell_box 1 (bx1.out) rfl; go_simp) ?_
  refine sw_call (by rfl) (by first | rfl | (go_simp; done)) (l4Req_any c t V5) ?_
  rintro e V6 ⟨rfl, hbl⟩
  have m6 : Mv (nob) V5 V6 := Mv.of_below hbl
  refine ⟨_, rfl, ?_⟩
  refine pt ?_
  clear hbl
  rw [hrq]
  refine sg (.bool false) ?_
  refine sg (.bool false) ?_
  refine sv (.bool false) ?_
  refine sv (.pointer (some ⟨b0, 3, none⟩)) ?_
  replace bx0 := Xbn (Xbn (Xbn bx0 m4) m5) m6
  refine sl 3 bx0 ?_
  refine sg (.bool false) (h := by have hd : (L.bu != 0) = false := (by simp [hbuh.out]); go_simp) ?_
  refine sg (.bool false) ?_
  refine nt (h3 _ _ (cf (wp_skip (then_normal (h2 _ _ (sk fun K4 h4 => ?_)))))); clear h3 K3; clear h2 K2
  replace HB := Xhn (Xhn (Xhn HB m4) m5) m6; replace bx2 := Xbn (Xbn (Xbn bx2 m4) m5) m6; replace bx1 := Xbn bx1 m6
  have szR := HB.out.size
  obtain ⟨hcc, htt⟩ := req_t hrq
  have hok := lok_sh hlk
  refine wp_region_but (z := 999) (S := fun w' => Mv (fun x => False) V6.drew w') (by kernel_rfl) (Mv.refl _ _) (fun hS => ?_)
  have m7 : Mv nob V6 V6.drew := Mv.drew _
  obtain ⟨V7, hN⟩ : ∃ V, V6.drew = V := ⟨_, rfl⟩
  rw [hN] at hS m7 ⊢
  clear hN
  replace bx0 := Xbn bx0 m7; replace bx1 := Xbn bx1 m7
  have rbx0 := bx0; have rbx1 := bx1
  refine tk 0 (.agg #[.int .i64 L.mem, .int .i64 L.own, .slice sa L.sh.length sc, .int .i64 L.bu, .int .i64 L.wt, .int .i64 L.ac, .slice qa L.q.length qc]) rfl (fun w' hSw => by (try dsimp only at hSw); have z0 := cell_box 0 (hSw.box rbx0.out (fun h => h)) rfl; have z1 := cell_box 1 (hSw.box rbx0.out (fun h => h)) rfl; have z2 := cell_box 2 (hSw.box rbx0.out (fun h => h)) rfl; have z3 := cell_box 3 (hSw.box rbx0.out (fun h => h)) rfl; have z4 := cell_box 4 (hSw.box rbx0.out (fun h => h)) rfl; have z5 := cell_box 5 (hSw.box rbx0.out (fun h => h)) rfl; have z6 := cell_box 6 (hSw.box rbx0.out (fun h => h)) rfl; go_simp) ?_
  refine tk0 2 (.int .i64 line) rfl ?_
  refine tk 3 (.agg #[.int .i64 c, .int .i64 t]) rfl (fun w' hSw => by (try dsimp only at hSw); have z0 := cell_box 0 (hSw.box rbx1.out (fun h => h)) rfl; have z1 := cell_box 1 (hSw.box rbx1.out (fun h => h)) rfl; go_simp) ?_
  replace HB := Xhn HB m7; replace bx2 := Xbn bx2 m7
  refine kd_each2 (l := [1, 9]) (by kernel_rfl) rfl ⟨?_, ?_, trivial⟩
  · refine .inl ?_
    have szV := HB.out.size
    have bnz := lt_of_block bx2.out
    obtain ⟨N0, hN0⟩ : ∃ N, V7.heap.size = N := ⟨_, rfl⟩
    refine ⟨_, rfl, by rfl, .inr ⟨_, _, _, by first | rfl | (go_simp; done), l4Copy_any L sa sc qa qc V7 (hs0.out.below HB.out.below) hfs (hq0.out.below HB.out.below) hfq hsl hql, ?_⟩⟩
    rintro e V8 ⟨sa1, sc1, qa1, qc1, rfl, hrs, hrq2, cap, hbl⟩
    have m8 : Mv (nob) V7 V8 := Mv.of_below hbl
    replace hS := hS.step m8 (fun _ _ h => h.elim)
    refine ⟨_, rfl, fun _ => hS, ?_⟩
    refine ptk ?_
    rw [hN0] at szV bnz hrs hrq2
    obtain ⟨N1, hN1⟩ : ∃ N, V8.heap.size = N := ⟨_, rfl⟩
    have CSb : ∀ g, rb (.slice sa1 L.sh.length sc1) = some g → N0 ≤ g ∧ g < N1 := fun g e => hN1 ▸ hrs.lt g e
    have CQb : ∀ g, rb (.slice qa1 L.q.length qc1) = some g → N0 ≤ g ∧ g < N1 := fun g e => hN1 ▸ hrq2.lt g e
    have CS := hide hrs
    have CQ := hide hrq2
    have h01 : N0 ≤ N1 := by have := hbl.size; omega
    have HN : Hid (N1 ≤ V8.heap.size) := hide (Nat.le_of_eq hN1.symm)
    clear hrs hrq2 hbl hN0
    replace HB := Xhn HB m8; replace bx0 := Xbn bx0 m8; replace bx1 := Xbn bx1 m8; replace bx2 := Xbn bx2 m8
    refine kd_each2 (l := [4, 9]) (by kernel_rfl) rfl ⟨?_, ?_, trivial⟩
    · refine .inl ?_
      have bnz2 := lt_of_block bx2.out
      obtain ⟨N3, hN3⟩ : ∃ N, V8.heap.size = N := ⟨_, rfl⟩
      have h13 : N1 ≤ N3 := hN3 ▸ HN.out
      refine ⟨_, rfl, by rfl, .inr ⟨_, _, _, by first | rfl | (go_simp; done), l4Begun_any line c t N0 L sa1 sc1 qa1 qc1 V8 CS.out CQ.out cap (Nat.le_trans h01 HN.out) hok hcc.1 hcc.2 htt ho, ?_⟩⟩
      rintro e V9 ⟨sa3, sc3, qa3, qc3, ta3, tc3, rfl, gs, gq, gt, gap, gfr, hbl⟩
      have m9 : Mv (nob) V8 V9 := Mv.of_below hbl
      replace hS := hS.step m9 (fun _ _ h => h.elim)
      refine ⟨_, rfl, fun _ => hS, ?_⟩
      refine ptk ?_
      replace CS := hide (CS.out.mv m9 (fun _ _ h => h))
      replace CQ := hide (CQ.out.mv m9 (fun _ _ h => h))
      replace HN := hide (Nat.le_trans HN.out (m9).size)
      rw [hN3] at gfr bnz2
      obtain ⟨N4, hN4⟩ : ∃ N, V9.heap.size = N := ⟨_, rfl⟩
      have GNb : ∀ g, (rb (.slice sa3 (Hm.begL L line c t).sh.length sc3) = some g ∨ rb (.slice qa3 (Hm.begL L line c t).q.length qc3) = some g ∨ rb (.slice ta3 (Hm.begM L line c t).length tc3) = some g) → ((N0 ≤ g ∧ g < N1) ∨ N3 ≤ g) ∧ g < N4 := fun g h => ⟨(gfr g h).elim (fun q => .inl (q.elim (CSb g) (CQb g))) .inr, hN4 ▸ (rows_lt gs gq gt g h).2⟩
      have GS := hide gs
      have GQ := hide gq
      have GT := hide gt
      clear gs gq gt gfr hbl CS CQ HN hN3
      refine tk0 5 (.tuple #[.agg #[.int .i64 (Hm.begL L line c t).mem, .int .i64 (Hm.begL L line c t).own, .slice sa3 (Hm.begL L line c t).sh.length sc3, .int .i64 (Hm.begL L line c t).bu, .int .i64 (Hm.begL L line c t).wt, .int .i64 (Hm.begL L line c t).ac, .slice qa3 (Hm.begL L line c t).q.length qc3], .slice ta3 (Hm.begM L line c t).length tc3, .bool true]) rfl ?_
      refine tk0 6 (.agg #[.int .i64 (Hm.begL L line c t).mem, .int .i64 (Hm.begL L line c t).own, .slice sa3 (Hm.begL L line c t).sh.length sc3, .int .i64 (Hm.begL L line c t).bu, .int .i64 (Hm.begL L line c t).wt, .int .i64 (Hm.begL L line c t).ac, .slice qa3 (Hm.begL L line c t).q.length qc3]) rfl ?_
      refine tk0 7 (.slice ta3 (Hm.begM L line c t).length tc3) rfl ?_
      refine tk0 8 (.bool true) rfl ?_
      refine kd_valI (i := 9) (v := .pointer (some ⟨V9.heap.size, 0, none⟩)) (w' := V9.alloc (.cells #[.int .i64 0, .int .i64 0, .slice none 0 0, .int .i64 0, .int .i64 0, .int .i64 0, .slice none 0 0] 31)) (fun V => Mv nob V9 V ∧ V.heap[V9.heap.size]? = some (.cells #[.int .i64 0, .int .i64 0, .slice none 0 0, .int .i64 0, .int .i64 0, .int .i64 0, .slice none 0 0] 31 (0, 0))) (by kernel_rfl) rfl (by rfl) (by first | rfl | go_simp) ⟨Mv.alloc _ _, heap_alloc_new _ _⟩ (fun V hI _ => hS.step hI.1 (fun _ _ h => h.elim)) ?_
      rintro V10 ⟨m10, nx⟩
      refine ptk ?_
      obtain ⟨b3, hb3⟩ : ∃ b3, V9.heap.size = b3 := ⟨_, rfl⟩
      rw [hb3] at nx ⊢
      have or_3 := Mv.le hS hb3
      replace bx2 := Xbn bx2 m9
      have o2_3 := Xlo bx2 hb3
      have e4_b3 := hb3
      replace GS := hide (GS.out.mv m10 (fun _ _ h => h))
      replace GQ := hide (GQ.out.mv m10 (fun _ _ h => h))
      replace GT := hide (GT.out.mv m10 (fun _ _ h => h))
      have bx3 := hide nx
      clear nx
      replace hS := hS.step m10 (fun _ _ h => h.elim)
      clear hb3
      refine kd_skipI (i := 10) (w' := ((((((V10.setCell ⟨b3, 0, none⟩ (.int .i64 (Hm.begL L line c t).mem)).setCell ⟨b3, 1, none⟩ (.int .i64 (Hm.begL L line c t).own)).setCell ⟨b3, 2, none⟩ (.slice sa3 (Hm.begL L line c t).sh.length sc3)).setCell ⟨b3, 3, none⟩ (.int .i64 (Hm.begL L line c t).bu)).setCell ⟨b3, 4, none⟩ (.int .i64 (Hm.begL L line c t).wt)).setCell ⟨b3, 5, none⟩ (.int .i64 (Hm.begL L line c t).ac)).setCell ⟨b3, 6, none⟩ (.slice qa3 (Hm.begL L line c t).q.length qc3)) (fun V => Mv (fun g => g = b3) V10 V ∧ V.heap[b3]? = some (.cells #[.int .i64 (Hm.begL L line c t).mem, .int .i64 (Hm.begL L line c t).own, .slice sa3 (Hm.begL L line c t).sh.length sc3, .int .i64 (Hm.begL L line c t).bu, .int .i64 (Hm.begL L line c t).wt, .int .i64 (Hm.begL L line c t).ac, .slice qa3 (Hm.begL L line c t).q.length qc3] 31 (0, 0))) (by kernel_rfl) rfl (by rfl) (by have fr := fun i => frozen_of_row _ _ i _ _ bx3.out; have z0 := cell_box 0 bx3.out rfl; have z1 := cell_box 1 bx3.out rfl; have z2 := cell_box 2 bx3.out rfl; have z3 := cell_box 3 bx3.out rfl; have z4 := cell_box 4 bx3.out rfl; have z5 := cell_box 5 bx3.out rfl; have z6 := cell_box 6 bx3.out rfl; go_simp) ⟨Mv.set (Mv.set (Mv.set (Mv.set (Mv.set (Mv.set (Mv.set (Mv.refl _ _) _ _) _ _) _ _) _ _) _ _) _ _) _ _, (heap_setCell_same _ _ 6 _ _ _ (heap_setCell_same _ _ 5 _ _ _ (heap_setCell_same _ _ 4 _ _ _ (heap_setCell_same _ _ 3 _ _ _ (heap_setCell_same _ _ 2 _ _ _ (heap_setCell_same _ _ 1 _ _ _ (heap_setCell_same _ _ 0 _ _ _ (bx3.out)))))))).trans rfl⟩ (fun V hI _ => hS.step hI.1 (fun g hg h => by have h : g = b3 := h; exfalso; omega)) ?_
      rintro V11 ⟨m11, nxV11⟩
      refine ptk ?_
      replace GS := hide (GS.out.mv m11 (fun g e h => by have h : g = b3 := h; have := GNb g (.inl e); omega))
      replace GQ := hide (GQ.out.mv m11 (fun g e h => by have h : g = b3 := h; have := GNb g (.inr (.inl e)); omega))
      replace GT := hide (GT.out.mv m11 (fun g e h => by have h : g = b3 := h; have := GNb g (.inr (.inr e)); omega))
      replace bx3 := hide nxV11
      clear nxV11
      replace hS := hS.step m11 (fun g hg h => by have h : g = b3 := h; exfalso; omega)
      refine tk0 11 (.slice ta3 (Hm.begM L line c t).length tc3) rfl ?_
      refine tk0 12 (.bool true) rfl ?_
      refine wpAnyK_done (by kernel_rfl) ?_
      clear hS rbx0 rbx1
      refine then_normal (h4 _ _ (sk fun K5 h5 => sk fun K6 h6 => rl ?_)); clear h4 K4
      replace HB := Xhb (Xhn (Xhn HB m9) m10) m11; replace bx0 := Xbb (Xbn (Xbn bx0 m9) m10) m11; replace bx1 := Xbb (Xbn (Xbn bx1 m9) m10) m11; replace bx2 := Xbb (Xbn bx2 m10) m11
      refine sv (.bool true) ?_
      refine sg (.bool false) ?_
      refine nt (h6 _ _ (cf (wp_skip (then_normal (h5 _ _ (sk fun K7 h7 => rl ?_)))))); clear h6 K6; clear h5 K5
      refine sg (.agg #[.int .i64 (Hm.begL L line c t).mem, .int .i64 (Hm.begL L line c t).own, .slice sa3 (Hm.begL L line c t).sh.length sc3, .int .i64 (Hm.begL L line c t).bu, .int .i64 (Hm.begL L line c t).wt, .int .i64 (Hm.begL L line c t).ac, .slice qa3 (Hm.begL L line c t).q.length qc3]) (h := by have z0 := cell_box 0 (bx3.out) rfl; have z1 := cell_box 1 (bx3.out) rfl; have z2 := cell_box 2 (bx3.out) rfl; have z3 := cell_box 3 (bx3.out) rfl; have z4 := cell_box 4 (bx3.out) rfl; have z5 := cell_box 5 (bx3.out) rfl; have z6 := cell_box 6 (bx3.out) rfl; go_simp) ?_
      refine sv (.slice ta3 (Hm.begM L line c t).length tc3) ?_
      refine ss7 (.int .i64 (Hm.begL L line c t).mem) (.int .i64 (Hm.begL L line c t).own) (.slice sa3 (Hm.begL L line c t).sh.length sc3) (.int .i64 (Hm.begL L line c t).bu) (.int .i64 (Hm.begL L line c t).wt) (.int .i64 (Hm.begL L line c t).ac) (.slice qa3 (Hm.begL L line c t).q.length qc3) bx2 fun V12 m12 bx2 => ?_
      replace GS := hide (GS.out.mv m12 (fun g e h => by have h : g = b2 := h; have := GNb g (.inl e); omega))
      replace GQ := hide (GQ.out.mv m12 (fun g e h => by have h : g = b2 := h; have := GNb g (.inr (.inl e)); omega))
      replace GT := hide (GT.out.mv m12 (fun g e h => by have h : g = b2 := h; have := GNb g (.inr (.inr e)); omega))
      refine sv (.slice ta3 (Hm.begM L line c t).length tc3) ?_
      refine sv (.bool true) ?_
      refine nt (h7 _ _ (wp_ret ?_)); clear h7 K7
      replace HB := Xhb HB m12; replace bx0 := Xbb bx0 m12; replace bx1 := Xbb bx1 m12; replace bx3 := Xbb bx3 m12
      have q2_0 := cell_box 0 bx2.out rfl
      have q2_1 := cell_box 1 bx2.out rfl
      have q2_2 := cell_box 2 bx2.out rfl
      have q2_3 := cell_box 3 bx2.out rfl
      have q2_4 := cell_box 4 bx2.out rfl
      have q2_5 := cell_box 5 bx2.out rfl
      have q2_6 := cell_box 6 bx2.out rfl
      exact bodyPost_ret (v := .tuple #[.agg #[.int .i64 (Hm.begL L line c t).mem, .int .i64 (Hm.begL L line c t).own, .slice sa3 (Hm.begL L line c t).sh.length sc3, .int .i64 (Hm.begL L line c t).bu, .int .i64 (Hm.begL L line c t).wt, .int .i64 (Hm.begL L line c t).ac, .slice qa3 (Hm.begL L line c t).q.length qc3], .slice ta3 (Hm.begM L line c t).length tc3, .bool true]) (by simp [results, Tryd.results6, go_sem, q2_0, q2_1, q2_2, q2_3, q2_4, q2_5, q2_6]) rfl ⟨_, _, _, _, _, _, rfl, GS.out.base (by omega), GQ.out.base (by omega), GT.out.base (by omega), gap, HB.out.below⟩
    · refine .inl ?_
      refine ⟨_, rfl, by rfl, .inl ⟨.pointer (some ⟨V8.heap.size, 0, none⟩), V8.alloc (.cells #[.int .i64 0, .int .i64 0, .slice none 0 0, .int .i64 0, .int .i64 0, .int .i64 0, .slice none 0 0] 31), (by first | rfl | go_simp), fun _ => hS.step (Mv.alloc _ _) (fun _ _ h => h.elim), ?_⟩⟩
      have m13 : Mv nob V8 (V8.alloc (.cells #[.int .i64 0, .int .i64 0, .slice none 0 0, .int .i64 0, .int .i64 0, .int .i64 0, .slice none 0 0] 31)) := Mv.alloc _ _
      have nx := heap_alloc_new V8 (.cells #[.int .i64 0, .int .i64 0, .slice none 0 0, .int .i64 0, .int .i64 0, .int .i64 0, .slice none 0 0] 31)
      obtain ⟨V13, hN⟩ : ∃ V, V8.alloc (.cells #[.int .i64 0, .int .i64 0, .slice none 0 0, .int .i64 0, .int .i64 0, .int .i64 0, .slice none 0 0] 31) = V := ⟨_, rfl⟩
      rw [hN] at m13 nx ⊢
      clear hN
      refine ptk ?_
      obtain ⟨b3, hb3⟩ : ∃ b3, V8.heap.size = b3 := ⟨_, rfl⟩
      rw [hb3] at nx ⊢
      have or_3 := Mv.le hS hb3
      have o2_3 := Xlo bx2 hb3
      have e4_b3 := hb3
      replace CS := hide (CS.out.mv m13 (fun _ _ h => h))
      replace CQ := hide (CQ.out.mv m13 (fun _ _ h => h))
      replace HN := hide (Nat.le_trans HN.out (m13).size)
      have bx3 := hide nx
      clear nx
      replace hS := hS.step m13 (fun _ _ h => h.elim)
      clear hb3
      have bnz2 := lt_of_block bx3.out
      obtain ⟨N3, hN3⟩ : ∃ N, V13.heap.size = N := ⟨_, rfl⟩
      have h13 : N1 ≤ N3 := hN3 ▸ HN.out
      refine kd_call (i := 4) (by kernel_rfl) rfl (by rfl) (by first | rfl | (go_simp; done)) (l4Begun_any line c t N0 L sa1 sc1 qa1 qc1 V13 CS.out CQ.out cap (Nat.le_trans h01 HN.out) hok hcc.1 hcc.2 htt ho) ?_
      rintro e V14 ⟨sa3, sc3, qa3, qc3, ta3, tc3, rfl, gs, gq, gt, gap, gfr, hbl⟩
      have m14 : Mv (nob) V13 V14 := Mv.of_below hbl
      replace hS := hS.step m14 (fun _ _ h => h.elim)
      refine ⟨_, rfl, fun _ => hS, ?_⟩
      refine ptk ?_
      replace CS := hide (CS.out.mv m14 (fun _ _ h => h))
      replace CQ := hide (CQ.out.mv m14 (fun _ _ h => h))
      replace HN := hide (Nat.le_trans HN.out (m14).size)
      rw [hN3] at gfr bnz2
      obtain ⟨N4, hN4⟩ : ∃ N, V14.heap.size = N := ⟨_, rfl⟩
      have GNb : ∀ g, (rb (.slice sa3 (Hm.begL L line c t).sh.length sc3) = some g ∨ rb (.slice qa3 (Hm.begL L line c t).q.length qc3) = some g ∨ rb (.slice ta3 (Hm.begM L line c t).length tc3) = some g) → ((N0 ≤ g ∧ g < N1) ∨ N3 ≤ g) ∧ g < N4 := fun g h => ⟨(gfr g h).elim (fun q => .inl (q.elim (CSb g) (CQb g))) .inr, hN4 ▸ (rows_lt gs gq gt g h).2⟩
      have GS := hide gs
      have GQ := hide gq
      have GT := hide gt
      clear gs gq gt gfr hbl CS CQ HN hN3
      refine tk0 5 (.tuple #[.agg #[.int .i64 (Hm.begL L line c t).mem, .int .i64 (Hm.begL L line c t).own, .slice sa3 (Hm.begL L line c t).sh.length sc3, .int .i64 (Hm.begL L line c t).bu, .int .i64 (Hm.begL L line c t).wt, .int .i64 (Hm.begL L line c t).ac, .slice qa3 (Hm.begL L line c t).q.length qc3], .slice ta3 (Hm.begM L line c t).length tc3, .bool true]) rfl ?_
      refine tk0 6 (.agg #[.int .i64 (Hm.begL L line c t).mem, .int .i64 (Hm.begL L line c t).own, .slice sa3 (Hm.begL L line c t).sh.length sc3, .int .i64 (Hm.begL L line c t).bu, .int .i64 (Hm.begL L line c t).wt, .int .i64 (Hm.begL L line c t).ac, .slice qa3 (Hm.begL L line c t).q.length qc3]) rfl ?_
      refine tk0 7 (.slice ta3 (Hm.begM L line c t).length tc3) rfl ?_
      refine tk0 8 (.bool true) rfl ?_
      replace bx3 := Xbn bx3 m14
      refine kd_skipI (i := 10) (w' := ((((((V14.setCell ⟨b3, 0, none⟩ (.int .i64 (Hm.begL L line c t).mem)).setCell ⟨b3, 1, none⟩ (.int .i64 (Hm.begL L line c t).own)).setCell ⟨b3, 2, none⟩ (.slice sa3 (Hm.begL L line c t).sh.length sc3)).setCell ⟨b3, 3, none⟩ (.int .i64 (Hm.begL L line c t).bu)).setCell ⟨b3, 4, none⟩ (.int .i64 (Hm.begL L line c t).wt)).setCell ⟨b3, 5, none⟩ (.int .i64 (Hm.begL L line c t).ac)).setCell ⟨b3, 6, none⟩ (.slice qa3 (Hm.begL L line c t).q.length qc3)) (fun V => Mv (fun g => g = b3) V14 V ∧ V.heap[b3]? = some (.cells #[.int .i64 (Hm.begL L line c t).mem, .int .i64 (Hm.begL L line c t).own, .slice sa3 (Hm.begL L line c t).sh.length sc3, .int .i64 (Hm.begL L line c t).bu, .int .i64 (Hm.begL L line c t).wt, .int .i64 (Hm.begL L line c t).ac, .slice qa3 (Hm.begL L line c t).q.length qc3] 31 (0, 0))) (by kernel_rfl) rfl (by rfl) (by have fr := fun i => frozen_of_row _ _ i _ _ bx3.out; have z0 := cell_box 0 bx3.out rfl; have z1 := cell_box 1 bx3.out rfl; have z2 := cell_box 2 bx3.out rfl; have z3 := cell_box 3 bx3.out rfl; have z4 := cell_box 4 bx3.out rfl; have z5 := cell_box 5 bx3.out rfl; have z6 := cell_box 6 bx3.out rfl; go_simp) ⟨Mv.set (Mv.set (Mv.set (Mv.set (Mv.set (Mv.set (Mv.set (Mv.refl _ _) _ _) _ _) _ _) _ _) _ _) _ _) _ _, (heap_setCell_same _ _ 6 _ _ _ (heap_setCell_same _ _ 5 _ _ _ (heap_setCell_same _ _ 4 _ _ _ (heap_setCell_same _ _ 3 _ _ _ (heap_setCell_same _ _ 2 _ _ _ (heap_setCell_same _ _ 1 _ _ _ (heap_setCell_same _ _ 0 _ _ _ (bx3.out)))))))).trans rfl⟩ (fun V hI _ => hS.step hI.1 (fun g hg h => by have h : g = b3 := h; exfalso; omega)) ?_
      rintro V15 ⟨m15, nxV15⟩
      refine ptk ?_
      replace GS := hide (GS.out.mv m15 (fun g e h => by have h : g = b3 := h; have := GNb g (.inl e); omega))
      replace GQ := hide (GQ.out.mv m15 (fun g e h => by have h : g = b3 := h; have := GNb g (.inr (.inl e)); omega))
      replace GT := hide (GT.out.mv m15 (fun g e h => by have h : g = b3 := h; have := GNb g (.inr (.inr e)); omega))
      replace bx3 := hide nxV15
      clear nxV15
      replace hS := hS.step m15 (fun g hg h => by have h : g = b3 := h; exfalso; omega)
      refine tk0 11 (.slice ta3 (Hm.begM L line c t).length tc3) rfl ?_
      refine tk0 12 (.bool true) rfl ?_
      refine wpAnyK_done (by kernel_rfl) ?_
      clear hS rbx0 rbx1
      refine then_normal (h4 _ _ (sk fun K8 h8 => sk fun K9 h9 => rl ?_)); clear h4 K4
      replace HB := Xhb (Xhn (Xhn HB m13) m14) m15; replace bx0 := Xbb (Xbn (Xbn bx0 m13) m14) m15; replace bx1 := Xbb (Xbn (Xbn bx1 m13) m14) m15; replace bx2 := Xbb (Xbn (Xbn bx2 m13) m14) m15
      refine sv (.bool true) ?_
      refine sg (.bool false) ?_
      refine nt (h9 _ _ (cf (wp_skip (then_normal (h8 _ _ (sk fun K10 h10 => rl ?_)))))); clear h9 K9; clear h8 K8
      refine sg (.agg #[.int .i64 (Hm.begL L line c t).mem, .int .i64 (Hm.begL L line c t).own, .slice sa3 (Hm.begL L line c t).sh.length sc3, .int .i64 (Hm.begL L line c t).bu, .int .i64 (Hm.begL L line c t).wt, .int .i64 (Hm.begL L line c t).ac, .slice qa3 (Hm.begL L line c t).q.length qc3]) (h := by have z0 := cell_box 0 (bx3.out) rfl; have z1 := cell_box 1 (bx3.out) rfl; have z2 := cell_box 2 (bx3.out) rfl; have z3 := cell_box 3 (bx3.out) rfl; have z4 := cell_box 4 (bx3.out) rfl; have z5 := cell_box 5 (bx3.out) rfl; have z6 := cell_box 6 (bx3.out) rfl; go_simp) ?_
      refine sv (.slice ta3 (Hm.begM L line c t).length tc3) ?_
      refine ss7 (.int .i64 (Hm.begL L line c t).mem) (.int .i64 (Hm.begL L line c t).own) (.slice sa3 (Hm.begL L line c t).sh.length sc3) (.int .i64 (Hm.begL L line c t).bu) (.int .i64 (Hm.begL L line c t).wt) (.int .i64 (Hm.begL L line c t).ac) (.slice qa3 (Hm.begL L line c t).q.length qc3) bx2 fun V16 m16 bx2 => ?_
      replace GS := hide (GS.out.mv m16 (fun g e h => by have h : g = b2 := h; have := GNb g (.inl e); omega))
      replace GQ := hide (GQ.out.mv m16 (fun g e h => by have h : g = b2 := h; have := GNb g (.inr (.inl e)); omega))
      replace GT := hide (GT.out.mv m16 (fun g e h => by have h : g = b2 := h; have := GNb g (.inr (.inr e)); omega))
      refine sv (.slice ta3 (Hm.begM L line c t).length tc3) ?_
      refine sv (.bool true) ?_
      refine nt (h10 _ _ (wp_ret ?_)); clear h10 K10
      replace HB := Xhb HB m16; replace bx0 := Xbb bx0 m16; replace bx1 := Xbb bx1 m16; replace bx3 := Xbb bx3 m16
      have q2_0 := cell_box 0 bx2.out rfl
      have q2_1 := cell_box 1 bx2.out rfl
      have q2_2 := cell_box 2 bx2.out rfl
      have q2_3 := cell_box 3 bx2.out rfl
      have q2_4 := cell_box 4 bx2.out rfl
      have q2_5 := cell_box 5 bx2.out rfl
      have q2_6 := cell_box 6 bx2.out rfl
      exact bodyPost_ret (v := .tuple #[.agg #[.int .i64 (Hm.begL L line c t).mem, .int .i64 (Hm.begL L line c t).own, .slice sa3 (Hm.begL L line c t).sh.length sc3, .int .i64 (Hm.begL L line c t).bu, .int .i64 (Hm.begL L line c t).wt, .int .i64 (Hm.begL L line c t).ac, .slice qa3 (Hm.begL L line c t).q.length qc3], .slice ta3 (Hm.begM L line c t).length tc3, .bool true]) (by simp [results, Tryd.results6, go_sem, q2_0, q2_1, q2_2, q2_3, q2_4, q2_5, q2_6]) rfl ⟨_, _, _, _, _, _, rfl, GS.out.base (by omega), GQ.out.base (by omega), GT.out.base (by omega), gap, HB.out.below⟩
  · refine .inl ?_
    refine ⟨_, rfl, by rfl, .inl ⟨.pointer (some ⟨V7.heap.size, 0, none⟩), V7.alloc (.cells #[.int .i64 0, .int .i64 0, .slice none 0 0, .int .i64 0, .int .i64 0, .int .i64 0, .slice none 0 0] 31), (by first | rfl | go_simp), fun _ => hS.step (Mv.alloc _ _) (fun _ _ h => h.elim), ?_⟩⟩
    have m17 : Mv nob V7 (V7.alloc (.cells #[.int .i64 0, .int .i64 0, .slice none 0 0, .int .i64 0, .int .i64 0, .int .i64 0, .slice none 0 0] 31)) := Mv.alloc _ _
    have nx := heap_alloc_new V7 (.cells #[.int .i64 0, .int .i64 0, .slice none 0 0, .int .i64 0, .int .i64 0, .int .i64 0, .slice none 0 0] 31)
    obtain ⟨V17, hN⟩ : ∃ V, V7.alloc (.cells #[.int .i64 0, .int .i64 0, .slice none 0 0, .int .i64 0, .int .i64 0, .int .i64 0, .slice none 0 0] 31) = V := ⟨_, rfl⟩
    rw [hN] at m17 nx ⊢
    clear hN
    refine ptk ?_
    obtain ⟨b3, hb3⟩ : ∃ b3, V7.heap.size = b3 := ⟨_, rfl⟩
    rw [hb3] at nx ⊢
    have or_3 := Mv.le hS hb3
    have o2_3 := Xlo bx2 hb3
    have e4_b3 := hb3
    have bx3 := hide nx
    clear nx
    replace hS := hS.step m17 (fun _ _ h => h.elim)
    clear hb3
    replace HB := Xhn HB m17
    have szV := HB.out.size
    have bnz := lt_of_block bx3.out
    obtain ⟨N0, hN0⟩ : ∃ N, V17.heap.size = N := ⟨_, rfl⟩
    refine kd_call (i := 1) (by kernel_rfl) rfl (by rfl) (by first | rfl | (go_simp; done)) (l4Copy_any L sa sc qa qc V17 (hs0.out.below HB.out.below) hfs (hq0.out.below HB.out.below) hfq hsl hql) ?_
    rintro e V18 ⟨sa1, sc1, qa1, qc1, rfl, hrs, hrq2, cap, hbl⟩
    have m18 : Mv (nob) V17 V18 := Mv.of_below hbl
    replace hS := hS.step m18 (fun _ _ h => h.elim)
    refine ⟨_, rfl, fun _ => hS, ?_⟩
    refine ptk ?_
    rw [hN0] at szV bnz hrs hrq2
    obtain ⟨N1, hN1⟩ : ∃ N, V18.heap.size = N := ⟨_, rfl⟩
    have CSb : ∀ g, rb (.slice sa1 L.sh.length sc1) = some g → N0 ≤ g ∧ g < N1 := fun g e => hN1 ▸ hrs.lt g e
    have CQb : ∀ g, rb (.slice qa1 L.q.length qc1) = some g → N0 ≤ g ∧ g < N1 := fun g e => hN1 ▸ hrq2.lt g e
    have CS := hide hrs
    have CQ := hide hrq2
    have h01 : N0 ≤ N1 := by have := hbl.size; omega
    have HN : Hid (N1 ≤ V18.heap.size) := hide (Nat.le_of_eq hN1.symm)
    clear hrs hrq2 hbl hN0
    replace bx3 := Xbn bx3 m18
    have bnz2 := lt_of_block bx3.out
    obtain ⟨N3, hN3⟩ : ∃ N, V18.heap.size = N := ⟨_, rfl⟩
    have h13 : N1 ≤ N3 := hN3 ▸ HN.out
    refine kd_call (i := 4) (by kernel_rfl) rfl (by rfl) (by first | rfl | (go_simp; done)) (l4Begun_any line c t N0 L sa1 sc1 qa1 qc1 V18 CS.out CQ.out cap (Nat.le_trans h01 HN.out) hok hcc.1 hcc.2 htt ho) ?_
    rintro e V19 ⟨sa3, sc3, qa3, qc3, ta3, tc3, rfl, gs, gq, gt, gap, gfr, hbl⟩
    have m19 : Mv (nob) V18 V19 := Mv.of_below hbl
    replace hS := hS.step m19 (fun _ _ h => h.elim)
    refine ⟨_, rfl, fun _ => hS, ?_⟩
    refine ptk ?_
    replace CS := hide (CS.out.mv m19 (fun _ _ h => h))
    replace CQ := hide (CQ.out.mv m19 (fun _ _ h => h))
    replace HN := hide (Nat.le_trans HN.out (m19).size)
    rw [hN3] at gfr bnz2
    obtain ⟨N4, hN4⟩ : ∃ N, V19.heap.size = N := ⟨_, rfl⟩
    have GNb : ∀ g, (rb (.slice sa3 (Hm.begL L line c t).sh.length sc3) = some g ∨ rb (.slice qa3 (Hm.begL L line c t).q.length qc3) = some g ∨ rb (.slice ta3 (Hm.begM L line c t).length tc3) = some g) → ((N0 ≤ g ∧ g < N1) ∨ N3 ≤ g) ∧ g < N4 := fun g h => ⟨(gfr g h).elim (fun q => .inl (q.elim (CSb g) (CQb g))) .inr, hN4 ▸ (rows_lt gs gq gt g h).2⟩
    have GS := hide gs
    have GQ := hide gq
    have GT := hide gt
    clear gs gq gt gfr hbl CS CQ HN hN3
    refine tk0 5 (.tuple #[.agg #[.int .i64 (Hm.begL L line c t).mem, .int .i64 (Hm.begL L line c t).own, .slice sa3 (Hm.begL L line c t).sh.length sc3, .int .i64 (Hm.begL L line c t).bu, .int .i64 (Hm.begL L line c t).wt, .int .i64 (Hm.begL L line c t).ac, .slice qa3 (Hm.begL L line c t).q.length qc3], .slice ta3 (Hm.begM L line c t).length tc3, .bool true]) rfl ?_
    refine tk0 6 (.agg #[.int .i64 (Hm.begL L line c t).mem, .int .i64 (Hm.begL L line c t).own, .slice sa3 (Hm.begL L line c t).sh.length sc3, .int .i64 (Hm.begL L line c t).bu, .int .i64 (Hm.begL L line c t).wt, .int .i64 (Hm.begL L line c t).ac, .slice qa3 (Hm.begL L line c t).q.length qc3]) rfl ?_
    refine tk0 7 (.slice ta3 (Hm.begM L line c t).length tc3) rfl ?_
    refine tk0 8 (.bool true) rfl ?_
    replace bx3 := Xbn bx3 m19
    refine kd_skipI (i := 10) (w' := ((((((V19.setCell ⟨b3, 0, none⟩ (.int .i64 (Hm.begL L line c t).mem)).setCell ⟨b3, 1, none⟩ (.int .i64 (Hm.begL L line c t).own)).setCell ⟨b3, 2, none⟩ (.slice sa3 (Hm.begL L line c t).sh.length sc3)).setCell ⟨b3, 3, none⟩ (.int .i64 (Hm.begL L line c t).bu)).setCell ⟨b3, 4, none⟩ (.int .i64 (Hm.begL L line c t).wt)).setCell ⟨b3, 5, none⟩ (.int .i64 (Hm.begL L line c t).ac)).setCell ⟨b3, 6, none⟩ (.slice qa3 (Hm.begL L line c t).q.length qc3)) (fun V => Mv (fun g => g = b3) V19 V ∧ V.heap[b3]? = some (.cells #[.int .i64 (Hm.begL L line c t).mem, .int .i64 (Hm.begL L line c t).own, .slice sa3 (Hm.begL L line c t).sh.length sc3, .int .i64 (Hm.begL L line c t).bu, .int .i64 (Hm.begL L line c t).wt, .int .i64 (Hm.begL L line c t).ac, .slice qa3 (Hm.begL L line c t).q.length qc3] 31 (0, 0))) (by kernel_rfl) rfl (by rfl) (by have fr := fun i => frozen_of_row _ _ i _ _ bx3.out; have z0 := cell_box 0 bx3.out rfl; have z1 := cell_box 1 bx3.out rfl; have z2 := cell_box 2 bx3.out rfl; have z3 := cell_box 3 bx3.out rfl; have z4 := cell_box 4 bx3.out rfl; have z5 := cell_box 5 bx3.out rfl; have z6 := cell_box 6 bx3.out rfl; go_simp) ⟨Mv.set (Mv.set (Mv.set (Mv.set (Mv.set (Mv.set (Mv.set (Mv.refl _ _) _ _) _ _) _ _) _ _) _ _) _ _) _ _, (heap_setCell_same _ _ 6 _ _ _ (heap_setCell_same _ _ 5 _ _ _ (heap_setCell_same _ _ 4 _ _ _ (heap_setCell_same _ _ 3 _ _ _ (heap_setCell_same _ _ 2 _ _ _ (heap_setCell_same _ _ 1 _ _ _ (heap_setCell_same _ _ 0 _ _ _ (bx3.out)))))))).trans rfl⟩ (fun V hI _ => hS.step hI.1 (fun g hg h => by have h : g = b3 := h; exfalso; omega)) ?_
    rintro V20 ⟨m20, nxV20⟩
    refine ptk ?_
    replace GS := hide (GS.out.mv m20 (fun g e h => by have h : g = b3 := h; have := GNb g (.inl e); omega))
    replace GQ := hide (GQ.out.mv m20 (fun g e h => by have h : g = b3 := h; have := GNb g (.inr (.inl e)); omega))
    replace GT := hide (GT.out.mv m20 (fun g e h => by have h : g = b3 := h; have := GNb g (.inr (.inr e)); omega))
    replace bx3 := hide nxV20
    clear nxV20
    replace hS := hS.step m20 (fun g hg h => by have h : g = b3 := h; exfalso; omega)
    refine tk0 11 (.slice ta3 (Hm.begM L line c t).length tc3) rfl ?_
    refine tk0 12 (.bool true) rfl ?_
    refine wpAnyK_done (by kernel_rfl) ?_
    clear hS rbx0 rbx1
    refine then_normal (h4 _ _ (sk fun K11 h11 => sk fun K12 h12 => rl ?_)); clear h4 K4
    replace bx0 := Xbb (Xbn (Xbn (Xbn bx0 m17) m18) m19) m20; replace bx1 := Xbb (Xbn (Xbn (Xbn bx1 m17) m18) m19) m20; replace bx2 := Xbb (Xbn (Xbn (Xbn bx2 m17) m18) m19) m20; replace HB := Xhb (Xhn (Xhn HB m18) m19) m20
    refine sv (.bool true) ?_
    refine sg (.bool false) ?_
    refine nt (h12 _ _ (cf (wp_skip (then_normal (h11 _ _ (sk fun K13 h13 => rl ?_)))))); clear h12 K12; clear h11 K11
    refine sg (.agg #[.int .i64 (Hm.begL L line c t).mem, .int .i64 (Hm.begL L line c t).own, .slice sa3 (Hm.begL L line c t).sh.length sc3, .int .i64 (Hm.begL L line c t).bu, .int .i64 (Hm.begL L line c t).wt, .int .i64 (Hm.begL L line c t).ac, .slice qa3 (Hm.begL L line c t).q.length qc3]) (h := by have z0 := cell_box 0 (bx3.out) rfl; have z1 := cell_box 1 (bx3.out) rfl; have z2 := cell_box 2 (bx3.out) rfl; have z3 := cell_box 3 (bx3.out) rfl; have z4 := cell_box 4 (bx3.out) rfl; have z5 := cell_box 5 (bx3.out) rfl; have z6 := cell_box 6 (bx3.out) rfl; go_simp) ?_
    refine sv (.slice ta3 (Hm.begM L line c t).length tc3) ?_
    refine ss7 (.int .i64 (Hm.begL L line c t).mem) (.int .i64 (Hm.begL L line c t).own) (.slice sa3 (Hm.begL L line c t).sh.length sc3) (.int .i64 (Hm.begL L line c t).bu) (.int .i64 (Hm.begL L line c t).wt) (.int .i64 (Hm.begL L line c t).ac) (.slice qa3 (Hm.begL L line c t).q.length qc3) bx2 fun V21 m21 bx2 => ?_
    replace GS := hide (GS.out.mv m21 (fun g e h => by have h : g = b2 := h; have := GNb g (.inl e); omega))
    replace GQ := hide (GQ.out.mv m21 (fun g e h => by have h : g = b2 := h; have := GNb g (.inr (.inl e)); omega))
    replace GT := hide (GT.out.mv m21 (fun g e h => by have h : g = b2 := h; have := GNb g (.inr (.inr e)); omega))
    refine sv (.slice ta3 (Hm.begM L line c t).length tc3) ?_
    refine sv (.bool true) ?_
    refine nt (h13 _ _ (wp_ret ?_)); clear h13 K13
    replace HB := Xhb HB m21; replace bx0 := Xbb bx0 m21; replace bx1 := Xbb bx1 m21; replace bx3 := Xbb bx3 m21
    have q2_0 := cell_box 0 bx2.out rfl
    have q2_1 := cell_box 1 bx2.out rfl
    have q2_2 := cell_box 2 bx2.out rfl
    have q2_3 := cell_box 3 bx2.out rfl
    have q2_4 := cell_box 4 bx2.out rfl
    have q2_5 := cell_box 5 bx2.out rfl
    have q2_6 := cell_box 6 bx2.out rfl
    exact bodyPost_ret (v := .tuple #[.agg #[.int .i64 (Hm.begL L line c t).mem, .int .i64 (Hm.begL L line c t).own, .slice sa3 (Hm.begL L line c t).sh.length sc3, .int .i64 (Hm.begL L line c t).bu, .int .i64 (Hm.begL L line c t).wt, .int .i64 (Hm.begL L line c t).ac, .slice qa3 (Hm.begL L line c t).q.length qc3], .slice ta3 (Hm.begM L line c t).length tc3, .bool true]) (by simp [results, Tryd.results6, go_sem, q2_0, q2_1, q2_2, q2_3, q2_4, q2_5, q2_6]) rfl ⟨_, _, _, _, _, _, rfl, GS.out.base (by omega), GQ.out.base (by omega), GT.out.base (by omega), gap, HB.out.below⟩

theorem specBegun_any (line c t : Int) (L : Hm.Ln) (sa : Option Addr) (sc : Nat) (qa : Option Addr) (qc : Nat) (w : World) (hs : Sg w (.slice sa L.sh.length sc) 1 L.sh.length (gF (f1 L.sh))) (hfs : Gf (.slice sa L.sh.length sc) L.sh.length) (hq : Sg w (.slice qa L.q.length qc) 2 L.q.length (gF (f2 L.q))) (hfq : Gf (.slice qa L.q.length qc) L.q.length) (hsl : L.sh.length ≤ 1048576) (hql : L.q.length ≤ 1048576) :
    Calls Tryd.prog 6 #[.agg #[.int .i64 L.mem, .int .i64 L.own, .slice sa L.sh.length sc, .int .i64 L.bu, .int .i64 L.wt, .int .i64 L.ac, .slice qa L.q.length qc], .int .i64 line, .agg #[.int .i64 c, .int .i64 t]] w (LnP w (bgL L line c t) (bgM L line c t) (bgB L line c t)) := by
  cases hlk : lok L with
  | false =>
    have hB : bgB L line c t = false := by simp [bgB, hlk]
    rw [show bgL L line c t = zL from by simp [bgL, hB], show bgM L line c t = [] from by simp [bgM, hB], hB]
    exact sbegun_lok line c t L sa sc qa qc w hs hfs hq hfq hsl hql hlk
  | true =>
    cases hil : inB line 0 3 with
    | false =>
      have hB : bgB L line c t = false := by simp [bgB, hlk, hil]
      rw [show bgL L line c t = zL from by simp [bgL, hB], show bgM L line c t = [] from by simp [bgM, hB], hB]
      exact sbegun_line line c t L sa sc qa qc w hs hfs hq hfq hsl hql hlk hil
    | true =>
      cases hrq : reqB c t with
      | false =>
        have hB : bgB L line c t = false := by simp [bgB, hlk, hil, hrq]
        rw [show bgL L line c t = zL from by simp [bgL, hB], show bgM L line c t = [] from by simp [bgM, hB], hB]
        exact sbegun_req line c t L sa sc qa qc w hs hfs hq hfq hsl hql hlk hil hrq
      | true =>
        by_cases hbu : L.bu = 0
        · by_cases ho : L.own = c
          · skip
            have hB : bgB L line c t = false := by simp [bgB, hlk, hil, hrq, hbu, ho]
            rw [show bgL L line c t = zL from by simp [bgL, hB], show bgM L line c t = [] from by simp [bgM, hB], hB]
            exact sbegun_owns line c t L sa sc qa qc w hs hfs hq hfq hsl hql hlk hil hrq hbu ho
          · skip
            have hB : bgB L line c t = true := by simp [bgB, hlk, hil, hrq, hbu, ho]
            rw [show bgL L line c t = Hm.begL L line c t from by simp [bgL, hB], show bgM L line c t = Hm.begM L line c t from by simp [bgM, hB], hB]
            exact sbegun_yes line c t L sa sc qa qc w hs hfs hq hfq hsl hql hlk hil hrq hbu ho
        · skip
          have hB : bgB L line c t = false := by simp [bgB, hlk, hil, hrq, hbu]
          rw [show bgL L line c t = zL from by simp [bgL, hB], show bgM L line c t = [] from by simp [bgM, hB], hB]
          exact sbegun_busy line c t L sa sc qa qc w hs hfs hq hfq hsl hql hlk hil hrq hbu
end Go.Proofs.YtlalldlbgnlbjaaDoor
