/- HmR -/
import Derived.Test.YtlalldlbgnlbjaaGreatDoorYomeGot34
/- a home is told that somebody is done (written by mkHmR.py) -/
namespace Go.Proofs.YtlalldlbgnlbjaaGreatDoor
open Go.RowKit
set_option linter.unusedVariables false
set_option linter.unusedSimpArgs false

set_option maxRecDepth 20000 in
set_option maxHeartbeats 2000000 in
theorem acked_idle (E : Nat → Addr) (base hb : Nat) (L : Hm.Ln) (line : Int) (ms : List Hm.Mg) (sa : Option Addr) (sc : Nat) (qa : Option Addr) (qc : Nat) (ta : Option Addr) (tc : Nat) (w : World) (k c to l t d : Int) (h : Hr E w base hb L line ms sa sc qa qc ta tc) (hbu : L.bu = 0) :
    Calls Tryz.prog 69 #[.pointer (some ⟨hb, 0, none⟩), .agg #[.int .i64 k, .int .i64 c, .int .i64 to, .int .i64 l, .int .i64 t, .int .i64 d]] w (HPost E w base hb (.slice sa L.sh.length sc) (.slice qa L.q.length qc) (.slice ta ms.length tc) L line ms (rfV c (E 4))) := by
  have HB : Hid (Mv (Hb hb (.slice sa L.sh.length sc) (.slice qa L.q.length qc) (.slice ta ms.length tc)) w w) := hide (Mv.refl _ _)
  have hlo := h.lo
  have hb4 := h.b4
  have hlt := lt_of_block h.bx
  have AP := h.ap
  have FR : ∀ g, Hb hb (.slice sa L.sh.length sc) (.slice qa L.q.length qc) (.slice ta ms.length tc) g → Hb hb (.slice sa L.sh.length sc) (.slice qa L.q.length qc) (.slice ta ms.length tc) g ∨ w.heap.size ≤ g := fun g h => .inl h
  have bx0 := hide h.bx; have RS := hide h.rs; have RQ := hide h.rq; have RT := hide h.rt; have GL := hide h.gl; clear h
  have NB : Hid (∀ g, (rb (.slice sa L.sh.length sc) = some g ∨ rb (.slice qa L.q.length qc) = some g ∨ rb (.slice ta ms.length tc) = some g) → g ≠ hb) := hide (fun g h => HAp.ne AP h)
  go_enter Tryz.func69, Tryz.ntmps69
  refine sk fun K1 h1 => rl ?_
  refine sbp #[.int .i64 k, .int .i64 c, .int .i64 to, .int .i64 l, .int .i64 t, .int .i64 d] 36 fun V1 b1 hb1 m1 bx1 => ?_
  have o0_1 := Xlo bx0 hb1
  have og_1 : w.heap.size ≤ b1 := Xhs HB hb1
  replace NB : Hid (∀ g, (rb (.slice sa L.sh.length sc) = some g ∨ rb (.slice qa L.q.length qc) = some g ∨ rb (.slice ta ms.length tc) = some g) → g ≠ hb ∧ g ≠ b1) := hide (fun g h => by have h1 := NB.out g h; have h2 := rows_lt RS.out RQ.out RT.out g h; exact (by omega))
  replace RS := hide (RS.out.mv m1 (fun _ _ h => h))
  replace RQ := hide (RQ.out.mv m1 (fun _ _ h => h))
  replace RT := hide (RT.out.mv m1 (fun _ _ h => h))
  replace GL := hide (GL.out.mv m1 (fun _ _ h => h))
  clear hb1
  refine sv (.nilIface) ?_
  refine nt (h1 _ _ (sk fun K2 h2 => sk fun K3 h3 => rl ?_)); clear h1 K1
  have hbv : Hid ((L.bu != 0) = false) := hide (by simp [hbu])
  clear hbu
  refine sv (.pointer (some ⟨hb, 0, none⟩)) ?_
  refine sg (.pointer (some ⟨hb, 0, none⟩)) ?_
  refine sv (.pointer (some ⟨hb, 0, none⟩)) ?_
  replace bx0 := Xbn bx0 m1
  refine sg (.agg #[.int .i64 L.mem, .int .i64 L.own, .slice sa L.sh.length sc, .int .i64 L.bu, .int .i64 L.wt, .int .i64 L.ac, .slice qa L.q.length qc]) (h := by have z0 := cell_box 0 (bx0.out) rfl; have z1 := cell_box 1 (bx0.out) rfl; have z2 := cell_box 2 (bx0.out) rfl; have z3 := cell_box 3 (bx0.out) rfl; have z4 := cell_box 4 (bx0.out) rfl; have z5 := cell_box 5 (bx0.out) rfl; have z6 := cell_box 6 (bx0.out) rfl; go_simp) ?_
  refine sw_call (by rfl) (by first | rfl | (go_simp; done)) (isBusy_any L.mem L.own (.slice sa L.sh.length sc) L.bu L.wt L.ac (.slice qa L.q.length qc) V1) ?_
  rintro e V2 ⟨rfl, hbl⟩
  have m2 : Mv (nob) V1 V2 := Mv.of_below hbl
  refine ⟨_, rfl, ?_⟩
  refine pt ?_
  replace RS := hide (RS.out.mv m2 (fun _ _ h => h))
  replace RQ := hide (RQ.out.mv m2 (fun _ _ h => h))
  replace RT := hide (RT.out.mv m2 (fun _ _ h => h))
  replace GL := hide (GL.out.mv m2 (fun _ _ h => h))
  clear hbl
  rw [hbv.out]
  refine sg (.bool true) ?_
  refine sv (.bool true) ?_
  with_reducible refine sp ?_
  with_reducible refine sp ?_
  with_reducible refine sp ?_
  with_reducible refine sp ?_
  with_reducible refine sp ?_
  with_reducible refine sp ?_
  refine sg (.bool true) ?_
  refine sv (.bool true) ?_
  with_reducible refine sp ?_
  with_reducible refine sp ?_
  with_reducible refine sp ?_
  with_reducible refine sp ?_
  with_reducible refine sp ?_
  with_reducible refine sp ?_
  refine sg (.bool true) ?_
  refine nt (h3 _ _ (ct (sk fun K4 h4 => rl ?_))); clear h3 K3
  refine sv (.pointer (some ⟨b1, 1, none⟩)) ?_
  replace bx1 := Xbn bx1 m2
  refine sl 1 bx1 ?_
  refine sg (erV (E 4)) (h := by have z0 := GL.out.unasked; go_simp) ?_
  refine sv (.agg #[.int .i64 c, erV (E 4)]) ?_
  refine sg (.iface 89 (.agg #[.int .i64 c, erV (E 4)])) ?_
  refine sv (.iface 89 (.agg #[.int .i64 c, erV (E 4)])) ?_
  refine nt (h4 _ _ (wp_ret (then_ret ?_))); clear h4 K4; clear h2 K2
  replace HB := Xhn (Xhn HB m1) m2; replace bx0 := Xbn bx0 m2
  exact bodyPost_ret (v := rfV c (E 4)) (by simp [results, Tryz.results69, go_sem]) rfl ⟨_, _, _, _, _, _, rfl, ⟨bx0.out, RS.out, RQ.out, RT.out, AP, hlo, GL.out, hb4⟩, FR, HB.out⟩

set_option maxRecDepth 20000 in
set_option maxHeartbeats 2000000 in
theorem acked_owned (E : Nat → Addr) (base hb : Nat) (L : Hm.Ln) (line : Int) (ms : List Hm.Mg) (sa : Option Addr) (sc : Nat) (qa : Option Addr) (qc : Nat) (ta : Option Addr) (tc : Nat) (w : World) (k c to l t d : Int) (h : Hr E w base hb L line ms sa sc qa qc ta tc) (hbu : ¬ L.bu = 0) (ho : ¬ L.own = 0) :
    Calls Tryz.prog 69 #[.pointer (some ⟨hb, 0, none⟩), .agg #[.int .i64 k, .int .i64 c, .int .i64 to, .int .i64 l, .int .i64 t, .int .i64 d]] w (HPost E w base hb (.slice sa L.sh.length sc) (.slice qa L.q.length qc) (.slice ta ms.length tc) L line ms (rfV c (E 4))) := by
  have HB : Hid (Mv (Hb hb (.slice sa L.sh.length sc) (.slice qa L.q.length qc) (.slice ta ms.length tc)) w w) := hide (Mv.refl _ _)
  have hlo := h.lo
  have hb4 := h.b4
  have hlt := lt_of_block h.bx
  have AP := h.ap
  have FR : ∀ g, Hb hb (.slice sa L.sh.length sc) (.slice qa L.q.length qc) (.slice ta ms.length tc) g → Hb hb (.slice sa L.sh.length sc) (.slice qa L.q.length qc) (.slice ta ms.length tc) g ∨ w.heap.size ≤ g := fun g h => .inl h
  have bx0 := hide h.bx; have RS := hide h.rs; have RQ := hide h.rq; have RT := hide h.rt; have GL := hide h.gl; clear h
  have NB : Hid (∀ g, (rb (.slice sa L.sh.length sc) = some g ∨ rb (.slice qa L.q.length qc) = some g ∨ rb (.slice ta ms.length tc) = some g) → g ≠ hb) := hide (fun g h => HAp.ne AP h)
  go_enter Tryz.func69, Tryz.ntmps69
  refine sk fun K1 h1 => rl ?_
  refine sbp #[.int .i64 k, .int .i64 c, .int .i64 to, .int .i64 l, .int .i64 t, .int .i64 d] 36 fun V1 b1 hb1 m1 bx1 => ?_
  have o0_1 := Xlo bx0 hb1
  have og_1 : w.heap.size ≤ b1 := Xhs HB hb1
  replace NB : Hid (∀ g, (rb (.slice sa L.sh.length sc) = some g ∨ rb (.slice qa L.q.length qc) = some g ∨ rb (.slice ta ms.length tc) = some g) → g ≠ hb ∧ g ≠ b1) := hide (fun g h => by have h1 := NB.out g h; have h2 := rows_lt RS.out RQ.out RT.out g h; exact (by omega))
  replace RS := hide (RS.out.mv m1 (fun _ _ h => h))
  replace RQ := hide (RQ.out.mv m1 (fun _ _ h => h))
  replace RT := hide (RT.out.mv m1 (fun _ _ h => h))
  replace GL := hide (GL.out.mv m1 (fun _ _ h => h))
  clear hb1
  refine sv (.nilIface) ?_
  refine nt (h1 _ _ (sk fun K2 h2 => sk fun K3 h3 => rl ?_)); clear h1 K1
  have hbv : Hid ((L.bu != 0) = true) := hide (by simpa using hbu)
  clear hbu
  have hov : Hid ((L.own != 0) = true) := hide (by simpa using ho)
  clear ho
  refine sv (.pointer (some ⟨hb, 0, none⟩)) ?_
  refine sg (.pointer (some ⟨hb, 0, none⟩)) ?_
  refine sv (.pointer (some ⟨hb, 0, none⟩)) ?_
  replace bx0 := Xbn bx0 m1
  refine sg (.agg #[.int .i64 L.mem, .int .i64 L.own, .slice sa L.sh.length sc, .int .i64 L.bu, .int .i64 L.wt, .int .i64 L.ac, .slice qa L.q.length qc]) (h := by have z0 := cell_box 0 (bx0.out) rfl; have z1 := cell_box 1 (bx0.out) rfl; have z2 := cell_box 2 (bx0.out) rfl; have z3 := cell_box 3 (bx0.out) rfl; have z4 := cell_box 4 (bx0.out) rfl; have z5 := cell_box 5 (bx0.out) rfl; have z6 := cell_box 6 (bx0.out) rfl; go_simp) ?_
  refine sw_call (by rfl) (by first | rfl | (go_simp; done)) (isBusy_any L.mem L.own (.slice sa L.sh.length sc) L.bu L.wt L.ac (.slice qa L.q.length qc) V1) ?_
  rintro e V2 ⟨rfl, hbl⟩
  have m2 : Mv (nob) V1 V2 := Mv.of_below hbl
  refine ⟨_, rfl, ?_⟩
  refine pt ?_
  replace RS := hide (RS.out.mv m2 (fun _ _ h => h))
  replace RQ := hide (RQ.out.mv m2 (fun _ _ h => h))
  replace RT := hide (RT.out.mv m2 (fun _ _ h => h))
  replace GL := hide (GL.out.mv m2 (fun _ _ h => h))
  clear hbl
  rw [hbv.out]
  refine sg (.bool false) ?_
  refine sv (.bool false) ?_
  refine sv (.pointer (some ⟨hb, 0, none⟩)) ?_
  refine sg (.pointer (some ⟨hb, 0, none⟩)) ?_
  refine sv (.pointer (some ⟨hb, 0, none⟩)) ?_
  refine sv (.pointer (some ⟨hb, 1, none⟩)) ?_
  replace bx0 := Xbn bx0 m2
  refine sl 1 bx0 ?_
  refine sg (.bool true) (h := by have hd := hov.out; go_simp) ?_
  refine sg (.bool true) ?_
  refine sv (.bool true) ?_
  with_reducible refine sp ?_
  with_reducible refine sp ?_
  with_reducible refine sp ?_
  with_reducible refine sp ?_
  with_reducible refine sp ?_
  with_reducible refine sp ?_
  refine sg (.bool true) ?_
  refine nt (h3 _ _ (ct (sk fun K4 h4 => rl ?_))); clear h3 K3
  refine sv (.pointer (some ⟨b1, 1, none⟩)) ?_
  replace bx1 := Xbn bx1 m2
  refine sl 1 bx1 ?_
  refine sg (erV (E 4)) (h := by have z0 := GL.out.unasked; go_simp) ?_
  refine sv (.agg #[.int .i64 c, erV (E 4)]) ?_
  refine sg (.iface 89 (.agg #[.int .i64 c, erV (E 4)])) ?_
  refine sv (.iface 89 (.agg #[.int .i64 c, erV (E 4)])) ?_
  refine nt (h4 _ _ (wp_ret (then_ret ?_))); clear h4 K4; clear h2 K2
  replace HB := Xhn (Xhn HB m1) m2
  exact bodyPost_ret (v := rfV c (E 4)) (by simp [results, Tryz.results69, go_sem]) rfl ⟨_, _, _, _, _, _, rfl, ⟨bx0.out, RS.out, RQ.out, RT.out, AP, hlo, GL.out, hb4⟩, FR, HB.out⟩

set_option maxRecDepth 20000 in
set_option maxHeartbeats 2000000 in
theorem acked_read (E : Nat → Addr) (base hb : Nat) (L : Hm.Ln) (line : Int) (ms : List Hm.Mg) (sa : Option Addr) (sc : Nat) (qa : Option Addr) (qc : Nat) (ta : Option Addr) (tc : Nat) (w : World) (k c to l t d : Int) (h : Hr E w base hb L line ms sa sc qa qc ta tc) (hbu : ¬ L.bu = 0) (ho : L.own = 0) (hw : L.wt = 1) :
    Calls Tryz.prog 69 #[.pointer (some ⟨hb, 0, none⟩), .agg #[.int .i64 k, .int .i64 c, .int .i64 to, .int .i64 l, .int .i64 t, .int .i64 d]] w (HPost E w base hb (.slice sa L.sh.length sc) (.slice qa L.q.length qc) (.slice ta ms.length tc) L line ms (rfV c (E 4))) := by
  have HB : Hid (Mv (Hb hb (.slice sa L.sh.length sc) (.slice qa L.q.length qc) (.slice ta ms.length tc)) w w) := hide (Mv.refl _ _)
  have hlo := h.lo
  have hb4 := h.b4
  have hlt := lt_of_block h.bx
  have AP := h.ap
  have FR : ∀ g, Hb hb (.slice sa L.sh.length sc) (.slice qa L.q.length qc) (.slice ta ms.length tc) g → Hb hb (.slice sa L.sh.length sc) (.slice qa L.q.length qc) (.slice ta ms.length tc) g ∨ w.heap.size ≤ g := fun g h => .inl h
  have bx0 := hide h.bx; have RS := hide h.rs; have RQ := hide h.rq; have RT := hide h.rt; have GL := hide h.gl; clear h
  have NB : Hid (∀ g, (rb (.slice sa L.sh.length sc) = some g ∨ rb (.slice qa L.q.length qc) = some g ∨ rb (.slice ta ms.length tc) = some g) → g ≠ hb) := hide (fun g h => HAp.ne AP h)
  go_enter Tryz.func69, Tryz.ntmps69
  refine sk fun K1 h1 => rl ?_
  refine sbp #[.int .i64 k, .int .i64 c, .int .i64 to, .int .i64 l, .int .i64 t, .int .i64 d] 36 fun V1 b1 hb1 m1 bx1 => ?_
  have o0_1 := Xlo bx0 hb1
  have og_1 : w.heap.size ≤ b1 := Xhs HB hb1
  replace NB : Hid (∀ g, (rb (.slice sa L.sh.length sc) = some g ∨ rb (.slice qa L.q.length qc) = some g ∨ rb (.slice ta ms.length tc) = some g) → g ≠ hb ∧ g ≠ b1) := hide (fun g h => by have h1 := NB.out g h; have h2 := rows_lt RS.out RQ.out RT.out g h; exact (by omega))
  replace RS := hide (RS.out.mv m1 (fun _ _ h => h))
  replace RQ := hide (RQ.out.mv m1 (fun _ _ h => h))
  replace RT := hide (RT.out.mv m1 (fun _ _ h => h))
  replace GL := hide (GL.out.mv m1 (fun _ _ h => h))
  clear hb1
  refine sv (.nilIface) ?_
  refine nt (h1 _ _ (sk fun K2 h2 => sk fun K3 h3 => rl ?_)); clear h1 K1
  have hbv : Hid ((L.bu != 0) = true) := hide (by simpa using hbu)
  clear hbu
  have hov : Hid ((L.own != 0) = false) := hide (by simp [ho])
  clear ho
  have hwv : Hid ((L.wt == 1) = true) := hide (by simpa using hw)
  clear hw
  refine sv (.pointer (some ⟨hb, 0, none⟩)) ?_
  refine sg (.pointer (some ⟨hb, 0, none⟩)) ?_
  refine sv (.pointer (some ⟨hb, 0, none⟩)) ?_
  replace bx0 := Xbn bx0 m1
  refine sg (.agg #[.int .i64 L.mem, .int .i64 L.own, .slice sa L.sh.length sc, .int .i64 L.bu, .int .i64 L.wt, .int .i64 L.ac, .slice qa L.q.length qc]) (h := by have z0 := cell_box 0 (bx0.out) rfl; have z1 := cell_box 1 (bx0.out) rfl; have z2 := cell_box 2 (bx0.out) rfl; have z3 := cell_box 3 (bx0.out) rfl; have z4 := cell_box 4 (bx0.out) rfl; have z5 := cell_box 5 (bx0.out) rfl; have z6 := cell_box 6 (bx0.out) rfl; go_simp) ?_
  refine sw_call (by rfl) (by first | rfl | (go_simp; done)) (isBusy_any L.mem L.own (.slice sa L.sh.length sc) L.bu L.wt L.ac (.slice qa L.q.length qc) V1) ?_
  rintro e V2 ⟨rfl, hbl⟩
  have m2 : Mv (nob) V1 V2 := Mv.of_below hbl
  refine ⟨_, rfl, ?_⟩
  refine pt ?_
  replace RS := hide (RS.out.mv m2 (fun _ _ h => h))
  replace RQ := hide (RQ.out.mv m2 (fun _ _ h => h))
  replace RT := hide (RT.out.mv m2 (fun _ _ h => h))
  replace GL := hide (GL.out.mv m2 (fun _ _ h => h))
  clear hbl
  rw [hbv.out]
  refine sg (.bool false) ?_
  refine sv (.bool false) ?_
  refine sv (.pointer (some ⟨hb, 0, none⟩)) ?_
  refine sg (.pointer (some ⟨hb, 0, none⟩)) ?_
  refine sv (.pointer (some ⟨hb, 0, none⟩)) ?_
  refine sv (.pointer (some ⟨hb, 1, none⟩)) ?_
  replace bx0 := Xbn bx0 m2
  refine sl 1 bx0 ?_
  refine sg (.bool false) (h := by have hd := hov.out; go_simp) ?_
  refine sg (.bool false) ?_
  refine sv (.bool false) ?_
  refine sv (.pointer (some ⟨hb, 0, none⟩)) ?_
  refine sg (.pointer (some ⟨hb, 0, none⟩)) ?_
  refine sv (.pointer (some ⟨hb, 0, none⟩)) ?_
  refine sv (.pointer (some ⟨hb, 4, none⟩)) ?_
  refine sl 4 bx0 ?_
  refine sg (.bool true) (h := by have hd := hwv.out; go_simp) ?_
  refine sg (.bool true) ?_
  refine nt (h3 _ _ (ct (sk fun K4 h4 => rl ?_))); clear h3 K3
  refine sv (.pointer (some ⟨b1, 1, none⟩)) ?_
  replace bx1 := Xbn bx1 m2
  refine sl 1 bx1 ?_
  refine sg (erV (E 4)) (h := by have z0 := GL.out.unasked; go_simp) ?_
  refine sv (.agg #[.int .i64 c, erV (E 4)]) ?_
  refine sg (.iface 89 (.agg #[.int .i64 c, erV (E 4)])) ?_
  refine sv (.iface 89 (.agg #[.int .i64 c, erV (E 4)])) ?_
  refine nt (h4 _ _ (wp_ret (then_ret ?_))); clear h4 K4; clear h2 K2
  replace HB := Xhn (Xhn HB m1) m2
  exact bodyPost_ret (v := rfV c (E 4)) (by simp [results, Tryz.results69, go_sem]) rfl ⟨_, _, _, _, _, _, rfl, ⟨bx0.out, RS.out, RQ.out, RT.out, AP, hlo, GL.out, hb4⟩, FR, HB.out⟩

set_option maxRecDepth 20000 in
set_option maxHeartbeats 2000000 in
theorem acked_more (E : Nat → Addr) (base hb : Nat) (L : Hm.Ln) (line : Int) (ms : List Hm.Mg) (sa : Option Addr) (sc : Nat) (qa : Option Addr) (qc : Nat) (ta : Option Addr) (tc : Nat) (w : World) (k c to l t d : Int) (h : Hr E w base hb L line ms sa sc qa qc ta tc) (hbu : ¬ L.bu = 0) (ho : L.own = 0) (hw : ¬ L.wt = 1) (ha : 1 < L.ac) (ha5 : L.ac ≤ 5) :
    Calls Tryz.prog 69 #[.pointer (some ⟨hb, 0, none⟩), .agg #[.int .i64 k, .int .i64 c, .int .i64 to, .int .i64 l, .int .i64 t, .int .i64 d]] w (HPost E w base hb (.slice sa L.sh.length sc) (.slice qa L.q.length qc) (.slice ta ms.length tc) { L with ac := L.ac - 1 } line ms .nilIface) := by
  have HB : Hid (Mv (Hb hb (.slice sa L.sh.length sc) (.slice qa L.q.length qc) (.slice ta ms.length tc)) w w) := hide (Mv.refl _ _)
  have hlo := h.lo
  have hb4 := h.b4
  have hlt := lt_of_block h.bx
  have AP := h.ap
  have FR : ∀ g, Hb hb (.slice sa L.sh.length sc) (.slice qa L.q.length qc) (.slice ta ms.length tc) g → Hb hb (.slice sa L.sh.length sc) (.slice qa L.q.length qc) (.slice ta ms.length tc) g ∨ w.heap.size ≤ g := fun g h => .inl h
  have bx0 := hide h.bx; have RS := hide h.rs; have RQ := hide h.rq; have RT := hide h.rt; have GL := hide h.gl; clear h
  have NB : Hid (∀ g, (rb (.slice sa L.sh.length sc) = some g ∨ rb (.slice qa L.q.length qc) = some g ∨ rb (.slice ta ms.length tc) = some g) → g ≠ hb) := hide (fun g h => HAp.ne AP h)
  go_enter Tryz.func69, Tryz.ntmps69
  refine sk fun K1 h1 => rl ?_
  refine sbp #[.int .i64 k, .int .i64 c, .int .i64 to, .int .i64 l, .int .i64 t, .int .i64 d] 36 fun V1 b1 hb1 m1 bx1 => ?_
  have o0_1 := Xlo bx0 hb1
  have og_1 : w.heap.size ≤ b1 := Xhs HB hb1
  replace NB : Hid (∀ g, (rb (.slice sa L.sh.length sc) = some g ∨ rb (.slice qa L.q.length qc) = some g ∨ rb (.slice ta ms.length tc) = some g) → g ≠ hb ∧ g ≠ b1) := hide (fun g h => by have h1 := NB.out g h; have h2 := rows_lt RS.out RQ.out RT.out g h; exact (by omega))
  replace RS := hide (RS.out.mv m1 (fun _ _ h => h))
  replace RQ := hide (RQ.out.mv m1 (fun _ _ h => h))
  replace RT := hide (RT.out.mv m1 (fun _ _ h => h))
  replace GL := hide (GL.out.mv m1 (fun _ _ h => h))
  clear hb1
  refine sv (.nilIface) ?_
  refine nt (h1 _ _ (sk fun K2 h2 => sk fun K3 h3 => rl ?_)); clear h1 K1
  have hbv : Hid ((L.bu != 0) = true) := hide (by simpa using hbu)
  clear hbu
  have hov : Hid ((L.own != 0) = false) := hide (by simp [ho])
  clear ho
  have hwv : Hid ((L.wt == 1) = false) := hide (by simpa using hw)
  clear hw
  refine sv (.pointer (some ⟨hb, 0, none⟩)) ?_
  refine sg (.pointer (some ⟨hb, 0, none⟩)) ?_
  refine sv (.pointer (some ⟨hb, 0, none⟩)) ?_
  replace bx0 := Xbn bx0 m1
  refine sg (.agg #[.int .i64 L.mem, .int .i64 L.own, .slice sa L.sh.length sc, .int .i64 L.bu, .int .i64 L.wt, .int .i64 L.ac, .slice qa L.q.length qc]) (h := by have z0 := cell_box 0 (bx0.out) rfl; have z1 := cell_box 1 (bx0.out) rfl; have z2 := cell_box 2 (bx0.out) rfl; have z3 := cell_box 3 (bx0.out) rfl; have z4 := cell_box 4 (bx0.out) rfl; have z5 := cell_box 5 (bx0.out) rfl; have z6 := cell_box 6 (bx0.out) rfl; go_simp) ?_
  refine sw_call (by rfl) (by first | rfl | (go_simp; done)) (isBusy_any L.mem L.own (.slice sa L.sh.length sc) L.bu L.wt L.ac (.slice qa L.q.length qc) V1) ?_
  rintro e V2 ⟨rfl, hbl⟩
  have m2 : Mv (nob) V1 V2 := Mv.of_below hbl
  refine ⟨_, rfl, ?_⟩
  refine pt ?_
  replace RS := hide (RS.out.mv m2 (fun _ _ h => h))
  replace RQ := hide (RQ.out.mv m2 (fun _ _ h => h))
  replace RT := hide (RT.out.mv m2 (fun _ _ h => h))
  replace GL := hide (GL.out.mv m2 (fun _ _ h => h))
  clear hbl
  rw [hbv.out]
  refine sg (.bool false) ?_
  refine sv (.bool false) ?_
  refine sv (.pointer (some ⟨hb, 0, none⟩)) ?_
  refine sg (.pointer (some ⟨hb, 0, none⟩)) ?_
  refine sv (.pointer (some ⟨hb, 0, none⟩)) ?_
  refine sv (.pointer (some ⟨hb, 1, none⟩)) ?_
  replace bx0 := Xbn bx0 m2
  refine sl 1 bx0 ?_
  refine sg (.bool false) (h := by have hd := hov.out; go_simp) ?_
  refine sg (.bool false) ?_
  refine sv (.bool false) ?_
  refine sv (.pointer (some ⟨hb, 0, none⟩)) ?_
  refine sg (.pointer (some ⟨hb, 0, none⟩)) ?_
  refine sv (.pointer (some ⟨hb, 0, none⟩)) ?_
  refine sv (.pointer (some ⟨hb, 4, none⟩)) ?_
  refine sl 4 bx0 ?_
  refine sg (.bool false) (h := by have hd := hwv.out; go_simp) ?_
  refine sg (.bool false) ?_
  refine nt (h3 _ _ (cf (wp_skip (then_normal (h2 _ _ (sk fun K4 h4 => rl ?_)))))); clear h3 K3; clear h2 K2
  refine sv (.pointer (some ⟨hb, 0, none⟩)) ?_
  refine sg (.pointer (some ⟨hb, 0, none⟩)) ?_
  refine sv (.pointer (some ⟨hb, 0, none⟩)) ?_
  refine sv (.pointer (some ⟨hb, 5, none⟩)) ?_
  refine sl 5 bx0 ?_
  refine sg (.int .i64 (L.ac - 1)) (h := by have hq : IntKind.i64.wrap (L.ac - 1) = L.ac - 1 := i64wrap (by omega); go_simp) ?_
  refine sg (.pointer (some ⟨hb, 0, none⟩)) ?_
  refine sv (.pointer (some ⟨hb, 0, none⟩)) ?_
  refine sv (.pointer (some ⟨hb, 5, none⟩)) ?_
  refine ss 5 (.int .i64 (L.ac - 1)) bx0 fun V3 m3 bx0 => ?_
  replace HB := Xhn (Xhn HB m1) m2
  replace HB := hide (HB.out.step m3 (fun g hg e => .inl e))
  replace RS := hide (RS.out.mv m3 (fun g e h => by have h : g = hb := h; have := NB.out g (.inl e); omega))
  replace RQ := hide (RQ.out.mv m3 (fun g e h => by have h : g = hb := h; have := NB.out g (.inr (.inl e)); omega))
  replace RT := hide (RT.out.mv m3 (fun g e h => by have h : g = hb := h; have := NB.out g (.inr (.inr e)); omega))
  replace GL := hide (GL.out.mv m3 (fun g hg h => by have h : g = hb := h; omega))
  refine nt (h4 _ _ (sk fun K5 h5 => sk fun K6 h6 => rl ?_)); clear h4 K4
  refine sv (.pointer (some ⟨hb, 0, none⟩)) ?_
  refine sg (.pointer (some ⟨hb, 0, none⟩)) ?_
  refine sv (.pointer (some ⟨hb, 0, none⟩)) ?_
  refine sv (.pointer (some ⟨hb, 5, none⟩)) ?_
  refine sl 5 bx0 ?_
  refine sg (.bool true) (h := by have hd : decide (0 < L.ac - 1) = true := (by simp; omega); have hd2 : decide (L.ac - 1 > 0) = true := (by simp; omega); go_simp) ?_
  refine nt (h6 _ _ (ct (sk fun K7 h7 => rl ?_))); clear h6 K6
  refine sv (.nilIface) ?_
  refine nt (h7 _ _ (wp_ret (then_ret ?_))); clear h7 K7; clear h5 K5
  replace bx1 := Xbb (Xbn bx1 m2) m3
  exact bodyPost_ret (v := .nilIface) (by simp [results, Tryz.results69, go_sem]) rfl ⟨_, _, _, _, _, _, rfl, ⟨bx0.out, RS.out, RQ.out, RT.out, AP, hlo, GL.out, hb4⟩, FR, HB.out⟩

end Go.Proofs.YtlalldlbgnlbjaaGreatDoor
