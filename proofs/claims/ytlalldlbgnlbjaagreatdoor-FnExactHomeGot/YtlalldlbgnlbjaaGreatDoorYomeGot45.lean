/- HnC -/
import Derived.Test.YtlalldlbgnlbjaaGreatDoorYomeGot44
/- a home is told something (written by mkHnC.py) -/
namespace Go.Proofs.YtlalldlbgnlbjaaGreatDoor
open Go.RowKit
set_option linter.unusedVariables false
set_option linter.unusedSimpArgs false

set_option maxRecDepth 20000 in
set_option maxHeartbeats 2000000 in
theorem got_1 (E : Nat → Addr) (base hb : Nat) (L : Hm.Ln) (line : Int) (ms : List Hm.Mg) (sa : Option Addr) (sc : Nat) (qa : Option Addr) (qc : Nat) (ta : Option Addr) (tc : Nat) (w : World) (c to l t d : Int) (L2 : Hm.Ln) (ms2 : List Hm.Mg) (r : Value) (h : Hr E w base hb L line ms sa sc qa qc ta tc) (he : Er E w base) (hm : ∀ (sa : Option Addr) (sc : Nat) (qa : Option Addr) (qc : Nat) (ta : Option Addr) (tc : Nat) (w : World), Hr E w base hb L line ms sa sc qa qc ta tc → Er E w base → Calls Tryz.prog 67 #[.pointer (some ⟨hb, 0, none⟩), .agg #[.int .i64 c, .int .i64 1]] w (HPost E w base hb (.slice sa L.sh.length sc) (.slice qa L.q.length qc) (.slice ta ms.length tc) L2 line ms2 r)) :
    Calls Tryz.prog 33 #[.pointer (some ⟨hb, 0, none⟩), .agg #[.int .i64 1, .int .i64 c, .int .i64 to, .int .i64 l, .int .i64 t, .int .i64 d]] w (HPost E w base hb (.slice sa L.sh.length sc) (.slice qa L.q.length qc) (.slice ta ms.length tc) L2 line ms2 r) := by
  have HB : Hid (Mv (Hb hb (.slice sa L.sh.length sc) (.slice qa L.q.length qc) (.slice ta ms.length tc)) w w) := hide (Mv.refl _ _)
  have hlo := h.lo
  have hb4 := h.b4
  have hlt := lt_of_block h.bx
  have AP := h.ap
  have FR : ∀ g, Hb hb (.slice sa L.sh.length sc) (.slice qa L.q.length qc) (.slice ta ms.length tc) g → Hb hb (.slice sa L.sh.length sc) (.slice qa L.q.length qc) (.slice ta ms.length tc) g ∨ w.heap.size ≤ g := fun g h => .inl h
  have bx0 := hide h.bx; have RS := hide h.rs; have RQ := hide h.rq; have RT := hide h.rt; have GL := hide h.gl; clear h
  have NB : Hid (∀ g, (rb (.slice sa L.sh.length sc) = some g ∨ rb (.slice qa L.q.length qc) = some g ∨ rb (.slice ta ms.length tc) = some g) → g ≠ hb) := hide (fun g h => HAp.ne AP h)
  have ER := hide he; clear he
  go_enter Tryz.func33, Tryz.ntmps33
  refine sk fun K1 h1 => rl ?_
  refine sbp #[.int .i64 1, .int .i64 c, .int .i64 to, .int .i64 l, .int .i64 t, .int .i64 d] 36 fun V1 b1 hb1 m1 bx1 => ?_
  have o0_1 := Xlo bx0 hb1
  have og_1 : w.heap.size ≤ b1 := Xhs HB hb1
  replace NB : Hid (∀ g, (rb (.slice sa L.sh.length sc) = some g ∨ rb (.slice qa L.q.length qc) = some g ∨ rb (.slice ta ms.length tc) = some g) → g ≠ hb ∧ g ≠ b1) := hide (fun g h => by have h1 := NB.out g h; have h2 := rows_lt RS.out RQ.out RT.out g h; exact (by omega))
  replace RS := hide (RS.out.mv m1 (fun _ _ h => h))
  replace RQ := hide (RQ.out.mv m1 (fun _ _ h => h))
  replace RT := hide (RT.out.mv m1 (fun _ _ h => h))
  replace GL := hide (GL.out.mv m1 (fun _ _ h => h))
  replace ER := hide (ER.out.mv m1 (fun _ _ h => h))
  clear hb1
  refine sv (.nilIface) ?_
  refine nt (h1 _ _ (sk fun K2 h2 => sk fun K3 h3 => rl ?_)); clear h1 K1
  refine sv (.pointer (some ⟨b1, 0, none⟩)) ?_
  refine sl 0 bx1 ?_
  refine nt (h3 _ _ (wp_block (sk fun K4 h4 => rl ?_))); clear h3 K3
  refine sg (.bool true) ?_
  refine sv (.bool true) ?_
  refine nt (h4 _ _ (ct (sk fun K5 h5 => rl ?_))); clear h4 K4
  refine sv (.pointer (some ⟨hb, 0, none⟩)) ?_
  refine sv (.pointer (some ⟨b1, 1, none⟩)) ?_
  refine sl 1 bx1 ?_
  refine sv (.agg #[.int .i64 c, .int .i64 1]) ?_
  replace HB := Xhn HB m1
  have hsz := HB.out.size
  have h4b : ∀ g, Hb hb (.slice sa L.sh.length sc) (.slice qa L.q.length qc) (.slice ta ms.length tc) g → 7 ≤ g := fun g h => Nat.le_trans hb4 (h.elim (fun e => e ▸ hlo) (fun q => (rows_lt RS.out RQ.out RT.out g q).1))
  have SF : ∀ g, Hb hb (.slice sa L.sh.length sc) (.slice qa L.q.length qc) (.slice ta ms.length tc) g → g ≠ b1 := fun g h => h.elim (fun e => by omega) (fun q => by have := NB.out g q; omega)
  have hsb1 := lt_of_block bx1.out
  have hbB : ∀ g, Hb hb (.slice sa L.sh.length sc) (.slice qa L.q.length qc) (.slice ta ms.length tc) g → base ≤ g := fun g h => h.elim (fun e => e ▸ hlo) (fun q => (rows_lt RS.out RQ.out RT.out g q).1)
  replace bx0 := Xbn bx0 m1
  refine sw_call (by rfl) (by first | rfl | (go_simp; done)) (hm _ _ _ _ _ _ V1 ⟨bx0.out, RS.out, RQ.out, RT.out, AP, hlo, GL.out, hb4⟩ ER.out) ?_
  rintro e V2 ⟨sa1, sc1, qa1, qc1, ta1, tc1, rfl, HR1, hfr, hmv⟩
  have m2 : Mv (Hb hb (.slice sa L.sh.length sc) (.slice qa L.q.length qc) (.slice ta ms.length tc)) V1 V2 := hmv
  refine ⟨_, rfl, ?_⟩
  refine pt ?_
  replace HB := hide (HB.out.step m2 (fun g hg e => (FR g e).resolve_right (by omega)))
  replace ER := hide (ER.out.mv m2 (fun g hg h => by have := hbB g h; omega))
  replace bx1 := hide (m2.box bx1.out (fun h => by have := SF _ h; omega))
  replace bx0 := hide HR1.bx; have RS := hide HR1.rs; have RQ := hide HR1.rq; have RT := hide HR1.rt; replace GL := hide HR1.gl; replace AP := HR1.ap
  replace NB : Hid (∀ g, (rb (.slice sa1 L2.sh.length sc1) = some g ∨ rb (.slice qa1 L2.q.length qc1) = some g ∨ rb (.slice ta1 ms2.length tc1) = some g) → g ≠ hb ∧ g ≠ b1) := hide (fun g h => by have q1 := HAp.ne AP h; exact (hfr g (.inr h)).elim (fun q => q.elim (fun q => absurd q q1) (fun q => by have := NB.out g q; omega)) (fun q => by omega))
  replace FR := fun g h => (hfr g h).elim (FR g) (fun q => .inr (Nat.le_trans hsz q))
  clear HR1 hfr hmv hsz h4b SF hsb1
  clear hbB
  refine sv (r) ?_
  refine nt (h5 _ _ (wp_ret (inb_ret (then_ret ?_)))); clear h5 K5; clear h2 K2
  exact bodyPost_ret (v := r) (by simp [results, Tryz.results33, go_sem]) rfl ⟨_, _, _, _, _, _, rfl, ⟨bx0.out, RS.out, RQ.out, RT.out, AP, hlo, GL.out, hb4⟩, FR, HB.out⟩

set_option maxRecDepth 20000 in
set_option maxHeartbeats 2000000 in
theorem got_2 (E : Nat → Addr) (base hb : Nat) (L : Hm.Ln) (line : Int) (ms : List Hm.Mg) (sa : Option Addr) (sc : Nat) (qa : Option Addr) (qc : Nat) (ta : Option Addr) (tc : Nat) (w : World) (c to l t d : Int) (L2 : Hm.Ln) (ms2 : List Hm.Mg) (r : Value) (h : Hr E w base hb L line ms sa sc qa qc ta tc) (he : Er E w base) (hm : ∀ (sa : Option Addr) (sc : Nat) (qa : Option Addr) (qc : Nat) (ta : Option Addr) (tc : Nat) (w : World), Hr E w base hb L line ms sa sc qa qc ta tc → Er E w base → Calls Tryz.prog 67 #[.pointer (some ⟨hb, 0, none⟩), .agg #[.int .i64 c, .int .i64 2]] w (HPost E w base hb (.slice sa L.sh.length sc) (.slice qa L.q.length qc) (.slice ta ms.length tc) L2 line ms2 r)) :
    Calls Tryz.prog 33 #[.pointer (some ⟨hb, 0, none⟩), .agg #[.int .i64 2, .int .i64 c, .int .i64 to, .int .i64 l, .int .i64 t, .int .i64 d]] w (HPost E w base hb (.slice sa L.sh.length sc) (.slice qa L.q.length qc) (.slice ta ms.length tc) L2 line ms2 r) := by
  have HB : Hid (Mv (Hb hb (.slice sa L.sh.length sc) (.slice qa L.q.length qc) (.slice ta ms.length tc)) w w) := hide (Mv.refl _ _)
  have hlo := h.lo
  have hb4 := h.b4
  have hlt := lt_of_block h.bx
  have AP := h.ap
  have FR : ∀ g, Hb hb (.slice sa L.sh.length sc) (.slice qa L.q.length qc) (.slice ta ms.length tc) g → Hb hb (.slice sa L.sh.length sc) (.slice qa L.q.length qc) (.slice ta ms.length tc) g ∨ w.heap.size ≤ g := fun g h => .inl h
  have bx0 := hide h.bx; have RS := hide h.rs; have RQ := hide h.rq; have RT := hide h.rt; have GL := hide h.gl; clear h
  have NB : Hid (∀ g, (rb (.slice sa L.sh.length sc) = some g ∨ rb (.slice qa L.q.length qc) = some g ∨ rb (.slice ta ms.length tc) = some g) → g ≠ hb) := hide (fun g h => HAp.ne AP h)
  have ER := hide he; clear he
  go_enter Tryz.func33, Tryz.ntmps33
  refine sk fun K1 h1 => rl ?_
  refine sbp #[.int .i64 2, .int .i64 c, .int .i64 to, .int .i64 l, .int .i64 t, .int .i64 d] 36 fun V1 b1 hb1 m1 bx1 => ?_
  have o0_1 := Xlo bx0 hb1
  have og_1 : w.heap.size ≤ b1 := Xhs HB hb1
  replace NB : Hid (∀ g, (rb (.slice sa L.sh.length sc) = some g ∨ rb (.slice qa L.q.length qc) = some g ∨ rb (.slice ta ms.length tc) = some g) → g ≠ hb ∧ g ≠ b1) := hide (fun g h => by have h1 := NB.out g h; have h2 := rows_lt RS.out RQ.out RT.out g h; exact (by omega))
  replace RS := hide (RS.out.mv m1 (fun _ _ h => h))
  replace RQ := hide (RQ.out.mv m1 (fun _ _ h => h))
  replace RT := hide (RT.out.mv m1 (fun _ _ h => h))
  replace GL := hide (GL.out.mv m1 (fun _ _ h => h))
  replace ER := hide (ER.out.mv m1 (fun _ _ h => h))
  clear hb1
  refine sv (.nilIface) ?_
  refine nt (h1 _ _ (sk fun K2 h2 => sk fun K3 h3 => rl ?_)); clear h1 K1
  refine sv (.pointer (some ⟨b1, 0, none⟩)) ?_
  refine sl 0 bx1 ?_
  refine nt (h3 _ _ (wp_block (sk fun K4 h4 => rl ?_))); clear h3 K3
  refine sg (.bool false) ?_
  refine sv (.bool false) ?_
  refine nt (h4 _ _ (cf (sk fun K5 h5 => rl ?_))); clear h4 K4
  refine sg (.bool true) ?_
  refine sv (.bool true) ?_
  refine nt (h5 _ _ (ct (sk fun K6 h6 => rl ?_))); clear h5 K5
  refine sv (.pointer (some ⟨hb, 0, none⟩)) ?_
  refine sv (.pointer (some ⟨b1, 1, none⟩)) ?_
  refine sl 1 bx1 ?_
  refine sv (.agg #[.int .i64 c, .int .i64 2]) ?_
  replace HB := Xhn HB m1
  have hsz := HB.out.size
  have h4b : ∀ g, Hb hb (.slice sa L.sh.length sc) (.slice qa L.q.length qc) (.slice ta ms.length tc) g → 7 ≤ g := fun g h => Nat.le_trans hb4 (h.elim (fun e => e ▸ hlo) (fun q => (rows_lt RS.out RQ.out RT.out g q).1))
  have SF : ∀ g, Hb hb (.slice sa L.sh.length sc) (.slice qa L.q.length qc) (.slice ta ms.length tc) g → g ≠ b1 := fun g h => h.elim (fun e => by omega) (fun q => by have := NB.out g q; omega)
  have hsb1 := lt_of_block bx1.out
  have hbB : ∀ g, Hb hb (.slice sa L.sh.length sc) (.slice qa L.q.length qc) (.slice ta ms.length tc) g → base ≤ g := fun g h => h.elim (fun e => e ▸ hlo) (fun q => (rows_lt RS.out RQ.out RT.out g q).1)
  replace bx0 := Xbn bx0 m1
  refine sw_call (by rfl) (by first | rfl | (go_simp; done)) (hm _ _ _ _ _ _ V1 ⟨bx0.out, RS.out, RQ.out, RT.out, AP, hlo, GL.out, hb4⟩ ER.out) ?_
  rintro e V2 ⟨sa2, sc2, qa2, qc2, ta2, tc2, rfl, HR1, hfr, hmv⟩
  have m2 : Mv (Hb hb (.slice sa L.sh.length sc) (.slice qa L.q.length qc) (.slice ta ms.length tc)) V1 V2 := hmv
  refine ⟨_, rfl, ?_⟩
  refine pt ?_
  replace HB := hide (HB.out.step m2 (fun g hg e => (FR g e).resolve_right (by omega)))
  replace ER := hide (ER.out.mv m2 (fun g hg h => by have := hbB g h; omega))
  replace bx1 := hide (m2.box bx1.out (fun h => by have := SF _ h; omega))
  replace bx0 := hide HR1.bx; have RS := hide HR1.rs; have RQ := hide HR1.rq; have RT := hide HR1.rt; replace GL := hide HR1.gl; replace AP := HR1.ap
  replace NB : Hid (∀ g, (rb (.slice sa2 L2.sh.length sc2) = some g ∨ rb (.slice qa2 L2.q.length qc2) = some g ∨ rb (.slice ta2 ms2.length tc2) = some g) → g ≠ hb ∧ g ≠ b1) := hide (fun g h => by have q1 := HAp.ne AP h; exact (hfr g (.inr h)).elim (fun q => q.elim (fun q => absurd q q1) (fun q => by have := NB.out g q; omega)) (fun q => by omega))
  replace FR := fun g h => (hfr g h).elim (FR g) (fun q => .inr (Nat.le_trans hsz q))
  clear HR1 hfr hmv hsz h4b SF hsb1
  clear hbB
  refine sv (r) ?_
  refine nt (h6 _ _ (wp_ret (inb_ret (then_ret ?_)))); clear h6 K6; clear h2 K2
  exact bodyPost_ret (v := r) (by simp [results, Tryz.results33, go_sem]) rfl ⟨_, _, _, _, _, _, rfl, ⟨bx0.out, RS.out, RQ.out, RT.out, AP, hlo, GL.out, hb4⟩, FR, HB.out⟩

set_option maxRecDepth 20000 in
set_option maxHeartbeats 2000000 in
theorem got_3 (E : Nat → Addr) (base hb : Nat) (L : Hm.Ln) (line : Int) (ms : List Hm.Mg) (sa : Option Addr) (sc : Nat) (qa : Option Addr) (qc : Nat) (ta : Option Addr) (tc : Nat) (w : World) (c to l t d : Int) (L2 : Hm.Ln) (ms2 : List Hm.Mg) (h : Hr E w base hb L line ms sa sc qa qc ta tc) (he : Er E w base) (hm : ∀ (sa : Option Addr) (sc : Nat) (qa : Option Addr) (qc : Nat) (ta : Option Addr) (tc : Nat) (w : World), Hr E w base hb L line ms sa sc qa qc ta tc → Er E w base → Calls Tryz.prog 68 #[.pointer (some ⟨hb, 0, none⟩), .agg #[.int .i64 3, .int .i64 c, .int .i64 to, .int .i64 l, .int .i64 t, .int .i64 d]] w (HPost E w base hb (.slice sa L.sh.length sc) (.slice qa L.q.length qc) (.slice ta ms.length tc) L2 line ms2 (.tuple #[]))) :
    Calls Tryz.prog 33 #[.pointer (some ⟨hb, 0, none⟩), .agg #[.int .i64 3, .int .i64 c, .int .i64 to, .int .i64 l, .int .i64 t, .int .i64 d]] w (HPost E w base hb (.slice sa L.sh.length sc) (.slice qa L.q.length qc) (.slice ta ms.length tc) L2 line ms2 .nilIface) := by
  have HB : Hid (Mv (Hb hb (.slice sa L.sh.length sc) (.slice qa L.q.length qc) (.slice ta ms.length tc)) w w) := hide (Mv.refl _ _)
  have hlo := h.lo
  have hb4 := h.b4
  have hlt := lt_of_block h.bx
  have AP := h.ap
  have FR : ∀ g, Hb hb (.slice sa L.sh.length sc) (.slice qa L.q.length qc) (.slice ta ms.length tc) g → Hb hb (.slice sa L.sh.length sc) (.slice qa L.q.length qc) (.slice ta ms.length tc) g ∨ w.heap.size ≤ g := fun g h => .inl h
  have bx0 := hide h.bx; have RS := hide h.rs; have RQ := hide h.rq; have RT := hide h.rt; have GL := hide h.gl; clear h
  have NB : Hid (∀ g, (rb (.slice sa L.sh.length sc) = some g ∨ rb (.slice qa L.q.length qc) = some g ∨ rb (.slice ta ms.length tc) = some g) → g ≠ hb) := hide (fun g h => HAp.ne AP h)
  have ER := hide he; clear he
  go_enter Tryz.func33, Tryz.ntmps33
  refine sk fun K1 h1 => rl ?_
  refine sbp #[.int .i64 3, .int .i64 c, .int .i64 to, .int .i64 l, .int .i64 t, .int .i64 d] 36 fun V1 b1 hb1 m1 bx1 => ?_
  have o0_1 := Xlo bx0 hb1
  have og_1 : w.heap.size ≤ b1 := Xhs HB hb1
  replace NB : Hid (∀ g, (rb (.slice sa L.sh.length sc) = some g ∨ rb (.slice qa L.q.length qc) = some g ∨ rb (.slice ta ms.length tc) = some g) → g ≠ hb ∧ g ≠ b1) := hide (fun g h => by have h1 := NB.out g h; have h2 := rows_lt RS.out RQ.out RT.out g h; exact (by omega))
  replace RS := hide (RS.out.mv m1 (fun _ _ h => h))
  replace RQ := hide (RQ.out.mv m1 (fun _ _ h => h))
  replace RT := hide (RT.out.mv m1 (fun _ _ h => h))
  replace GL := hide (GL.out.mv m1 (fun _ _ h => h))
  replace ER := hide (ER.out.mv m1 (fun _ _ h => h))
  clear hb1
  refine sv (.nilIface) ?_
  refine nt (h1 _ _ (sk fun K2 h2 => sk fun K3 h3 => rl ?_)); clear h1 K1
  refine sv (.pointer (some ⟨b1, 0, none⟩)) ?_
  refine sl 0 bx1 ?_
  refine nt (h3 _ _ (wp_block (sk fun K4 h4 => rl ?_))); clear h3 K3
  refine sg (.bool false) ?_
  refine sv (.bool false) ?_
  refine nt (h4 _ _ (cf (sk fun K5 h5 => rl ?_))); clear h4 K4
  refine sg (.bool false) ?_
  refine sv (.bool false) ?_
  refine nt (h5 _ _ (cf (sk fun K6 h6 => rl ?_))); clear h5 K5
  refine sg (.bool true) ?_
  refine sv (.bool true) ?_
  refine nt (h6 _ _ (ct (sk fun K7 h7 => rl ?_))); clear h6 K6
  refine sv (.pointer (some ⟨hb, 0, none⟩)) ?_
  refine sl6 bx1 ?_
  replace HB := Xhn HB m1
  have hsz := HB.out.size
  have h4b : ∀ g, Hb hb (.slice sa L.sh.length sc) (.slice qa L.q.length qc) (.slice ta ms.length tc) g → 7 ≤ g := fun g h => Nat.le_trans hb4 (h.elim (fun e => e ▸ hlo) (fun q => (rows_lt RS.out RQ.out RT.out g q).1))
  have SF : ∀ g, Hb hb (.slice sa L.sh.length sc) (.slice qa L.q.length qc) (.slice ta ms.length tc) g → g ≠ b1 := fun g h => h.elim (fun e => by omega) (fun q => by have := NB.out g q; omega)
  have hsb1 := lt_of_block bx1.out
  have hbB : ∀ g, Hb hb (.slice sa L.sh.length sc) (.slice qa L.q.length qc) (.slice ta ms.length tc) g → base ≤ g := fun g h => h.elim (fun e => e ▸ hlo) (fun q => (rows_lt RS.out RQ.out RT.out g q).1)
  replace bx0 := Xbn bx0 m1
  refine sw_call (by rfl) (by first | rfl | (go_simp; done)) (hm _ _ _ _ _ _ V1 ⟨bx0.out, RS.out, RQ.out, RT.out, AP, hlo, GL.out, hb4⟩ ER.out) ?_
  rintro e V2 ⟨sa3, sc3, qa3, qc3, ta3, tc3, rfl, HR1, hfr, hmv⟩
  have m2 : Mv (Hb hb (.slice sa L.sh.length sc) (.slice qa L.q.length qc) (.slice ta ms.length tc)) V1 V2 := hmv
  refine ⟨_, rfl, ?_⟩
  refine pt ?_
  replace HB := hide (HB.out.step m2 (fun g hg e => (FR g e).resolve_right (by omega)))
  replace ER := hide (ER.out.mv m2 (fun g hg h => by have := hbB g h; omega))
  replace bx1 := hide (m2.box bx1.out (fun h => by have := SF _ h; omega))
  replace bx0 := hide HR1.bx; have RS := hide HR1.rs; have RQ := hide HR1.rq; have RT := hide HR1.rt; replace GL := hide HR1.gl; replace AP := HR1.ap
  replace NB : Hid (∀ g, (rb (.slice sa3 L2.sh.length sc3) = some g ∨ rb (.slice qa3 L2.q.length qc3) = some g ∨ rb (.slice ta3 ms2.length tc3) = some g) → g ≠ hb ∧ g ≠ b1) := hide (fun g h => by have q1 := HAp.ne AP h; exact (hfr g (.inr h)).elim (fun q => q.elim (fun q => absurd q q1) (fun q => by have := NB.out g q; omega)) (fun q => by omega))
  replace FR := fun g h => (hfr g h).elim (FR g) (fun q => .inr (Nat.le_trans hsz q))
  clear HR1 hfr hmv hsz h4b SF hsb1
  clear hbB
  refine nt (h7 _ _ (sk fun K8 h8 => rl ?_)); clear h7 K7
  refine sv (.nilIface) ?_
  refine nt (h8 _ _ (wp_ret (inb_ret (then_ret ?_)))); clear h8 K8; clear h2 K2
  exact bodyPost_ret (v := .nilIface) (by simp [results, Tryz.results33, go_sem]) rfl ⟨_, _, _, _, _, _, rfl, ⟨bx0.out, RS.out, RQ.out, RT.out, AP, hlo, GL.out, hb4⟩, FR, HB.out⟩

set_option maxRecDepth 20000 in
set_option maxHeartbeats 2000000 in
theorem got_6 (E : Nat → Addr) (base hb : Nat) (L : Hm.Ln) (line : Int) (ms : List Hm.Mg) (sa : Option Addr) (sc : Nat) (qa : Option Addr) (qc : Nat) (ta : Option Addr) (tc : Nat) (w : World) (c to l t d : Int) (L2 : Hm.Ln) (ms2 : List Hm.Mg) (r : Value) (h : Hr E w base hb L line ms sa sc qa qc ta tc) (he : Er E w base) (hm : ∀ (sa : Option Addr) (sc : Nat) (qa : Option Addr) (qc : Nat) (ta : Option Addr) (tc : Nat) (w : World), Hr E w base hb L line ms sa sc qa qc ta tc → Er E w base → Calls Tryz.prog 69 #[.pointer (some ⟨hb, 0, none⟩), .agg #[.int .i64 6, .int .i64 c, .int .i64 to, .int .i64 l, .int .i64 t, .int .i64 d]] w (HPost E w base hb (.slice sa L.sh.length sc) (.slice qa L.q.length qc) (.slice ta ms.length tc) L2 line ms2 r)) :
    Calls Tryz.prog 33 #[.pointer (some ⟨hb, 0, none⟩), .agg #[.int .i64 6, .int .i64 c, .int .i64 to, .int .i64 l, .int .i64 t, .int .i64 d]] w (HPost E w base hb (.slice sa L.sh.length sc) (.slice qa L.q.length qc) (.slice ta ms.length tc) L2 line ms2 r) := by
  have HB : Hid (Mv (Hb hb (.slice sa L.sh.length sc) (.slice qa L.q.length qc) (.slice ta ms.length tc)) w w) := hide (Mv.refl _ _)
  have hlo := h.lo
  have hb4 := h.b4
  have hlt := lt_of_block h.bx
  have AP := h.ap
  have FR : ∀ g, Hb hb (.slice sa L.sh.length sc) (.slice qa L.q.length qc) (.slice ta ms.length tc) g → Hb hb (.slice sa L.sh.length sc) (.slice qa L.q.length qc) (.slice ta ms.length tc) g ∨ w.heap.size ≤ g := fun g h => .inl h
  have bx0 := hide h.bx; have RS := hide h.rs; have RQ := hide h.rq; have RT := hide h.rt; have GL := hide h.gl; clear h
  have NB : Hid (∀ g, (rb (.slice sa L.sh.length sc) = some g ∨ rb (.slice qa L.q.length qc) = some g ∨ rb (.slice ta ms.length tc) = some g) → g ≠ hb) := hide (fun g h => HAp.ne AP h)
  have ER := hide he; clear he
  go_enter Tryz.func33, Tryz.ntmps33
  refine sk fun K1 h1 => rl ?_
  refine sbp #[.int .i64 6, .int .i64 c, .int .i64 to, .int .i64 l, .int .i64 t, .int .i64 d] 36 fun V1 b1 hb1 m1 bx1 => ?_
  have o0_1 := Xlo bx0 hb1
  have og_1 : w.heap.size ≤ b1 := Xhs HB hb1
  replace NB : Hid (∀ g, (rb (.slice sa L.sh.length sc) = some g ∨ rb (.slice qa L.q.length qc) = some g ∨ rb (.slice ta ms.length tc) = some g) → g ≠ hb ∧ g ≠ b1) := hide (fun g h => by have h1 := NB.out g h; have h2 := rows_lt RS.out RQ.out RT.out g h; exact (by omega))
  replace RS := hide (RS.out.mv m1 (fun _ _ h => h))
  replace RQ := hide (RQ.out.mv m1 (fun _ _ h => h))
  replace RT := hide (RT.out.mv m1 (fun _ _ h => h))
  replace GL := hide (GL.out.mv m1 (fun _ _ h => h))
  replace ER := hide (ER.out.mv m1 (fun _ _ h => h))
  clear hb1
  refine sv (.nilIface) ?_
  refine nt (h1 _ _ (sk fun K2 h2 => sk fun K3 h3 => rl ?_)); clear h1 K1
  refine sv (.pointer (some ⟨b1, 0, none⟩)) ?_
  refine sl 0 bx1 ?_
  refine nt (h3 _ _ (wp_block (sk fun K4 h4 => rl ?_))); clear h3 K3
  refine sg (.bool false) ?_
  refine sv (.bool false) ?_
  refine nt (h4 _ _ (cf (sk fun K5 h5 => rl ?_))); clear h4 K4
  refine sg (.bool false) ?_
  refine sv (.bool false) ?_
  refine nt (h5 _ _ (cf (sk fun K6 h6 => rl ?_))); clear h5 K5
  refine sg (.bool false) ?_
  refine sv (.bool false) ?_
  refine nt (h6 _ _ (cf (sk fun K7 h7 => rl ?_))); clear h6 K6
  refine sg (.bool true) ?_
  refine sv (.bool true) ?_
  refine nt (h7 _ _ (ct (sk fun K8 h8 => rl ?_))); clear h7 K7
  refine sv (.pointer (some ⟨hb, 0, none⟩)) ?_
  refine sl6 bx1 ?_
  replace HB := Xhn HB m1
  have hsz := HB.out.size
  have h4b : ∀ g, Hb hb (.slice sa L.sh.length sc) (.slice qa L.q.length qc) (.slice ta ms.length tc) g → 7 ≤ g := fun g h => Nat.le_trans hb4 (h.elim (fun e => e ▸ hlo) (fun q => (rows_lt RS.out RQ.out RT.out g q).1))
  have SF : ∀ g, Hb hb (.slice sa L.sh.length sc) (.slice qa L.q.length qc) (.slice ta ms.length tc) g → g ≠ b1 := fun g h => h.elim (fun e => by omega) (fun q => by have := NB.out g q; omega)
  have hsb1 := lt_of_block bx1.out
  have hbB : ∀ g, Hb hb (.slice sa L.sh.length sc) (.slice qa L.q.length qc) (.slice ta ms.length tc) g → base ≤ g := fun g h => h.elim (fun e => e ▸ hlo) (fun q => (rows_lt RS.out RQ.out RT.out g q).1)
  replace bx0 := Xbn bx0 m1
  refine sw_call (by rfl) (by first | rfl | (go_simp; done)) (hm _ _ _ _ _ _ V1 ⟨bx0.out, RS.out, RQ.out, RT.out, AP, hlo, GL.out, hb4⟩ ER.out) ?_
  rintro e V2 ⟨sa4, sc4, qa4, qc4, ta4, tc4, rfl, HR1, hfr, hmv⟩
  have m2 : Mv (Hb hb (.slice sa L.sh.length sc) (.slice qa L.q.length qc) (.slice ta ms.length tc)) V1 V2 := hmv
  refine ⟨_, rfl, ?_⟩
  refine pt ?_
  replace HB := hide (HB.out.step m2 (fun g hg e => (FR g e).resolve_right (by omega)))
  replace ER := hide (ER.out.mv m2 (fun g hg h => by have := hbB g h; omega))
  replace bx1 := hide (m2.box bx1.out (fun h => by have := SF _ h; omega))
  replace bx0 := hide HR1.bx; have RS := hide HR1.rs; have RQ := hide HR1.rq; have RT := hide HR1.rt; replace GL := hide HR1.gl; replace AP := HR1.ap
  replace NB : Hid (∀ g, (rb (.slice sa4 L2.sh.length sc4) = some g ∨ rb (.slice qa4 L2.q.length qc4) = some g ∨ rb (.slice ta4 ms2.length tc4) = some g) → g ≠ hb ∧ g ≠ b1) := hide (fun g h => by have q1 := HAp.ne AP h; exact (hfr g (.inr h)).elim (fun q => q.elim (fun q => absurd q q1) (fun q => by have := NB.out g q; omega)) (fun q => by omega))
  replace FR := fun g h => (hfr g h).elim (FR g) (fun q => .inr (Nat.le_trans hsz q))
  clear HR1 hfr hmv hsz h4b SF hsb1
  clear hbB
  refine sv (r) ?_
  refine nt (h8 _ _ (wp_ret (inb_ret (then_ret ?_)))); clear h8 K8; clear h2 K2
  exact bodyPost_ret (v := r) (by simp [results, Tryz.results33, go_sem]) rfl ⟨_, _, _, _, _, _, rfl, ⟨bx0.out, RS.out, RQ.out, RT.out, AP, hlo, GL.out, hb4⟩, FR, HB.out⟩

set_option maxRecDepth 20000 in
set_option maxHeartbeats 2000000 in
theorem got_7 (E : Nat → Addr) (base hb : Nat) (L : Hm.Ln) (line : Int) (ms : List Hm.Mg) (sa : Option Addr) (sc : Nat) (qa : Option Addr) (qc : Nat) (ta : Option Addr) (tc : Nat) (w : World) (c to l t d : Int) (L2 : Hm.Ln) (ms2 : List Hm.Mg) (r : Value) (h : Hr E w base hb L line ms sa sc qa qc ta tc) (he : Er E w base) (hm : ∀ (sa : Option Addr) (sc : Nat) (qa : Option Addr) (qc : Nat) (ta : Option Addr) (tc : Nat) (w : World), Hr E w base hb L line ms sa sc qa qc ta tc → Er E w base → Calls Tryz.prog 70 #[.pointer (some ⟨hb, 0, none⟩), .agg #[.int .i64 7, .int .i64 c, .int .i64 to, .int .i64 l, .int .i64 t, .int .i64 d]] w (HPost E w base hb (.slice sa L.sh.length sc) (.slice qa L.q.length qc) (.slice ta ms.length tc) L2 line ms2 r)) :
    Calls Tryz.prog 33 #[.pointer (some ⟨hb, 0, none⟩), .agg #[.int .i64 7, .int .i64 c, .int .i64 to, .int .i64 l, .int .i64 t, .int .i64 d]] w (HPost E w base hb (.slice sa L.sh.length sc) (.slice qa L.q.length qc) (.slice ta ms.length tc) L2 line ms2 r) := by
  have HB : Hid (Mv (Hb hb (.slice sa L.sh.length sc) (.slice qa L.q.length qc) (.slice ta ms.length tc)) w w) := hide (Mv.refl _ _)
  have hlo := h.lo
  have hb4 := h.b4
  have hlt := lt_of_block h.bx
  have AP := h.ap
  have FR : ∀ g, Hb hb (.slice sa L.sh.length sc) (.slice qa L.q.length qc) (.slice ta ms.length tc) g → Hb hb (.slice sa L.sh.length sc) (.slice qa L.q.length qc) (.slice ta ms.length tc) g ∨ w.heap.size ≤ g := fun g h => .inl h
  have bx0 := hide h.bx; have RS := hide h.rs; have RQ := hide h.rq; have RT := hide h.rt; have GL := hide h.gl; clear h
  have NB : Hid (∀ g, (rb (.slice sa L.sh.length sc) = some g ∨ rb (.slice qa L.q.length qc) = some g ∨ rb (.slice ta ms.length tc) = some g) → g ≠ hb) := hide (fun g h => HAp.ne AP h)
  have ER := hide he; clear he
  go_enter Tryz.func33, Tryz.ntmps33
  refine sk fun K1 h1 => rl ?_
  refine sbp #[.int .i64 7, .int .i64 c, .int .i64 to, .int .i64 l, .int .i64 t, .int .i64 d] 36 fun V1 b1 hb1 m1 bx1 => ?_
  have o0_1 := Xlo bx0 hb1
  have og_1 : w.heap.size ≤ b1 := Xhs HB hb1
  replace NB : Hid (∀ g, (rb (.slice sa L.sh.length sc) = some g ∨ rb (.slice qa L.q.length qc) = some g ∨ rb (.slice ta ms.length tc) = some g) → g ≠ hb ∧ g ≠ b1) := hide (fun g h => by have h1 := NB.out g h; have h2 := rows_lt RS.out RQ.out RT.out g h; exact (by omega))
  replace RS := hide (RS.out.mv m1 (fun _ _ h => h))
  replace RQ := hide (RQ.out.mv m1 (fun _ _ h => h))
  replace RT := hide (RT.out.mv m1 (fun _ _ h => h))
  replace GL := hide (GL.out.mv m1 (fun _ _ h => h))
  replace ER := hide (ER.out.mv m1 (fun _ _ h => h))
  clear hb1
  refine sv (.nilIface) ?_
  refine nt (h1 _ _ (sk fun K2 h2 => sk fun K3 h3 => rl ?_)); clear h1 K1
  refine sv (.pointer (some ⟨b1, 0, none⟩)) ?_
  refine sl 0 bx1 ?_
  refine nt (h3 _ _ (wp_block (sk fun K4 h4 => rl ?_))); clear h3 K3
  refine sg (.bool false) ?_
  refine sv (.bool false) ?_
  refine nt (h4 _ _ (cf (sk fun K5 h5 => rl ?_))); clear h4 K4
  refine sg (.bool false) ?_
  refine sv (.bool false) ?_
  refine nt (h5 _ _ (cf (sk fun K6 h6 => rl ?_))); clear h5 K5
  refine sg (.bool false) ?_
  refine sv (.bool false) ?_
  refine nt (h6 _ _ (cf (sk fun K7 h7 => rl ?_))); clear h6 K6
  refine sg (.bool false) ?_
  refine sv (.bool false) ?_
  refine nt (h7 _ _ (cf (wp_skip (inb_norm (then_normal (h2 _ _ (sk fun K8 h8 => rl ?_))))))); clear h7 K7; clear h2 K2
  refine sv (.pointer (some ⟨hb, 0, none⟩)) ?_
  refine sl6 bx1 ?_
  replace HB := Xhn HB m1
  have hsz := HB.out.size
  have h4b : ∀ g, Hb hb (.slice sa L.sh.length sc) (.slice qa L.q.length qc) (.slice ta ms.length tc) g → 7 ≤ g := fun g h => Nat.le_trans hb4 (h.elim (fun e => e ▸ hlo) (fun q => (rows_lt RS.out RQ.out RT.out g q).1))
  have SF : ∀ g, Hb hb (.slice sa L.sh.length sc) (.slice qa L.q.length qc) (.slice ta ms.length tc) g → g ≠ b1 := fun g h => h.elim (fun e => by omega) (fun q => by have := NB.out g q; omega)
  have hsb1 := lt_of_block bx1.out
  have hbB : ∀ g, Hb hb (.slice sa L.sh.length sc) (.slice qa L.q.length qc) (.slice ta ms.length tc) g → base ≤ g := fun g h => h.elim (fun e => e ▸ hlo) (fun q => (rows_lt RS.out RQ.out RT.out g q).1)
  replace bx0 := Xbn bx0 m1
  refine sw_call (by rfl) (by first | rfl | (go_simp; done)) (hm _ _ _ _ _ _ V1 ⟨bx0.out, RS.out, RQ.out, RT.out, AP, hlo, GL.out, hb4⟩ ER.out) ?_
  rintro e V2 ⟨sa5, sc5, qa5, qc5, ta5, tc5, rfl, HR1, hfr, hmv⟩
  have m2 : Mv (Hb hb (.slice sa L.sh.length sc) (.slice qa L.q.length qc) (.slice ta ms.length tc)) V1 V2 := hmv
  refine ⟨_, rfl, ?_⟩
  refine pt ?_
  replace HB := hide (HB.out.step m2 (fun g hg e => (FR g e).resolve_right (by omega)))
  replace ER := hide (ER.out.mv m2 (fun g hg h => by have := hbB g h; omega))
  replace bx1 := hide (m2.box bx1.out (fun h => by have := SF _ h; omega))
  replace bx0 := hide HR1.bx; have RS := hide HR1.rs; have RQ := hide HR1.rq; have RT := hide HR1.rt; replace GL := hide HR1.gl; replace AP := HR1.ap
  replace NB : Hid (∀ g, (rb (.slice sa5 L2.sh.length sc5) = some g ∨ rb (.slice qa5 L2.q.length qc5) = some g ∨ rb (.slice ta5 ms2.length tc5) = some g) → g ≠ hb ∧ g ≠ b1) := hide (fun g h => by have q1 := HAp.ne AP h; exact (hfr g (.inr h)).elim (fun q => q.elim (fun q => absurd q q1) (fun q => by have := NB.out g q; omega)) (fun q => by omega))
  replace FR := fun g h => (hfr g h).elim (FR g) (fun q => .inr (Nat.le_trans hsz q))
  clear HR1 hfr hmv hsz h4b SF hsb1
  clear hbB
  refine sv (r) ?_
  refine nt (h8 _ _ (wp_ret ?_)); clear h8 K8
  exact bodyPost_ret (v := r) (by simp [results, Tryz.results33, go_sem]) rfl ⟨_, _, _, _, _, _, rfl, ⟨bx0.out, RS.out, RQ.out, RT.out, AP, hlo, GL.out, hb4⟩, FR, HB.out⟩

set_option maxHeartbeats 2000000 in
theorem got_any (E : Nat → Addr) (base hb : Nat) (L : Hm.Ln) (line : Int) (sa : Option Addr) (sc : Nat) (qa : Option Addr) (qc : Nat) (ta : Option Addr) (tc : Nat) (w : World) (k c to l t d : Int) (h : Hr E w base hb L line [] sa sc qa qc ta tc) (hlk : lok L = true) (hk : k = 1 ∨ k = 2 ∨ k = 3 ∨ k = 6 ∨ k = 7) (hc1 : 1 ≤ c) (hc5 : c ≤ 5) (he : Er E w base) :
    Calls Tryz.prog 33 #[.pointer (some ⟨hb, 0, none⟩), .agg #[.int .i64 k, .int .i64 c, .int .i64 to, .int .i64 l, .int .i64 t, .int .i64 d]] w (fun e w' => ((Hm.gotR L k c line d).1 = true ∧ HPost E w base hb (.slice sa L.sh.length sc) (.slice qa L.q.length qc) (.slice ta ([] : List Hm.Mg).length tc) (Hm.gotR L k c line d).2.1 line (Hm.gotR L k c line d).2.2 .nilIface e w') ∨ ((Hm.gotR L k c line d).1 = false ∧ ∃ L2 ms2 c2 p2, HPost E w base hb (.slice sa L.sh.length sc) (.slice qa L.q.length qc) (.slice ta ([] : List Hm.Mg).length tc) L2 line ms2 (rfV c2 p2) e w')) := by
  have hgd := lok_gd hlk
  rcases hk with rfl | rfl | rfl | rfl | rfl
  · by_cases hbu : L.bu = 0
    · by_cases ho : L.own = c
      · skip
        have e0 : Hm.gotR L 1 c line d = (false, L, []) := by simp [Hm.gotR, hbu, ho]
        rw [e0]
        refine (got_1 E base hb L line [] sa sc qa qc ta tc w c to l t d L [] (rfV c (E 1)) h he (fun sa sc qa qc ta tc w h he => wanted_o E base hb L line [] sa sc qa qc ta tc w c 1 h he hbu ho)).mono (fun e w' hp => .inr ⟨rfl, L, [], c, E 1, hp⟩)
      · skip
        have e0 : Hm.gotR L 1 c line d = (true, Hm.begL L line c 1, Hm.begM L line c 1) := by simp [Hm.gotR, hbu, ho]
        rw [e0]
        refine (got_1 E base hb L line [] sa sc qa qc ta tc w c to l t d (Hm.begL L line c 1) (Hm.begM L line c 1) .nilIface h he (fun sa sc qa qc ta tc w h he => wanted_y E base hb L line [] sa sc qa qc ta tc w c 1 h hgd.sh hc1 hc5 (by simp) hbu ho)).mono (fun e w' hp => .inl ⟨rfl, hp⟩)
    · by_cases hf : 10 ≤ L.q.length
      · skip
        have e0 : Hm.gotR L 1 c line d = (false, L, []) := by simp [Hm.gotR, hbu, hf]
        rw [e0]
        refine (got_1 E base hb L line [] sa sc qa qc ta tc w c to l t d L [] (rfV c (E 2)) h he (fun sa sc qa qc ta tc w h he => wanted_b E base hb L line [] sa sc qa qc ta tc w c 1 L (rfV c (E 2)) h hbu (fun sa sc qa qc ta tc w h => wait_full E base hb L line [] sa sc qa qc ta tc w c 1 h hf))).mono (fun e w' hp => .inr ⟨rfl, L, [], c, E 2, hp⟩)
      · by_cases hbc : L.bu = c
        · skip
          have e0 : Hm.gotR L 1 c line d = (false, L, []) := by simp [Hm.gotR, hbu, hbc, show ¬ c = 0 from by omega]
          rw [e0]
          refine (got_1 E base hb L line [] sa sc qa qc ta tc w c to l t d L [] (rfV c (E 3)) h he (fun sa sc qa qc ta tc w h he => wanted_b E base hb L line [] sa sc qa qc ta tc w c 1 L (rfV c (E 3)) h hbu (fun sa sc qa qc ta tc w h => wait_busy E base hb L line [] sa sc qa qc ta tc w c 1 h (by omega) hbc))).mono (fun e w' hp => .inr ⟨rfl, L, [], c, E 3, hp⟩)
        · cases han : (L.q.any fun r => r.1 == c) with
          | true =>
            have e0 : Hm.gotR L 1 c line d = (false, L, []) := by simp [Hm.gotR, hbu, hf, hbc, han]
            rw [e0]
            refine (got_1 E base hb L line [] sa sc qa qc ta tc w c to l t d L [] (rfV c (E 3)) h he (fun sa sc qa qc ta tc w h he => wanted_b E base hb L line [] sa sc qa qc ta tc w c 1 L (rfV c (E 3)) h hbu (fun sa sc qa qc ta tc w h => wait_twice E base hb L line [] sa sc qa qc ta tc w c 1 h (by omega) hbc han))).mono (fun e w' hp => .inr ⟨rfl, L, [], c, E 3, hp⟩)
          | false =>
            have e0 : Hm.gotR L 1 c line d = (true, { L with q := L.q ++ [(c, 1)] }, []) := by simp [Hm.gotR, hbu, hf, hbc, han]
            rw [e0]
            refine (got_1 E base hb L line [] sa sc qa qc ta tc w c to l t d { L with q := L.q ++ [(c, 1)] } [] .nilIface h he (fun sa sc qa qc ta tc w h he => wanted_b E base hb L line [] sa sc qa qc ta tc w c 1 { L with q := L.q ++ [(c, 1)] } .nilIface h hbu (fun sa sc qa qc ta tc w h => wait_yes E base hb L line [] sa sc qa qc ta tc w c 1 h (by omega) hbc han))).mono (fun e w' hp => .inl ⟨rfl, hp⟩)
  · by_cases hbu : L.bu = 0
    · by_cases ho : L.own = c
      · skip
        have e0 : Hm.gotR L 2 c line d = (false, L, []) := by simp [Hm.gotR, hbu, ho]
        rw [e0]
        refine (got_2 E base hb L line [] sa sc qa qc ta tc w c to l t d L [] (rfV c (E 1)) h he (fun sa sc qa qc ta tc w h he => wanted_o E base hb L line [] sa sc qa qc ta tc w c 2 h he hbu ho)).mono (fun e w' hp => .inr ⟨rfl, L, [], c, E 1, hp⟩)
      · skip
        have e0 : Hm.gotR L 2 c line d = (true, Hm.begL L line c 2, Hm.begM L line c 2) := by simp [Hm.gotR, hbu, ho]
        rw [e0]
        refine (got_2 E base hb L line [] sa sc qa qc ta tc w c to l t d (Hm.begL L line c 2) (Hm.begM L line c 2) .nilIface h he (fun sa sc qa qc ta tc w h he => wanted_y E base hb L line [] sa sc qa qc ta tc w c 2 h hgd.sh hc1 hc5 (by simp) hbu ho)).mono (fun e w' hp => .inl ⟨rfl, hp⟩)
    · by_cases hf : 10 ≤ L.q.length
      · skip
        have e0 : Hm.gotR L 2 c line d = (false, L, []) := by simp [Hm.gotR, hbu, hf]
        rw [e0]
        refine (got_2 E base hb L line [] sa sc qa qc ta tc w c to l t d L [] (rfV c (E 2)) h he (fun sa sc qa qc ta tc w h he => wanted_b E base hb L line [] sa sc qa qc ta tc w c 2 L (rfV c (E 2)) h hbu (fun sa sc qa qc ta tc w h => wait_full E base hb L line [] sa sc qa qc ta tc w c 2 h hf))).mono (fun e w' hp => .inr ⟨rfl, L, [], c, E 2, hp⟩)
      · by_cases hbc : L.bu = c
        · skip
          have e0 : Hm.gotR L 2 c line d = (false, L, []) := by simp [Hm.gotR, hbu, hbc, show ¬ c = 0 from by omega]
          rw [e0]
          refine (got_2 E base hb L line [] sa sc qa qc ta tc w c to l t d L [] (rfV c (E 3)) h he (fun sa sc qa qc ta tc w h he => wanted_b E base hb L line [] sa sc qa qc ta tc w c 2 L (rfV c (E 3)) h hbu (fun sa sc qa qc ta tc w h => wait_busy E base hb L line [] sa sc qa qc ta tc w c 2 h (by omega) hbc))).mono (fun e w' hp => .inr ⟨rfl, L, [], c, E 3, hp⟩)
        · cases han : (L.q.any fun r => r.1 == c) with
          | true =>
            have e0 : Hm.gotR L 2 c line d = (false, L, []) := by simp [Hm.gotR, hbu, hf, hbc, han]
            rw [e0]
            refine (got_2 E base hb L line [] sa sc qa qc ta tc w c to l t d L [] (rfV c (E 3)) h he (fun sa sc qa qc ta tc w h he => wanted_b E base hb L line [] sa sc qa qc ta tc w c 2 L (rfV c (E 3)) h hbu (fun sa sc qa qc ta tc w h => wait_twice E base hb L line [] sa sc qa qc ta tc w c 2 h (by omega) hbc han))).mono (fun e w' hp => .inr ⟨rfl, L, [], c, E 3, hp⟩)
          | false =>
            have e0 : Hm.gotR L 2 c line d = (true, { L with q := L.q ++ [(c, 2)] }, []) := by simp [Hm.gotR, hbu, hf, hbc, han]
            rw [e0]
            refine (got_2 E base hb L line [] sa sc qa qc ta tc w c to l t d { L with q := L.q ++ [(c, 2)] } [] .nilIface h he (fun sa sc qa qc ta tc w h he => wanted_b E base hb L line [] sa sc qa qc ta tc w c 2 { L with q := L.q ++ [(c, 2)] } .nilIface h hbu (fun sa sc qa qc ta tc w h => wait_yes E base hb L line [] sa sc qa qc ta tc w c 2 h (by omega) hbc han))).mono (fun e w' hp => .inl ⟨rfl, hp⟩)
  · by_cases ho : L.own = c
    · by_cases hbu : L.bu = 0
      · skip
        have e0 : Hm.gotR L 3 c line d = (true, { L with mem := d, own := 0 }, [Hm.mDone c line]) := by simp [Hm.gotR, hbu, ho]
        rw [e0]
        refine (got_3 E base hb L line [] sa sc qa qc ta tc w c to l t d { L with mem := d, own := 0 } [Hm.mDone c line] h he (fun sa sc qa qc ta tc w h he => put_yes E base hb L line [] sa sc qa qc ta tc w 3 c to l t d h (by simp) ho hbu)).mono (fun e w' hp => .inl ⟨rfl, hp⟩)
      · skip
        have e0 : Hm.gotR L 3 c line d = (true, L, [Hm.mDone c line]) := by simp [Hm.gotR, hbu, ho]
        rw [e0]
        refine (got_3 E base hb L line [] sa sc qa qc ta tc w c to l t d L [Hm.mDone c line] h he (fun sa sc qa qc ta tc w h he => put_busy E base hb L line [] sa sc qa qc ta tc w 3 c to l t d h (by simp) ho hbu)).mono (fun e w' hp => .inl ⟨rfl, hp⟩)
    · skip
      have e0 : Hm.gotR L 3 c line d = (true, L, [Hm.mDone c line]) := by simp [Hm.gotR, ho]
      rw [e0]
      refine (got_3 E base hb L line [] sa sc qa qc ta tc w c to l t d L [Hm.mDone c line] h he (fun sa sc qa qc ta tc w h he => put_no E base hb L line [] sa sc qa qc ta tc w 3 c to l t d h (by simp) ho)).mono (fun e w' hp => .inl ⟨rfl, hp⟩)
  · by_cases hbu : L.bu = 0
    · skip
      have e0 : Hm.gotR L 6 c line d = (false, L, []) := by simp [Hm.gotR, hbu]
      rw [e0]
      refine (got_6 E base hb L line [] sa sc qa qc ta tc w c to l t d L [] (rfV c (E 4)) h he (fun sa sc qa qc ta tc w h he => acked_idle E base hb L line [] sa sc qa qc ta tc w 6 c to l t d h hbu)).mono (fun e w' hp => .inr ⟨rfl, L, [], c, E 4, hp⟩)
    · obtain ⟨⟨hb1, hb5⟩, hw12, ha1, ha5⟩ := lok_bu hlk hbu
      by_cases ho : L.own = 0
      · by_cases hw : L.wt = 1
        · skip
          have e0 : Hm.gotR L 6 c line d = (false, L, []) := by simp [Hm.gotR, hbu, ho, hw]
          rw [e0]
          refine (got_6 E base hb L line [] sa sc qa qc ta tc w c to l t d L [] (rfV c (E 4)) h he (fun sa sc qa qc ta tc w h he => acked_read E base hb L line [] sa sc qa qc ta tc w 6 c to l t d h hbu ho hw)).mono (fun e w' hp => .inr ⟨rfl, L, [], c, E 4, hp⟩)
        · by_cases ha : 1 < L.ac
          · skip
            have e0 : Hm.gotR L 6 c line d = (true, { L with ac := L.ac - 1 }, []) := by simp [Hm.gotR, hbu, ho, hw, show ¬ L.ac ≤ 1 from by omega, show 1 < L.ac from by omega]
            rw [e0]
            refine (got_6 E base hb L line [] sa sc qa qc ta tc w c to l t d { L with ac := L.ac - 1 } [] .nilIface h he (fun sa sc qa qc ta tc w h he => acked_more E base hb L line [] sa sc qa qc ta tc w 6 c to l t d h hbu ho hw ha ha5)).mono (fun e w' hp => .inl ⟨rfl, hp⟩)
          · have ha0 : L.ac = 1 := by omega
            obtain ⟨R, hR⟩ : ∃ R, Hm.nextR line L.q (Hm.grantL { L with ac := L.ac - 1 } L.bu L.wt) ([] ++ [Hm.mGrant L.bu line L.wt L.mem]) = R := ⟨_, rfl⟩
            have e0 : Hm.gotR L 6 c line d = R := by rw [← hR]; simp [Hm.gotR, hbu, ho, hw, show ¬ 1 < L.ac from by omega, show L.ac ≤ 1 from by omega]
            rw [e0]
            refine (got_6 E base hb L line [] sa sc qa qc ta tc w c to l t d R.2.1 R.2.2 (rvR E R) h he (fun sa sc qa qc ta tc w h he => acked_on E base hb L line [] sa sc qa qc ta tc w 6 c to l t d h hgd hb1 hb5 (by simp) ho hw ha0 R hR)).mono (fun e w' hp => ?_)
            cases hB : R.1 with
            | true =>
              rw [show rvR E R = .nilIface from if_pos hB] at hp
              exact .inl ⟨rfl, hp⟩
            | false =>
              rw [show rvR E R = rfV R.2.1.own (E 1) from if_neg (by rw [hB]; decide)] at hp
              exact .inr ⟨rfl, _, _, _, _, hp⟩
      · skip
        have e0 : Hm.gotR L 6 c line d = (false, L, []) := by simp [Hm.gotR, hbu, ho]
        rw [e0]
        refine (got_6 E base hb L line [] sa sc qa qc ta tc w c to l t d L [] (rfV c (E 4)) h he (fun sa sc qa qc ta tc w h he => acked_owned E base hb L line [] sa sc qa qc ta tc w 6 c to l t d h hbu ho)).mono (fun e w' hp => .inr ⟨rfl, L, [], c, E 4, hp⟩)
  · by_cases hbu : L.bu = 0
    · skip
      have e0 : Hm.gotR L 7 c line d = (false, L, []) := by simp [Hm.gotR, hbu]
      rw [e0]
      refine (got_7 E base hb L line [] sa sc qa qc ta tc w c to l t d L [] (rfV c (E 4)) h he (fun sa sc qa qc ta tc w h he => given_idle E base hb L line [] sa sc qa qc ta tc w 7 c to l t d h hbu)).mono (fun e w' hp => .inr ⟨rfl, L, [], c, E 4, hp⟩)
    · obtain ⟨⟨hb1, hb5⟩, hw12, ha1, ha5⟩ := lok_bu hlk hbu
      by_cases ho : L.own = c
      · by_cases hw : L.wt = 1
        · skip
          obtain ⟨R, hR⟩ : ∃ R, Hm.nextR line L.q (Hm.grantL { L with mem := d, own := 0, sh := [c] } L.bu L.wt) ([] ++ [Hm.mGrant L.bu line L.wt d]) = R := ⟨_, rfl⟩
          have e0 : Hm.gotR L 7 c line d = R := by rw [← hR]; simp [Hm.gotR, hbu, ho, hw]
          rw [e0]
          refine (got_7 E base hb L line [] sa sc qa qc ta tc w c to l t d R.2.1 R.2.2 (rvR E R) h he (fun sa sc qa qc ta tc w h he => given_r E base hb L line [] sa sc qa qc ta tc w 7 c to l t d h hgd hb1 hb5 (by simp) ho hw hc1 hc5 R hR)).mono (fun e w' hp => ?_)
          cases hB : R.1 with
          | true =>
            rw [show rvR E R = .nilIface from if_pos hB] at hp
            exact .inl ⟨rfl, hp⟩
          | false =>
            rw [show rvR E R = rfV R.2.1.own (E 1) from if_neg (by rw [hB]; decide)] at hp
            exact .inr ⟨rfl, _, _, _, _, hp⟩
        · skip
          obtain ⟨R, hR⟩ : ∃ R, Hm.nextR line L.q (Hm.grantL { L with mem := d, own := 0, sh := [] } L.bu L.wt) ([] ++ [Hm.mGrant L.bu line L.wt d]) = R := ⟨_, rfl⟩
          have e0 : Hm.gotR L 7 c line d = R := by rw [← hR]; simp [Hm.gotR, hbu, ho, hw]
          rw [e0]
          refine (got_7 E base hb L line [] sa sc qa qc ta tc w c to l t d R.2.1 R.2.2 (rvR E R) h he (fun sa sc qa qc ta tc w h he => given_w E base hb L line [] sa sc qa qc ta tc w 7 c to l t d h hgd hb1 hb5 (by simp) ho hw hc1 hc5 R hR)).mono (fun e w' hp => ?_)
          cases hB : R.1 with
          | true =>
            rw [show rvR E R = .nilIface from if_pos hB] at hp
            exact .inl ⟨rfl, hp⟩
          | false =>
            rw [show rvR E R = rfV R.2.1.own (E 1) from if_neg (by rw [hB]; decide)] at hp
            exact .inr ⟨rfl, _, _, _, _, hp⟩
      · skip
        have e0 : Hm.gotR L 7 c line d = (false, L, []) := by simp [Hm.gotR, hbu, ho]
        rw [e0]
        refine (got_7 E base hb L line [] sa sc qa qc ta tc w c to l t d L [] (rfV c (E 4)) h he (fun sa sc qa qc ta tc w h he => given_other E base hb L line [] sa sc qa qc ta tc w 7 c to l t d h hbu ho)).mono (fun e w' hp => .inr ⟨rfl, L, [], c, E 4, hp⟩)
end Go.Proofs.YtlalldlbgnlbjaaGreatDoor
