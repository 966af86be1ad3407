/- HmX -/
import Derived.Test.YtlalldlbgnlbjaaGreatDoorYomeGot39
/- a home is told that something is wanted (written by mkHmX.py) -/
namespace Go.Proofs.YtlalldlbgnlbjaaGreatDoor
open Go.RowKit
set_option linter.unusedVariables false
set_option linter.unusedSimpArgs false

/-- the first two listed errors are apart, and lie below a place -/
def Er (E : Nat → Addr) (w : World) (lim : Nat) : Prop := E 0 ≠ E 1 ∧ (∃ c t, w.heap[(E 0).block]? = some (.cells c t (0, 0))) ∧ (∃ c t, w.heap[(E 1).block]? = some (.cells c t (0, 0))) ∧ (E 0).block < lim ∧ (E 1).block < lim
theorem Er.mv {E : Nat → Addr} {S : Nat → Prop} {w w' : World} {lim : Nat} (h : Er E w lim) (hm : Mv S w w') (hs : ∀ g, g < lim → ¬ S g) : Er E w' lim := by
  obtain ⟨h0, ⟨c0, t0, h1⟩, ⟨c1, t1, h2⟩, h3, h4⟩ := h
  exact ⟨h0, ⟨c0, t0, hm.box h1 (hs _ h3)⟩, ⟨c1, t1, hm.box h2 (hs _ h4)⟩, h3, h4⟩
theorem Er.is {E : Nat → Addr} {w : World} {lim : Nat} (h : Er E w lim) (c : Int) : Calls Tryz.prog 87 #[rfV c (E 1), erV (E 0)] w fun e w' => e = .returned (.bool false) ∧ Below w.heap.size w w' := by
  obtain ⟨h0, ⟨c0, t0, h1⟩, ⟨c1, t1, h2⟩, h3, h4⟩ := h
  exact is_other c (E 1) (E 0) _ _ _ _ w (fun e => h0 e.symm) h2 h1
theorem Er.up {E : Nat → Addr} {w : World} {lim lim' : Nat} (h : Er E w lim) (hl : lim ≤ lim') : Er E w lim' := ⟨h.1, h.2.1, h.2.2.1, Nat.lt_of_lt_of_le h.2.2.2.1 hl, Nat.lt_of_lt_of_le h.2.2.2.2 hl⟩
theorem is_nil2 (p : Addr) (w : World) : Calls Tryz.prog 87 #[.nilIface, erV p] w fun e w' => e = .returned (.bool false) ∧ Below w.heap.size w w' :=
  (is_nil p w).mono fun e w' h => ⟨h.1, by rw [h.2]; exact Below.refl _ _⟩

set_option maxRecDepth 20000 in
set_option maxHeartbeats 2000000 in
theorem wanted_b (E : Nat → Addr) (base hb : Nat) (L : Hm.Ln) (line : Int) (ms : List Hm.Mg) (sa : Option Addr) (sc : Nat) (qa : Option Addr) (qc : Nat) (ta : Option Addr) (tc : Nat) (w : World) (c t : Int) (L2 : Hm.Ln) (r : Value) (h : Hr E w base hb L line ms sa sc qa qc ta tc) (hbu : ¬ L.bu = 0) (hm : ∀ (sa : Option Addr) (sc : Nat) (qa : Option Addr) (qc : Nat) (ta : Option Addr) (tc : Nat) (w : World), Hr E w base hb L line ms sa sc qa qc ta tc → Calls Tryz.prog 88 #[.pointer (some ⟨hb, 0, none⟩), .agg #[.int .i64 c, .int .i64 t]] w (HPost E w base hb (.slice sa L.sh.length sc) (.slice qa L.q.length qc) (.slice ta ms.length tc) L2 line ms r)) :
    Calls Tryz.prog 67 #[.pointer (some ⟨hb, 0, none⟩), .agg #[.int .i64 c, .int .i64 t]] w (HPost E w base hb (.slice sa L.sh.length sc) (.slice qa L.q.length qc) (.slice ta ms.length tc) L2 line ms r) := by
  have HB : Hid (Mv (Hb hb (.slice sa L.sh.length sc) (.slice qa L.q.length qc) (.slice ta ms.length tc)) w w) := hide (Mv.refl _ _)
  have hlo := h.lo
  have hb4 := h.b4
  have hlt := lt_of_block h.bx
  have AP := h.ap
  have FR : ∀ g, Hb hb (.slice sa L.sh.length sc) (.slice qa L.q.length qc) (.slice ta ms.length tc) g → Hb hb (.slice sa L.sh.length sc) (.slice qa L.q.length qc) (.slice ta ms.length tc) g ∨ w.heap.size ≤ g := fun g h => .inl h
  have bx0 := hide h.bx; have RS := hide h.rs; have RQ := hide h.rq; have RT := hide h.rt; have GL := hide h.gl; clear h
  have NB : Hid (∀ g, (rb (.slice sa L.sh.length sc) = some g ∨ rb (.slice qa L.q.length qc) = some g ∨ rb (.slice ta ms.length tc) = some g) → g ≠ hb) := hide (fun g h => HAp.ne AP h)
  go_enter Tryz.func67, Tryz.ntmps67
  refine sk fun K1 h1 => rl ?_
  refine sbp #[.int .i64 c, .int .i64 t] 71 fun V1 b1 hb1 m1 bx1 => ?_
  have o0_1 := Xlo bx0 hb1
  have og_1 : w.heap.size ≤ b1 := Xhs HB hb1
  replace NB : Hid (∀ g, (rb (.slice sa L.sh.length sc) = some g ∨ rb (.slice qa L.q.length qc) = some g ∨ rb (.slice ta ms.length tc) = some g) → g ≠ hb ∧ g ≠ b1) := hide (fun g h => by have h1 := NB.out g h; have h2 := rows_lt RS.out RQ.out RT.out g h; exact (by omega))
  replace RS := hide (RS.out.mv m1 (fun _ _ h => h))
  replace RQ := hide (RQ.out.mv m1 (fun _ _ h => h))
  replace RT := hide (RT.out.mv m1 (fun _ _ h => h))
  replace GL := hide (GL.out.mv m1 (fun _ _ h => h))
  clear hb1
  refine sv (.nilIface) ?_
  refine nt (h1 _ _ (sk fun K2 h2 => rl ?_)); clear h1 K1
  refine sv (.pointer (some ⟨hb, 0, none⟩)) ?_
  refine sg (.agg #[.int .i64 c, .int .i64 t]) (h := by have z0 := cell_box 0 (bx1.out) rfl; have z1 := cell_box 1 (bx1.out) rfl; go_simp) ?_
  replace HB := Xhn HB m1
  have hsz := HB.out.size
  have h4b : ∀ g, Hb hb (.slice sa L.sh.length sc) (.slice qa L.q.length qc) (.slice ta ms.length tc) g → 7 ≤ g := fun g h => Nat.le_trans hb4 (h.elim (fun e => e ▸ hlo) (fun q => (rows_lt RS.out RQ.out RT.out g q).1))
  have SF : ∀ g, Hb hb (.slice sa L.sh.length sc) (.slice qa L.q.length qc) (.slice ta ms.length tc) g → g ≠ b1 := fun g h => h.elim (fun e => by omega) (fun q => by have := NB.out g q; omega)
  have hsb1 := lt_of_block bx1.out
  replace bx0 := Xbn bx0 m1
  refine sw_call (by rfl) (by first | rfl | (go_simp; done)) (begin_b E base hb L line ms _ _ _ _ _ _ V1 c t ⟨bx0.out, RS.out, RQ.out, RT.out, AP, hlo, GL.out, hb4⟩ hbu) ?_
  rintro e V2 ⟨sa1, sc1, qa1, qc1, ta1, tc1, rfl, HR1, hfr, hmv⟩
  have m2 : Mv (Hb hb (.slice sa L.sh.length sc) (.slice qa L.q.length qc) (.slice ta ms.length tc)) V1 V2 := hmv
  refine ⟨_, rfl, ?_⟩
  refine pt ?_
  replace HB := hide (HB.out.step m2 (fun g hg e => (FR g e).resolve_right (by omega)))
  replace bx1 := hide (m2.box bx1.out (fun h => by have := SF _ h; omega))
  replace bx0 := hide HR1.bx; have RS := hide HR1.rs; have RQ := hide HR1.rq; have RT := hide HR1.rt; replace GL := hide HR1.gl; replace AP := HR1.ap
  replace NB : Hid (∀ g, (rb (.slice sa1 L.sh.length sc1) = some g ∨ rb (.slice qa1 L.q.length qc1) = some g ∨ rb (.slice ta1 ms.length tc1) = some g) → g ≠ hb ∧ g ≠ b1) := hide (fun g h => by have q1 := HAp.ne AP h; exact (hfr g (.inr h)).elim (fun q => q.elim (fun q => absurd q q1) (fun q => by have := NB.out g q; omega)) (fun q => by omega))
  replace FR := fun g h => (hfr g h).elim (FR g) (fun q => .inr (Nat.le_trans hsz q))
  clear HR1 hfr hmv hsz h4b SF hsb1
  refine sv (rfV c (E 0)) ?_
  refine nt (h2 _ _ (sk fun K3 h3 => sk fun K4 h4 => rl ?_)); clear h2 K2
  refine sv (rfV c (E 0)) ?_
  refine sg (erV (E 0)) (h := by have z0 := GL.out.busy; go_simp) ?_
  refine sw_call (by rfl) (by first | rfl | (go_simp; done)) (is_hit c (E 0) V2) ?_
  rintro e V3 ⟨rfl, hbl⟩
  have m3 : Mv (nob) V2 V3 := Mv.of_below hbl
  refine ⟨_, rfl, ?_⟩
  refine pt ?_
  replace GL := hide (GL.out.mv m3 (fun _ _ h => h))
  replace RS := hide (RS.out.mv m3 (fun _ _ h => h))
  replace RQ := hide (RQ.out.mv m3 (fun _ _ h => h))
  replace RT := hide (RT.out.mv m3 (fun _ _ h => h))
  clear hbl
  refine nt (h4 _ _ (ct (sk fun K5 h5 => rl ?_))); clear h4 K4
  refine sv (.pointer (some ⟨hb, 0, none⟩)) ?_
  replace bx1 := Xbn bx1 m3
  refine sg (.agg #[.int .i64 c, .int .i64 t]) (h := by have z0 := cell_box 0 (bx1.out) rfl; have z1 := cell_box 1 (bx1.out) rfl; go_simp) ?_
  replace HB := Xhn HB m3
  have hsz := HB.out.size
  have h4b : ∀ g, Hb hb (.slice sa1 L.sh.length sc1) (.slice qa1 L.q.length qc1) (.slice ta1 ms.length tc1) g → 7 ≤ g := fun g h => Nat.le_trans hb4 (h.elim (fun e => e ▸ hlo) (fun q => (rows_lt RS.out RQ.out RT.out g q).1))
  have SF : ∀ g, Hb hb (.slice sa1 L.sh.length sc1) (.slice qa1 L.q.length qc1) (.slice ta1 ms.length tc1) g → g ≠ b1 := fun g h => h.elim (fun e => by omega) (fun q => by have := NB.out g q; omega)
  have hsb1 := lt_of_block bx1.out
  replace bx0 := Xbn bx0 m3
  refine sw_call (by rfl) (by first | rfl | (go_simp; done)) (hm _ _ _ _ _ _ V3 ⟨bx0.out, RS.out, RQ.out, RT.out, AP, hlo, GL.out, hb4⟩) ?_
  rintro e V4 ⟨sa2, sc2, qa2, qc2, ta2, tc2, rfl, HR1, hfr, hmv⟩
  have m4 : Mv (Hb hb (.slice sa1 L.sh.length sc1) (.slice qa1 L.q.length qc1) (.slice ta1 ms.length tc1)) V3 V4 := hmv
  refine ⟨_, rfl, ?_⟩
  refine pt ?_
  replace HB := hide (HB.out.step m4 (fun g hg e => (FR g e).resolve_right (by omega)))
  replace bx1 := hide (m4.box bx1.out (fun h => by have := SF _ h; omega))
  replace bx0 := hide HR1.bx; have RS := hide HR1.rs; have RQ := hide HR1.rq; have RT := hide HR1.rt; replace GL := hide HR1.gl; replace AP := HR1.ap
  replace NB : Hid (∀ g, (rb (.slice sa2 L2.sh.length sc2) = some g ∨ rb (.slice qa2 L2.q.length qc2) = some g ∨ rb (.slice ta2 ms.length tc2) = some g) → g ≠ hb ∧ g ≠ b1) := hide (fun g h => by have q1 := HAp.ne AP h; exact (hfr g (.inr h)).elim (fun q => q.elim (fun q => absurd q q1) (fun q => by have := NB.out g q; omega)) (fun q => by omega))
  replace FR := fun g h => (hfr g h).elim (FR g) (fun q => .inr (Nat.le_trans hsz q))
  clear HR1 hfr hmv hsz h4b SF hsb1
  refine sv (r) ?_
  refine nt (h5 _ _ (wp_ret (then_ret ?_))); clear h5 K5; clear h3 K3
  exact bodyPost_ret (v := r) (by simp [results, Tryz.results67, go_sem]) rfl ⟨_, _, _, _, _, _, rfl, ⟨bx0.out, RS.out, RQ.out, RT.out, AP, hlo, GL.out, hb4⟩, FR, HB.out⟩

set_option maxRecDepth 20000 in
set_option maxHeartbeats 2000000 in
theorem wanted_o (E : Nat → Addr) (base hb : Nat) (L : Hm.Ln) (line : Int) (ms : List Hm.Mg) (sa : Option Addr) (sc : Nat) (qa : Option Addr) (qc : Nat) (ta : Option Addr) (tc : Nat) (w : World) (c t : Int) (h : Hr E w base hb L line ms sa sc qa qc ta tc) (he : Er E w base) (hbu : L.bu = 0) (ho : L.own = c) :
    Calls Tryz.prog 67 #[.pointer (some ⟨hb, 0, none⟩), .agg #[.int .i64 c, .int .i64 t]] w (HPost E w base hb (.slice sa L.sh.length sc) (.slice qa L.q.length qc) (.slice ta ms.length tc) L line ms (rfV c (E 1))) := by
  have HB : Hid (Mv (Hb hb (.slice sa L.sh.length sc) (.slice qa L.q.length qc) (.slice ta ms.length tc)) w w) := hide (Mv.refl _ _)
  have hlo := h.lo
  have hb4 := h.b4
  have hlt := lt_of_block h.bx
  have AP := h.ap
  have FR : ∀ g, Hb hb (.slice sa L.sh.length sc) (.slice qa L.q.length qc) (.slice ta ms.length tc) g → Hb hb (.slice sa L.sh.length sc) (.slice qa L.q.length qc) (.slice ta ms.length tc) g ∨ w.heap.size ≤ g := fun g h => .inl h
  have bx0 := hide h.bx; have RS := hide h.rs; have RQ := hide h.rq; have RT := hide h.rt; have GL := hide h.gl; clear h
  have NB : Hid (∀ g, (rb (.slice sa L.sh.length sc) = some g ∨ rb (.slice qa L.q.length qc) = some g ∨ rb (.slice ta ms.length tc) = some g) → g ≠ hb) := hide (fun g h => HAp.ne AP h)
  have ER := hide he; clear he
  go_enter Tryz.func67, Tryz.ntmps67
  refine sk fun K1 h1 => rl ?_
  refine sbp #[.int .i64 c, .int .i64 t] 71 fun V1 b1 hb1 m1 bx1 => ?_
  have o0_1 := Xlo bx0 hb1
  have og_1 : w.heap.size ≤ b1 := Xhs HB hb1
  replace NB : Hid (∀ g, (rb (.slice sa L.sh.length sc) = some g ∨ rb (.slice qa L.q.length qc) = some g ∨ rb (.slice ta ms.length tc) = some g) → g ≠ hb ∧ g ≠ b1) := hide (fun g h => by have h1 := NB.out g h; have h2 := rows_lt RS.out RQ.out RT.out g h; exact (by omega))
  replace RS := hide (RS.out.mv m1 (fun _ _ h => h))
  replace RQ := hide (RQ.out.mv m1 (fun _ _ h => h))
  replace RT := hide (RT.out.mv m1 (fun _ _ h => h))
  replace GL := hide (GL.out.mv m1 (fun _ _ h => h))
  replace ER := hide (ER.out.mv m1 (fun _ _ h => h))
  clear hb1
  refine sv (.nilIface) ?_
  refine nt (h1 _ _ (sk fun K2 h2 => rl ?_)); clear h1 K1
  refine sv (.pointer (some ⟨hb, 0, none⟩)) ?_
  refine sg (.agg #[.int .i64 c, .int .i64 t]) (h := by have z0 := cell_box 0 (bx1.out) rfl; have z1 := cell_box 1 (bx1.out) rfl; go_simp) ?_
  replace HB := Xhn HB m1
  have hsz := HB.out.size
  have h4b : ∀ g, Hb hb (.slice sa L.sh.length sc) (.slice qa L.q.length qc) (.slice ta ms.length tc) g → 7 ≤ g := fun g h => Nat.le_trans hb4 (h.elim (fun e => e ▸ hlo) (fun q => (rows_lt RS.out RQ.out RT.out g q).1))
  have SF : ∀ g, Hb hb (.slice sa L.sh.length sc) (.slice qa L.q.length qc) (.slice ta ms.length tc) g → g ≠ b1 := fun g h => h.elim (fun e => by omega) (fun q => by have := NB.out g q; omega)
  have hsb1 := lt_of_block bx1.out
  have hbB : ∀ g, Hb hb (.slice sa L.sh.length sc) (.slice qa L.q.length qc) (.slice ta ms.length tc) g → base ≤ g := fun g h => h.elim (fun e => e ▸ hlo) (fun q => (rows_lt RS.out RQ.out RT.out g q).1)
  replace bx0 := Xbn bx0 m1
  refine sw_call (by rfl) (by first | rfl | (go_simp; done)) (begin_o E base hb L line ms _ _ _ _ _ _ V1 c t ⟨bx0.out, RS.out, RQ.out, RT.out, AP, hlo, GL.out, hb4⟩ hbu ho) ?_
  rintro e V2 ⟨sa3, sc3, qa3, qc3, ta3, tc3, rfl, HR1, hfr, hmv⟩
  have m2 : Mv (Hb hb (.slice sa L.sh.length sc) (.slice qa L.q.length qc) (.slice ta ms.length tc)) V1 V2 := hmv
  refine ⟨_, rfl, ?_⟩
  refine pt ?_
  replace HB := hide (HB.out.step m2 (fun g hg e => (FR g e).resolve_right (by omega)))
  replace ER := hide (ER.out.mv m2 (fun g hg h => by have := hbB g h; omega))
  replace bx1 := hide (m2.box bx1.out (fun h => by have := SF _ h; omega))
  replace bx0 := hide HR1.bx; have RS := hide HR1.rs; have RQ := hide HR1.rq; have RT := hide HR1.rt; replace GL := hide HR1.gl; replace AP := HR1.ap
  replace NB : Hid (∀ g, (rb (.slice sa3 L.sh.length sc3) = some g ∨ rb (.slice qa3 L.q.length qc3) = some g ∨ rb (.slice ta3 ms.length tc3) = some g) → g ≠ hb ∧ g ≠ b1) := hide (fun g h => by have q1 := HAp.ne AP h; exact (hfr g (.inr h)).elim (fun q => q.elim (fun q => absurd q q1) (fun q => by have := NB.out g q; omega)) (fun q => by omega))
  replace FR := fun g h => (hfr g h).elim (FR g) (fun q => .inr (Nat.le_trans hsz q))
  clear HR1 hfr hmv hsz h4b SF hsb1
  clear hbB
  refine sv (rfV c (E 1)) ?_
  refine nt (h2 _ _ (sk fun K3 h3 => sk fun K4 h4 => rl ?_)); clear h2 K2
  refine sv (rfV c (E 1)) ?_
  refine sg (erV (E 0)) (h := by have z0 := GL.out.busy; go_simp) ?_
  refine sw_call (by rfl) (by first | rfl | (go_simp; done)) (ER.out.is c) ?_
  rintro e V3 ⟨rfl, hbl⟩
  have m3 : Mv (nob) V2 V3 := Mv.of_below hbl
  refine ⟨_, rfl, ?_⟩
  refine pt ?_
  replace GL := hide (GL.out.mv m3 (fun _ _ h => h))
  replace ER := hide (ER.out.mv m3 (fun _ _ h => h))
  replace RS := hide (RS.out.mv m3 (fun _ _ h => h))
  replace RQ := hide (RQ.out.mv m3 (fun _ _ h => h))
  replace RT := hide (RT.out.mv m3 (fun _ _ h => h))
  clear hbl
  refine nt (h4 _ _ (cf (wp_skip (then_normal (h3 _ _ (sk fun K5 h5 => rl ?_)))))); clear h4 K4; clear h3 K3
  refine sv (rfV c (E 1)) ?_
  refine sv (rfV c (E 1)) ?_
  refine nt (h5 _ _ (wp_ret ?_)); clear h5 K5
  replace HB := Xhn HB m3; replace bx0 := Xbn bx0 m3; replace bx1 := Xbn bx1 m3
  exact bodyPost_ret (v := rfV c (E 1)) (by simp [results, Tryz.results67, go_sem]) rfl ⟨_, _, _, _, _, _, rfl, ⟨bx0.out, RS.out, RQ.out, RT.out, AP, hlo, GL.out, hb4⟩, FR, HB.out⟩

set_option maxRecDepth 20000 in
set_option maxHeartbeats 2000000 in
theorem wanted_y (E : Nat → Addr) (base hb : Nat) (L : Hm.Ln) (line : Int) (ms : List Hm.Mg) (sa : Option Addr) (sc : Nat) (qa : Option Addr) (qc : Nat) (ta : Option Addr) (tc : Nat) (w : World) (c t : Int) (h : Hr E w base hb L line ms sa sc qa qc ta tc) (hok : Ids.ok L.sh = true) (hc1 : 1 ≤ c) (hc5 : c ≤ 5) (hn : ms.length ≤ 1000000) (hbu : L.bu = 0) (ho : ¬ L.own = c) :
    Calls Tryz.prog 67 #[.pointer (some ⟨hb, 0, none⟩), .agg #[.int .i64 c, .int .i64 t]] w (HPost E w base hb (.slice sa L.sh.length sc) (.slice qa L.q.length qc) (.slice ta ms.length tc) (Hm.begL L line c t) line (ms ++ Hm.begM L line c t) .nilIface) := by
  have HB : Hid (Mv (Hb hb (.slice sa L.sh.length sc) (.slice qa L.q.length qc) (.slice ta ms.length tc)) w w) := hide (Mv.refl _ _)
  have hlo := h.lo
  have hb4 := h.b4
  have hlt := lt_of_block h.bx
  have AP := h.ap
  have FR : ∀ g, Hb hb (.slice sa L.sh.length sc) (.slice qa L.q.length qc) (.slice ta ms.length tc) g → Hb hb (.slice sa L.sh.length sc) (.slice qa L.q.length qc) (.slice ta ms.length tc) g ∨ w.heap.size ≤ g := fun g h => .inl h
  have bx0 := hide h.bx; have RS := hide h.rs; have RQ := hide h.rq; have RT := hide h.rt; have GL := hide h.gl; clear h
  have NB : Hid (∀ g, (rb (.slice sa L.sh.length sc) = some g ∨ rb (.slice qa L.q.length qc) = some g ∨ rb (.slice ta ms.length tc) = some g) → g ≠ hb) := hide (fun g h => HAp.ne AP h)
  go_enter Tryz.func67, Tryz.ntmps67
  refine sk fun K1 h1 => rl ?_
  refine sbp #[.int .i64 c, .int .i64 t] 71 fun V1 b1 hb1 m1 bx1 => ?_
  have o0_1 := Xlo bx0 hb1
  have og_1 : w.heap.size ≤ b1 := Xhs HB hb1
  replace NB : Hid (∀ g, (rb (.slice sa L.sh.length sc) = some g ∨ rb (.slice qa L.q.length qc) = some g ∨ rb (.slice ta ms.length tc) = some g) → g ≠ hb ∧ g ≠ b1) := hide (fun g h => by have h1 := NB.out g h; have h2 := rows_lt RS.out RQ.out RT.out g h; exact (by omega))
  replace RS := hide (RS.out.mv m1 (fun _ _ h => h))
  replace RQ := hide (RQ.out.mv m1 (fun _ _ h => h))
  replace RT := hide (RT.out.mv m1 (fun _ _ h => h))
  replace GL := hide (GL.out.mv m1 (fun _ _ h => h))
  clear hb1
  refine sv (.nilIface) ?_
  refine nt (h1 _ _ (sk fun K2 h2 => rl ?_)); clear h1 K1
  refine sv (.pointer (some ⟨hb, 0, none⟩)) ?_
  refine sg (.agg #[.int .i64 c, .int .i64 t]) (h := by have z0 := cell_box 0 (bx1.out) rfl; have z1 := cell_box 1 (bx1.out) rfl; go_simp) ?_
  replace HB := Xhn HB m1
  have hsz := HB.out.size
  have h4b : ∀ g, Hb hb (.slice sa L.sh.length sc) (.slice qa L.q.length qc) (.slice ta ms.length tc) g → 7 ≤ g := fun g h => Nat.le_trans hb4 (h.elim (fun e => e ▸ hlo) (fun q => (rows_lt RS.out RQ.out RT.out g q).1))
  have SF : ∀ g, Hb hb (.slice sa L.sh.length sc) (.slice qa L.q.length qc) (.slice ta ms.length tc) g → g ≠ b1 := fun g h => h.elim (fun e => by omega) (fun q => by have := NB.out g q; omega)
  have hsb1 := lt_of_block bx1.out
  replace bx0 := Xbn bx0 m1
  refine sw_call (by rfl) (by first | rfl | (go_simp; done)) (begin_any E base hb L line ms _ _ _ _ _ _ V1 c t ⟨bx0.out, RS.out, RQ.out, RT.out, AP, hlo, GL.out, hb4⟩ hok hc1 hc5 hn hbu ho) ?_
  rintro e V2 ⟨sa4, sc4, qa4, qc4, ta4, tc4, rfl, HR1, hfr, hmv⟩
  have m2 : Mv (Hb hb (.slice sa L.sh.length sc) (.slice qa L.q.length qc) (.slice ta ms.length tc)) V1 V2 := hmv
  refine ⟨_, rfl, ?_⟩
  refine pt ?_
  replace HB := hide (HB.out.step m2 (fun g hg e => (FR g e).resolve_right (by omega)))
  replace bx1 := hide (m2.box bx1.out (fun h => by have := SF _ h; omega))
  replace bx0 := hide HR1.bx; have RS := hide HR1.rs; have RQ := hide HR1.rq; have RT := hide HR1.rt; replace GL := hide HR1.gl; replace AP := HR1.ap
  replace NB : Hid (∀ g, (rb (.slice sa4 ((Hm.begL L line c t)).sh.length sc4) = some g ∨ rb (.slice qa4 ((Hm.begL L line c t)).q.length qc4) = some g ∨ rb (.slice ta4 (ms ++ Hm.begM L line c t).length tc4) = some g) → g ≠ hb ∧ g ≠ b1) := hide (fun g h => by have q1 := HAp.ne AP h; exact (hfr g (.inr h)).elim (fun q => q.elim (fun q => absurd q q1) (fun q => by have := NB.out g q; omega)) (fun q => by omega))
  replace FR := fun g h => (hfr g h).elim (FR g) (fun q => .inr (Nat.le_trans hsz q))
  clear HR1 hfr hmv hsz h4b SF hsb1
  refine sv (.nilIface) ?_
  refine nt (h2 _ _ (sk fun K3 h3 => sk fun K4 h4 => rl ?_)); clear h2 K2
  refine sv (.nilIface) ?_
  refine sg (erV (E 0)) (h := by have z0 := GL.out.busy; go_simp) ?_
  refine sw_call (by rfl) (by first | rfl | (go_simp; done)) (is_nil2 (E 0) V2) ?_
  rintro e V3 ⟨rfl, hbl⟩
  have m3 : Mv (nob) V2 V3 := Mv.of_below hbl
  refine ⟨_, rfl, ?_⟩
  refine pt ?_
  replace GL := hide (GL.out.mv m3 (fun _ _ h => h))
  replace RS := hide (RS.out.mv m3 (fun _ _ h => h))
  replace RQ := hide (RQ.out.mv m3 (fun _ _ h => h))
  replace RT := hide (RT.out.mv m3 (fun _ _ h => h))
  clear hbl
  refine nt (h4 _ _ (cf (wp_skip (then_normal (h3 _ _ (sk fun K5 h5 => rl ?_)))))); clear h4 K4; clear h3 K3
  refine sv (.nilIface) ?_
  refine sv (.nilIface) ?_
  refine nt (h5 _ _ (wp_ret ?_)); clear h5 K5
  replace HB := Xhn HB m3; replace bx0 := Xbn bx0 m3; replace bx1 := Xbn bx1 m3
  exact bodyPost_ret (v := .nilIface) (by simp [results, Tryz.results67, go_sem]) rfl ⟨_, _, _, _, _, _, rfl, ⟨bx0.out, RS.out, RQ.out, RT.out, AP, hlo, GL.out, hb4⟩, FR, HB.out⟩

end Go.Proofs.YtlalldlbgnlbjaaGreatDoor
