/- HmZ -/
import Derived.Test.YtlalldlbgnlbjaaGreatDoorYomeGot41
/- a home's iterator over what waits (written by mkHmZ.py) -/
namespace Go.Proofs.YtlalldlbgnlbjaaGreatDoor
open Go.RowKit
set_option linter.unusedVariables false
set_option linter.unusedSimpArgs false

/-- a home at work since w: what may have changed of w lies in S -/
def Ha (E : Nat → Addr) (base hb : Nat) (line : Int) (w : World) (S : Nat → Prop) (L : Hm.Ln) (ms : List Hm.Mg) (V : World) : Prop := ∃ sa sc qa qc ta tc, Hr E V base hb L line ms sa sc qa qc ta tc ∧
  (∀ g, Hb hb (.slice sa L.sh.length sc) (.slice qa L.q.length qc) (.slice ta ms.length tc) g → S g ∨ w.heap.size ≤ g) ∧ Mv S w V
/-- what must lie as it is -/
abbrev Bk (ps : List (Nat × Obj)) (V : World) : Prop := ∀ p ∈ ps, V.heap[p.1]? = some p.2

theorem req_tail {w : World} {base cap : Nat} {a : Option Addr} {c t : Int} {Q q2 : List (Int × Int)} (h : Rg w base (.slice a Q.length cap) 2 Q.length (gF (f2 Q))) (hq : Q = (c, t) :: q2) :
    ∃ a', (∀ W : World, (Instr.slice 29 (.slice a Q.length cap) (some (.int .i64 1)) none none).run Tryz.prog W = .ok (.slice a' q2.length (cap - 1)) W) ∧ Rg w base (.slice a' q2.length (cap - 1)) 2 q2.length (gF (f2 q2)) ∧ ∀ g, rb (.slice a' q2.length (cap - 1)) = some g → rb (.slice a Q.length cap) = some g := by
  obtain ⟨n, hn⟩ : ∃ n, q2.length = n := ⟨_, rfl⟩
  have hQ : Q.length = n + 1 := by rw [hq]; simp [hn]
  rw [hQ] at h ⊢
  rw [hn]
  rcases h with ⟨_, e⟩ | ⟨g, off, k, e, h1, hp, h0, h2, h3, h4⟩
  · omega
  · simp only [Value.slice.injEq, true_and] at e
    obtain ⟨rfl, rfl⟩ := e
    obtain ⟨i0, hi, hz0, hz1, hz2⟩ := info_parts infoReq
    refine ⟨if cap = 1 then some ⟨g, off, none⟩ else some ⟨g, off + 2, none⟩, fun W => ?_, ?_, ?_⟩
    · have a1 : (1 : Int) ≤ (n : Int) + 1 := by omega
      have a3 : ¬ ((n : Int) + 1 < 1) := by omega
      have a2 : (cap - 1 = 0) = (cap = 1) := by simp; omega
      simp [go_sem, Tryz.underlying29, Instr.slice, Instr.sliceBounds, Instr.sliceBound, asIntOf, Addr.add, a1, a3, h1, a2, hi, hz1, sizeOf, typeInfo]
    · by_cases hk : cap = 1
      · obtain rfl : n = 0 := by omega
        exact .inl ⟨⟨some ⟨g, off, none⟩, by simp [hk]⟩, rfl⟩
      · refine .inr ⟨g, off + 2, cap - 1, by rw [if_neg hk], by omega, by omega, by omega, h2, ?_, fun x hx => ?_⟩
        · have : off + 2 + (cap - 1) * 2 = off + cap * 2 := by omega
          rw [this]; exact h3
        · have := h4 (2 + x) (by omega)
          rw [Nat.add_assoc, this, show (2 + x) / 2 = x / 2 + 1 by omega, show (2 + x) % 2 = x % 2 by omega]
          simp only [gF, f2, hq, List.getD_cons_succ]
    · intro g' hg'
      rw [rb_some hp]
      by_cases hk : cap = 1
      · rw [hk, Nat.sub_self, rb_zero] at hg'; cases hg'
      · rw [if_neg hk, rb_some (by omega)] at hg'; exact hg'

set_option maxRecDepth 20000 in
set_option maxHeartbeats 2000000 in
theorem freed_any (E : Nat → Addr) (base hb : Nat) (line : Int) (w : World) (S : Nat → Prop) (l : Nat) (ps : List (Nat × Obj)) (R : Bool × Hm.Ln × List Hm.Mg) (Jx : Hm.Ln → List Hm.Mg → World → Prop) (L : Hm.Ln) (ms : List Hm.Mg) (W1 : World) (hlt : hb < w.heap.size) (hps : ∀ p ∈ ps, p.1 ≠ hb)
    (hY : ∀ (L : Hm.Ln) (ms : List Hm.Mg) (c t : Int) (V : World), Ha E base hb line w S L ms V → Bk ps V → L.bu = 0 → Gd L → 1 ≤ c → c ≤ 5 → ms.length ≤ 100000 → YieldAt Fence.wide 0 Tryz.prog l #[.agg #[.int .i64 c, .int .i64 t]] V fun e V' => (¬ L.own = c ∧ e = .returned (.bool true) ∧ Ha E base hb line w S (Hm.begL L line c t) (ms ++ Hm.begM L line c t) V' ∧ Bk ps V') ∨ (L.own = c ∧ e = .returned (.bool false) ∧ Jx L ms V'))
    (ha : Ha E base hb line w S L ms W1) (hp : Bk ps W1) (hg : Gd L) (hn : ms.length + 5 * L.q.length ≤ 100000) (hR : Hm.nextR line L.q L ms = R) :
    Calls Tryz.prog 102 #[.pointer (some ⟨hb, 0, none⟩), .func (.yield l) #[] #[]] W1 fun e V => (∃ v, e = .returned v) ∧ ((R.1 = true ∧ Ha E base hb line w S R.2.1 R.2.2 V ∧ Bk ps V) ∨ (R.1 = false ∧ Jx R.2.1 R.2.2 V)) := by
  have HA := hide ha; have BK := hide hp; have RN : Hid (Gd L ∧ ms.length + 5 * L.q.length ≤ 100000 ∧ Hm.nextR line L.q L ms = R) := hide ⟨hg, hn, hR⟩; clear ha hp hg hn hR
  go_enter Tryz.func102, Tryz.ntmps102
  refine wp_block ?_
  refine wp_loop_ghost (fun m a' w' => ∃ (L : Hm.Ln) (ms : List Hm.Mg) (U : Nat → Value), m = L.q.length ∧ a' = ⟨#[.pointer (some ⟨hb, 0, none⟩), .func (.yield l) #[] #[], undef, undef, U 0, U 1, U 2, U 3, U 4, U 5, U 6, U 7, U 8, U 9, U 10, U 11, U 12, U 13, U 14, U 15, U 16, U 17, U 18, U 19, U 20, U 21, U 22, U 23, U 24, U 25, U 26, U 27, U 28, U 29, U 30, U 31, U 32, U 33, U 34, U 35, U 36], []⟩ ∧ (Ha E base hb line w S L ms w') ∧ (Bk ps w') ∧ (Gd L ∧ ms.length + 5 * L.q.length ≤ 100000 ∧ Hm.nextR line L.q L ms = R)) (L.q.length) ⟨L, ms, fun i => [undef, undef, undef, undef, undef, undef, undef, undef, undef, undef, undef, undef, undef, undef, undef, undef, undef, undef, undef, undef, undef, undef, undef, undef, undef, undef, undef, undef, undef, undef, undef, undef, undef, undef, undef, undef, undef].getD i undef, rfl, rfl, (HA.out), (BK.out), (RN.out)⟩ (fun m a' VL1 hI => ?_)
  obtain ⟨L, ms, U, rfl, rfl, i_HA, i_BK, i_RN⟩ := hI
  have HA := hide i_HA; clear i_HA
  have BK := hide i_BK; clear i_BK
  have RN := hide i_RN; clear i_RN
  refine sk fun K1 h1 => sk fun K2 h2 => rl ?_
  obtain ⟨sa, sc, qa, qc, ta, tc, h0, FR, HB⟩ := HA.out
  clear HA
  replace HB := hide HB
  have hlo := h0.lo
  have hb4 := h0.b4
  have AP := h0.ap
  have bx0 := hide h0.bx; have RS := hide h0.rs; have RQ := hide h0.rq; have RT := hide h0.rt; have GL := hide h0.gl; clear h0
  have NB : Hid (∀ g, (rb (.slice sa L.sh.length sc) = some g ∨ rb (.slice qa L.q.length qc) = some g ∨ rb (.slice ta ms.length tc) = some g) → g ≠ hb) := hide (fun g h => HAp.ne AP h)
  by_cases hbu : L.bu = 0
  · have hbv : Hid ((L.bu != 0) = false) := hide (by simp [hbu])
    by_cases hz : L.q.length = 0
    · obtain rfl : R = (true, L, ms) := RN.out.2.2.symm.trans (next_end (.inr (List.eq_nil_of_length_eq_zero hz)))
      refine sv (.pointer (some ⟨hb, 0, none⟩)) ?_
      refine sg (.pointer (some ⟨hb, 0, none⟩)) ?_
      refine sv (.pointer (some ⟨hb, 0, none⟩)) ?_
      refine sg (.agg #[.int .i64 L.mem, .int .i64 L.own, .slice sa L.sh.length sc, .int .i64 L.bu, .int .i64 L.wt, .int .i64 L.ac, .slice qa L.q.length qc]) (h := by have z0 := cell_box 0 (bx0.out) rfl; have z1 := cell_box 1 (bx0.out) rfl; have z2 := cell_box 2 (bx0.out) rfl; have z3 := cell_box 3 (bx0.out) rfl; have z4 := cell_box 4 (bx0.out) rfl; have z5 := cell_box 5 (bx0.out) rfl; have z6 := cell_box 6 (bx0.out) rfl; go_simp) ?_
      refine sw_call (by rfl) (by first | rfl | (go_simp; done)) (isBusy_any L.mem L.own (.slice sa L.sh.length sc) L.bu L.wt L.ac (.slice qa L.q.length qc) VL1) ?_
      rintro e V1 ⟨rfl, hbl⟩
      have m1 : Mv (nob) VL1 V1 := Mv.of_below hbl
      refine ⟨_, rfl, ?_⟩
      refine pt ?_
      replace BK := hide (fun p hp => m1.box (BK.out p hp) (fun h => h))
      replace RS := hide (RS.out.mv m1 (fun _ _ h => h))
      replace RQ := hide (RQ.out.mv m1 (fun _ _ h => h))
      replace RT := hide (RT.out.mv m1 (fun _ _ h => h))
      replace GL := hide (GL.out.mv m1 (fun _ _ h => h))
      clear hbl
      rw [hbv.out]
      refine sg (.bool true) ?_
      refine sv (.bool true) ?_
      refine sv (.pointer (some ⟨hb, 0, none⟩)) ?_
      refine sg (.pointer (some ⟨hb, 0, none⟩)) ?_
      refine sv (.pointer (some ⟨hb, 0, none⟩)) ?_
      refine sv (.pointer (some ⟨hb, 6, none⟩)) ?_
      replace bx0 := Xbn bx0 m1
      refine sl 6 bx0 ?_
      refine sg (.int .i64 (L.q.length : Int)) ?_
      refine sg (.bool false) (h := by have hd : decide (0 < L.q.length) = false := decide_eq_false (by omega); have hd2 : decide ((0 : Int) < (L.q.length : Int)) = false := decide_eq_false (by omega); have hd3 : decide ((L.q.length : Int) > 0) = false := decide_eq_false (by omega); go_simp) ?_
      refine sg (.bool false) ?_
      refine nt (h2 _ _ (cf (wp_exit (then_exit (then_exit (inb_here rfl ?_)))))); clear h2 K2; clear h1 K1
      replace HB := Xhn HB m1
      exact bodyPost_end (v := .tuple #[]) (by simp [results, Tryz.results102, go_sem]) rfl ⟨⟨_, rfl⟩, .inl ⟨rfl, ⟨_, _, _, _, _, _, ⟨bx0.out, RS.out, RQ.out, RT.out, AP, hlo, GL.out, hb4⟩, FR, HB.out⟩, BK.out⟩⟩
    · obtain ⟨⟨c, t⟩, q2, hq⟩ : ∃ r q2, L.q = r :: q2 := List.exists_cons_of_length_pos (by omega)
      replace hq := hide hq
      refine sv (.pointer (some ⟨hb, 0, none⟩)) ?_
      refine sg (.pointer (some ⟨hb, 0, none⟩)) ?_
      refine sv (.pointer (some ⟨hb, 0, none⟩)) ?_
      refine sg (.agg #[.int .i64 L.mem, .int .i64 L.own, .slice sa L.sh.length sc, .int .i64 L.bu, .int .i64 L.wt, .int .i64 L.ac, .slice qa L.q.length qc]) (h := by have z0 := cell_box 0 (bx0.out) rfl; have z1 := cell_box 1 (bx0.out) rfl; have z2 := cell_box 2 (bx0.out) rfl; have z3 := cell_box 3 (bx0.out) rfl; have z4 := cell_box 4 (bx0.out) rfl; have z5 := cell_box 5 (bx0.out) rfl; have z6 := cell_box 6 (bx0.out) rfl; go_simp) ?_
      refine sw_call (by rfl) (by first | rfl | (go_simp; done)) (isBusy_any L.mem L.own (.slice sa L.sh.length sc) L.bu L.wt L.ac (.slice qa L.q.length qc) VL1) ?_
      rintro e V2 ⟨rfl, hbl⟩
      have m2 : Mv (nob) VL1 V2 := Mv.of_below hbl
      refine ⟨_, rfl, ?_⟩
      refine pt ?_
      replace BK := hide (fun p hp => m2.box (BK.out p hp) (fun h => h))
      replace RS := hide (RS.out.mv m2 (fun _ _ h => h))
      replace RQ := hide (RQ.out.mv m2 (fun _ _ h => h))
      replace RT := hide (RT.out.mv m2 (fun _ _ h => h))
      replace GL := hide (GL.out.mv m2 (fun _ _ h => h))
      clear hbl
      rw [hbv.out]
      refine sg (.bool true) ?_
      refine sv (.bool true) ?_
      refine sv (.pointer (some ⟨hb, 0, none⟩)) ?_
      refine sg (.pointer (some ⟨hb, 0, none⟩)) ?_
      refine sv (.pointer (some ⟨hb, 0, none⟩)) ?_
      refine sv (.pointer (some ⟨hb, 6, none⟩)) ?_
      replace bx0 := Xbn bx0 m2
      refine sl 6 bx0 ?_
      refine sg (.int .i64 (L.q.length : Int)) ?_
      refine sg (.bool true) (h := by have hd : decide (0 < L.q.length) = true := decide_eq_true (by omega); have hd2 : decide ((0 : Int) < (L.q.length : Int)) = true := decide_eq_true (by omega); have hd3 : decide ((L.q.length : Int) > 0) = true := decide_eq_true (by omega); go_simp) ?_
      refine sg (.bool true) ?_
      refine nt (h2 _ _ (ct (wp_skip (then_normal (h1 _ _ (wp_block (sk fun K3 h3 => rl ?_))))))); clear h2 K2; clear h1 K1
      replace HB := Xhn HB m2
      obtain ⟨g0, o0, e0, _, _, _, _, hcell⟩ := RQ.out.rows (by omega)
      subst e0
      have z0 : V2.cell? ⟨g0, o0, none⟩ = some (.int .i64 c) := by have := hcell 0 (by omega); rw [hq.out] at this; exact this
      have z1 : V2.cell? ⟨g0, o0 + 1, none⟩ = some (.int .i64 t) := by have := hcell 1 (by omega); rw [hq.out] at this; exact this
      clear hcell
      refine sv (.pointer (some ⟨hb, 0, none⟩)) ?_
      refine sg (.pointer (some ⟨hb, 0, none⟩)) ?_
      refine sv (.pointer (some ⟨hb, 0, none⟩)) ?_
      refine sv (.pointer (some ⟨hb, 6, none⟩)) ?_
      refine sl 6 bx0 ?_
      refine sg (.pointer (some ⟨g0, o0, none⟩)) (h := by have h1 : (0 : Int) < (L.q.length : Int) := (by omega); go_simp) ?_
      refine sg (.agg #[.int .i64 c, .int .i64 t]) (h := by have y0 := z0; have y1 := z1; go_simp) ?_
      refine sbp #[.int .i64 0, .int .i64 0] 71 fun V3 b1 hb1 m3 bx1 => ?_
      have o0_1 := Xlo bx0 hb1
      have og_1 : w.heap.size ≤ b1 := Xhs HB hb1
      replace NB : Hid (∀ g, (rb (.slice sa L.sh.length sc) = some g ∨ rb (.slice (some ⟨g0, o0, none⟩) L.q.length qc) = some g ∨ rb (.slice ta ms.length tc) = some g) → g ≠ hb ∧ g ≠ b1) := hide (fun g h => by have h1 := NB.out g h; have h2 := rows_lt RS.out RQ.out RT.out g h; exact (by omega))
      have ol_b1 : ∀ p ∈ ps, p.1 < b1 := fun p hp => hb1 ▸ lt_of_block (BK.out p hp)
      replace BK := hide (fun p hp => m3.box (BK.out p hp) (fun h => h))
      replace RS := hide (RS.out.mv m3 (fun _ _ h => h))
      replace RQ := hide (RQ.out.mv m3 (fun _ _ h => h))
      replace RT := hide (RT.out.mv m3 (fun _ _ h => h))
      replace GL := hide (GL.out.mv m3 (fun _ _ h => h))
      clear hb1
      refine ss2 (.int .i64 c) (.int .i64 t) bx1 fun V4 m4 bx1 => ?_
      replace BK := hide (fun p hp => m4.box (BK.out p hp) (fun e => by have e : p.1 = b1 := e; have := ol_b1 p hp; omega))
      replace RS := hide (RS.out.mv m4 (fun g e h => by have h : g = b1 := h; have := NB.out g (.inl e); omega))
      replace RQ := hide (RQ.out.mv m4 (fun g e h => by have h : g = b1 := h; have := NB.out g (.inr (.inl e)); omega))
      replace RT := hide (RT.out.mv m4 (fun g e h => by have h : g = b1 := h; have := NB.out g (.inr (.inr e)); omega))
      replace GL := hide (GL.out.mv m4 (fun g hg h => by have h : g = b1 := h; omega))
      refine nt (h3 _ _ (sk fun K4 h4 => rl ?_)); clear h3 K3
      replace HB := Xhb (Xhn HB m3) m4; replace bx0 := Xbb (Xbn bx0 m3) m4
      clear z0 z1
      obtain ⟨qa2, hsl2, hrq2, hrb2⟩ := req_tail RQ.out hq.out
      have RQ2 := hide hrq2; clear hrq2
      refine sv (.pointer (some ⟨hb, 0, none⟩)) ?_
      refine sv (.pointer (some ⟨hb, 0, none⟩)) ?_
      refine sg (.pointer (some ⟨hb, 0, none⟩)) ?_
      refine sv (.pointer (some ⟨hb, 0, none⟩)) ?_
      refine sv (.pointer (some ⟨hb, 6, none⟩)) ?_
      refine sl 6 bx0 ?_
      refine sg (.slice qa2 q2.length (qc - 1)) (h := by have hs2 := hsl2; go_simp) ?_
      refine sg (.pointer (some ⟨hb, 0, none⟩)) ?_
      refine sv (.pointer (some ⟨hb, 0, none⟩)) ?_
      refine sv (.pointer (some ⟨hb, 6, none⟩)) ?_
      refine ss 6 (.slice qa2 q2.length (qc - 1)) bx0 fun V5 m5 bx0 => ?_
      replace BK := hide (fun p hp => m5.box (BK.out p hp) (hps p hp))
      replace HB := hide (HB.out.step m5 (fun g hg e => (FR g (.inl e)).resolve_right (by omega)))
      replace RS := hide (RS.out.mv m5 (fun g e h => by have h : g = hb := h; have := NB.out g (.inl e); omega))
      replace RQ := hide (RQ.out.mv m5 (fun g e h => by have h : g = hb := h; have := NB.out g (.inr (.inl e)); omega))
      replace RT := hide (RT.out.mv m5 (fun g e h => by have h : g = hb := h; have := NB.out g (.inr (.inr e)); omega))
      replace GL := hide (GL.out.mv m5 (fun g hg h => by have h : g = hb := h; omega))
      replace RQ2 := hide (RQ2.out.mv m5 (fun g e h => by have h : g = hb := h; have := NB.out g (.inr (.inl (hrb2 g e))); omega))
      refine nt (h4 _ _ (sk fun K5 h5 => ?_)); clear h4 K4
      replace bx1 := Xbb bx1 m5
      replace RQ := RQ2; clear RQ2
      replace AP : HAp hb (.slice sa L.sh.length sc) (.slice qa2 q2.length (qc - 1)) (.slice ta ms.length tc) := ⟨⟨AP.1.1, fun e => AP.1.2.1 (hrb2 _ e), AP.1.2.2⟩, fun g e => ⟨fun e2 => (AP.2.1 g e).1 (hrb2 g e2), (AP.2.1 g e).2⟩, fun g e => AP.2.2 g (hrb2 g e)⟩
      replace FR := fun g (h : Hb hb (.slice sa L.sh.length sc) (.slice qa2 q2.length (qc - 1)) (.slice ta ms.length tc) g) => h.elim (fun e => FR g (.inl e)) (fun h => h.elim (fun e => FR g (.inr (.inl e))) (fun h => h.elim (fun e => FR g (.inr (.inr (.inl (hrb2 g e))))) (fun e => FR g (.inr (.inr (.inr e))))))
      replace NB : Hid (∀ g, (rb (.slice sa L.sh.length sc) = some g ∨ rb (.slice qa2 q2.length (qc - 1)) = some g ∨ rb (.slice ta ms.length tc) = some g) → g ≠ hb ∧ g ≠ b1) := hide (fun g h => h.elim (fun e => NB.out g (.inl e)) (fun h => h.elim (fun e => NB.out g (.inr (.inl (hrb2 g e)))) (fun e => NB.out g (.inr (.inr e)))))
      have HA1 : Ha E base hb line w S ({ L with q := q2 } : Hm.Ln) ms V5 := ⟨_, _, _, _, _, _, ⟨bx0.out, RS.out, RQ.out, RT.out, AP, hlo, GL.out, hb4⟩, FR, HB.out⟩
      have hcc := RN.out.1.head hq.out
      obtain ⟨fn, tmps, assign, body, hy, hY2⟩ := hY ({ L with q := q2 } : Hm.Ln) ms c t _ HA1 BK.out hbu (RN.out.1.tail hq.out) hcc.1 hcc.2.1 (by have := RN.out.2.1; omega)
      have cy0 := cell_box 0 bx1.out rfl; have cy1 := cell_box 1 bx1.out rfl
      replace hbu := hide hbu
      have HYr := hide hY2; clear hY2 HA1
      refine (wpIn_wide (n := 1)).1 ?_
      gi_wp2
      refine HYr.out.mono ?_; clear HYr hy
      rintro e W3 (⟨hno, rfl, HA2, BK2⟩ | ⟨hyes, rfl, hJ⟩)
      · replace HA2 := hide HA2; replace BK2 := hide BK2; replace hno := hide hno
        gi_wp2
        refine cf (wp_skip (inb_norm (then_normal ?_)))
        exact ⟨(Hm.begL ({ L with q := q2 } : Hm.Ln) line c t).q.length, (by rw [begL_q]; show q2.length < L.q.length; rw [hq.out]; simp), (Hm.begL ({ L with q := q2 } : Hm.Ln) line c t), (ms ++ Hm.begM ({ L with q := q2 } : Hm.Ln) line c t), fun i => [.pointer (some ⟨b1, 0, none⟩), .pointer (some ⟨hb, 0, none⟩), .pointer (some ⟨hb, 0, none⟩), .pointer (some ⟨hb, 0, none⟩), .agg #[.int .i64 L.mem, .int .i64 L.own, .slice sa L.sh.length sc, .int .i64 L.bu, .int .i64 L.wt, .int .i64 L.ac, .slice (some ⟨g0, o0, none⟩) L.q.length qc], .bool false, .bool true, .bool true, .pointer (some ⟨hb, 0, none⟩), .pointer (some ⟨hb, 0, none⟩), .pointer (some ⟨hb, 0, none⟩), .pointer (some ⟨hb, 6, none⟩), .slice (some ⟨g0, o0, none⟩) L.q.length qc, .int .i64 (L.q.length : Int), .bool true, .bool true, .pointer (some ⟨hb, 0, none⟩), .pointer (some ⟨hb, 0, none⟩), .pointer (some ⟨hb, 0, none⟩), .pointer (some ⟨hb, 6, none⟩), .slice (some ⟨g0, o0, none⟩) L.q.length qc, .pointer (some ⟨g0, o0, none⟩), .agg #[.int .i64 c, .int .i64 t], .pointer (some ⟨hb, 0, none⟩), .pointer (some ⟨hb, 0, none⟩), .pointer (some ⟨hb, 0, none⟩), .pointer (some ⟨hb, 0, none⟩), .pointer (some ⟨hb, 6, none⟩), .slice (some ⟨g0, o0, none⟩) L.q.length qc, .slice qa2 q2.length (qc - 1), .pointer (some ⟨hb, 0, none⟩), .pointer (some ⟨hb, 0, none⟩), .pointer (some ⟨hb, 6, none⟩), .func (.yield l) #[] #[], .agg #[.int .i64 c, .int .i64 t], .bool true, .bool false].getD i undef, rfl, rfl, (HA2.out), (BK2.out), (⟨(RN.out.1.tail hq.out).beg hcc.1 hcc.2.1, (by have h1 := begM_len (RN.out.1.tail hq.out) line c t; have h2 := RN.out.2.1; rw [begL_q, List.length_append]; rw [hq.out, List.length_cons] at h2; show ms.length + _ + 5 * q2.length ≤ _; omega), (next_step hbu.out hq.out hno.out).symm.trans RN.out.2.2⟩)⟩
      · replace hJ := hide hJ; replace hyes := hide hyes
        gi_wp2
        refine ct (wp_ret (inb_ret (then_ret (inb_ret ?_))))
        obtain rfl : R = (false, ({ L with q := q2 } : Hm.Ln), ms) := RN.out.2.2.symm.trans (next_no hbu.out hq.out hyes.out)
        exact bodyPost_ret (v := .tuple #[]) (by simp [results, Tryz.results102, go_sem]) rfl ⟨⟨_, rfl⟩, .inr ⟨rfl, hJ.out⟩⟩
  · have hbv : Hid ((L.bu != 0) = true) := hide (by simpa using hbu)
    obtain rfl : R = (true, L, ms) := RN.out.2.2.symm.trans (next_end (.inl hbu))
    clear hbu
    refine sv (.pointer (some ⟨hb, 0, none⟩)) ?_
    refine sg (.pointer (some ⟨hb, 0, none⟩)) ?_
    refine sv (.pointer (some ⟨hb, 0, none⟩)) ?_
    refine sg (.agg #[.int .i64 L.mem, .int .i64 L.own, .slice sa L.sh.length sc, .int .i64 L.bu, .int .i64 L.wt, .int .i64 L.ac, .slice qa L.q.length qc]) (h := by have z0 := cell_box 0 (bx0.out) rfl; have z1 := cell_box 1 (bx0.out) rfl; have z2 := cell_box 2 (bx0.out) rfl; have z3 := cell_box 3 (bx0.out) rfl; have z4 := cell_box 4 (bx0.out) rfl; have z5 := cell_box 5 (bx0.out) rfl; have z6 := cell_box 6 (bx0.out) rfl; go_simp) ?_
    refine sw_call (by rfl) (by first | rfl | (go_simp; done)) (isBusy_any L.mem L.own (.slice sa L.sh.length sc) L.bu L.wt L.ac (.slice qa L.q.length qc) VL1) ?_
    rintro e V6 ⟨rfl, hbl⟩
    have m6 : Mv (nob) VL1 V6 := Mv.of_below hbl
    refine ⟨_, rfl, ?_⟩
    refine pt ?_
    replace BK := hide (fun p hp => m6.box (BK.out p hp) (fun h => h))
    replace RS := hide (RS.out.mv m6 (fun _ _ h => h))
    replace RQ := hide (RQ.out.mv m6 (fun _ _ h => h))
    replace RT := hide (RT.out.mv m6 (fun _ _ h => h))
    replace GL := hide (GL.out.mv m6 (fun _ _ h => h))
    clear hbl
    rw [hbv.out]
    refine sg (.bool false) ?_
    refine sv (.bool false) ?_
    with_reducible refine sp ?_
    with_reducible refine sp ?_
    with_reducible refine sp ?_
    with_reducible refine sp ?_
    with_reducible refine sp ?_
    with_reducible refine sp ?_
    with_reducible refine sp ?_
    refine sg (.bool false) ?_
    refine nt (h2 _ _ (cf (wp_exit (then_exit (then_exit (inb_here rfl ?_)))))); clear h2 K2; clear h1 K1
    replace HB := Xhn HB m6; replace bx0 := Xbn bx0 m6
    exact bodyPost_end (v := .tuple #[]) (by simp [results, Tryz.results102, go_sem]) rfl ⟨⟨_, rfl⟩, .inl ⟨rfl, ⟨_, _, _, _, _, _, ⟨bx0.out, RS.out, RQ.out, RT.out, AP, hlo, GL.out, hb4⟩, FR, HB.out⟩, BK.out⟩⟩

end Go.Proofs.YtlalldlbgnlbjaaGreatDoor
