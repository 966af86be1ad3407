/- HmM -/
import Derived.Test.YtlalldlbgnlbjaaGreatDoorYomeGot32
/- messages compared; a line copied, marked, found again (written by mkHmM.py) -/
namespace Go.Proofs.YtlalldlbgnlbjaaGreatDoor
open Go.RowKit
set_option linter.unusedVariables false
set_option linter.unusedSimpArgs false

theorem eqMsg_same (a b c d e f : Int) (w : World) : Calls Tryz.prog 36 #[m6 a b c d e f, m6 a b c d e f] w fun e w' => e = .returned (.bool true) ∧ Below w.heap.size w w' := by
  go_enter Tryz.func36, Tryz.ntmps36
  go_wp2
  go_ret
  exact ⟨rfl, ((Below.refl _ _).alloc (Nat.le_refl _) _).alloc (by simp) _⟩
theorem keepR6 {w W W' : World} {p0 p1 p2 p3 p4 p5 p6 p7 p8 p9 p10 p11 : Addr} {x0 x1 x2 x3 x4 x5 x6 x7 x8 x9 x10 x11 : Value} (h : Below w.heap.size w W ∧ W.cell? p0 = some x0 ∧ W.cell? p1 = some x1 ∧ W.cell? p2 = some x2 ∧ W.cell? p3 = some x3 ∧ W.cell? p4 = some x4 ∧ W.cell? p5 = some x5 ∧ W.cell? p6 = some x6 ∧ W.cell? p7 = some x7 ∧ W.cell? p8 = some x8 ∧ W.cell? p9 = some x9 ∧ W.cell? p10 = some x10 ∧ W.cell? p11 = some x11) (hb : Below W.heap.size W W') : Below w.heap.size w W' ∧ W'.cell? p0 = some x0 ∧ W'.cell? p1 = some x1 ∧ W'.cell? p2 = some x2 ∧ W'.cell? p3 = some x3 ∧ W'.cell? p4 = some x4 ∧ W'.cell? p5 = some x5 ∧ W'.cell? p6 = some x6 ∧ W'.cell? p7 = some x7 ∧ W'.cell? p8 = some x8 ∧ W'.cell? p9 = some x9 ∧ W'.cell? p10 = some x10 ∧ W'.cell? p11 = some x11 := ⟨h.1.trans (hb.mono h.1.size), keepc hb h.2.1, keepc hb h.2.2.1, keepc hb h.2.2.2.1, keepc hb h.2.2.2.2.1, keepc hb h.2.2.2.2.2.1, keepc hb h.2.2.2.2.2.2.1, keepc hb h.2.2.2.2.2.2.2.1, keepc hb h.2.2.2.2.2.2.2.2.1, keepc hb h.2.2.2.2.2.2.2.2.2.1, keepc hb h.2.2.2.2.2.2.2.2.2.2.1, keepc hb h.2.2.2.2.2.2.2.2.2.2.2.1, keepc hb h.2.2.2.2.2.2.2.2.2.2.2.2⟩
set_option maxHeartbeats 4000000 in
theorem eqMsgS_same (a b : Value) (n : Nat) (f : Nat → Nat → Int) (w : World) (ha : Sr w a 6 n f) (hb : Sr w b 6 n f) (hl : n ≤ 1048576) :
    Calls Tryz.prog 11 #[a, b] w fun e w' => e = .returned (.bool true) ∧ Below w.heap.size w w' := by
  obtain ⟨ad, cap, rfl, ha⟩ := ha
  obtain ⟨bd, cbp, rfl, hb⟩ := hb
  go_enter Tryz.func11, Tryz.ntmps11
  go_wp2
  go_loopw [5] (fun i wr => ∃ k : Nat, k ≤ n ∧ i = .int .i64 k ∧ Below w.heap.size w wr) (fun i _ => n - (intOf i).toNat)
  case atStart => exact ⟨0, Nat.zero_le _, rfl, Below.refl _ _⟩
  case round =>
    obtain ⟨k, hk, rfl, hbk⟩ := hrel
    by_cases hlt : k < n
    · obtain ⟨p, off, rfl, hc⟩ := ha (by omega)
      obtain ⟨q, off', rfl, hd⟩ := hb (by omega)
      have c0 : wr.cell? ⟨p, off + k * 6, none⟩ = some (.int .i64 (f k 0)) := Below.keep hbk _ _ (hc k hlt 0 (by decide))
      have c1 : wr.cell? ⟨p, off + k * 6 + 1, none⟩ = some (.int .i64 (f k 1)) := Below.keep hbk _ _ (hc k hlt 1 (by decide))
      have c2 : wr.cell? ⟨p, off + k * 6 + 2, none⟩ = some (.int .i64 (f k 2)) := Below.keep hbk _ _ (hc k hlt 2 (by decide))
      have c3 : wr.cell? ⟨p, off + k * 6 + 3, none⟩ = some (.int .i64 (f k 3)) := Below.keep hbk _ _ (hc k hlt 3 (by decide))
      have c4 : wr.cell? ⟨p, off + k * 6 + 4, none⟩ = some (.int .i64 (f k 4)) := Below.keep hbk _ _ (hc k hlt 4 (by decide))
      have c5 : wr.cell? ⟨p, off + k * 6 + 5, none⟩ = some (.int .i64 (f k 5)) := Below.keep hbk _ _ (hc k hlt 5 (by decide))
      have d0 : wr.cell? ⟨q, off' + k * 6, none⟩ = some (.int .i64 (f k 0)) := Below.keep hbk _ _ (hd k hlt 0 (by decide))
      have d1 : wr.cell? ⟨q, off' + k * 6 + 1, none⟩ = some (.int .i64 (f k 1)) := Below.keep hbk _ _ (hd k hlt 1 (by decide))
      have d2 : wr.cell? ⟨q, off' + k * 6 + 2, none⟩ = some (.int .i64 (f k 2)) := Below.keep hbk _ _ (hd k hlt 2 (by decide))
      have d3 : wr.cell? ⟨q, off' + k * 6 + 3, none⟩ = some (.int .i64 (f k 3)) := Below.keep hbk _ _ (hd k hlt 3 (by decide))
      have d4 : wr.cell? ⟨q, off' + k * 6 + 4, none⟩ = some (.int .i64 (f k 4)) := Below.keep hbk _ _ (hd k hlt 4 (by decide))
      have d5 : wr.cell? ⟨q, off' + k * 6 + 5, none⟩ = some (.int .i64 (f k 5)) := Below.keep hbk _ _ (hd k hlt 5 (by decide))
      clear hc hd ha hb
      have hk0 : (0 : Int) ≤ (k : Int) := by omega
      have hk1 : (k : Int) < (n : Int) := by omega
      go_wp2
      go_region_held3 (fun w' => Below w.heap.size w w' ∧ w'.cell? ⟨p, off + k * 6, none⟩ = some (.int .i64 (f k 0)) ∧ w'.cell? ⟨p, off + k * 6 + 1, none⟩ = some (.int .i64 (f k 1)) ∧ w'.cell? ⟨p, off + k * 6 + 2, none⟩ = some (.int .i64 (f k 2)) ∧ w'.cell? ⟨p, off + k * 6 + 3, none⟩ = some (.int .i64 (f k 3)) ∧ w'.cell? ⟨p, off + k * 6 + 4, none⟩ = some (.int .i64 (f k 4)) ∧ w'.cell? ⟨p, off + k * 6 + 5, none⟩ = some (.int .i64 (f k 5)) ∧ w'.cell? ⟨q, off' + k * 6, none⟩ = some (.int .i64 (f k 0)) ∧ w'.cell? ⟨q, off' + k * 6 + 1, none⟩ = some (.int .i64 (f k 1)) ∧ w'.cell? ⟨q, off' + k * 6 + 2, none⟩ = some (.int .i64 (f k 2)) ∧ w'.cell? ⟨q, off' + k * 6 + 3, none⟩ = some (.int .i64 (f k 3)) ∧ w'.cell? ⟨q, off' + k * 6 + 4, none⟩ = some (.int .i64 (f k 4)) ∧ w'.cell? ⟨q, off' + k * 6 + 5, none⟩ = some (.int .i64 (f k 5))) (first | exact ⟨hbk.drew, c0, c1, c2, c3, c4, c5, d0, d1, d2, d3, d4, d5⟩ | exact keepR6 (by assumption) hbc) (first | (go_at_call 36; refine (eqMsg_same _ _ _ _ _ _ _).mono ?_; rintro e w2 ⟨rfl, hbc⟩))
      all_goals go_wp2
      all_goals rename_i hS
      all_goals go_roundw
      case rel => exact ⟨k + 1, by omega, by go_num, hS.1⟩
      case measure => simp [intOf]; omega
    · go_wp2
      go_ret
      exact ⟨rfl, hbk⟩

theorem orow_rg {w : World} {base : Nat} {T : TypeId} {m n : Nat} {v : Value} {f : Nat → Nat → Int} (hm : 0 < m) (h : Orow w base T m v n n f) : Rg w base v m n (gF f) :=
  own_rg h (fun x hx => by
    rw [rowC_get hx, if_pos (Nat.div_lt_of_lt_mul (by rw [Nat.mul_comm]; exact hx))])
set_option maxRecDepth 20000 in
set_option maxHeartbeats 2000000 in
theorem toLine_rg (L : Hm.Ln) (sa : Option Addr) (sc : Nat) (qa : Option Addr) (qc : Nat) (w : World) (hs : Sl w (.slice sa L.sh.length sc) L.sh) (hq : Sr w (.slice qa L.q.length qc) 2 L.q.length (f2 L.q)) (hsl : L.sh.length ≤ 1048576) (hql : L.q.length ≤ 1048576) :
    Calls Tryz.prog 7 #[.agg #[.int .i64 L.mem, .int .i64 L.own, .slice sa L.sh.length sc, .int .i64 L.bu, .int .i64 L.wt, .int .i64 L.ac, .slice qa L.q.length qc]] w (fun e w' => ∃ g1 g2, e = .returned (.agg #[.int .i64 L.mem, .int .i64 L.own, .slice (some ⟨g1, 0, none⟩) L.sh.length L.sh.length, .int .i64 L.bu, .int .i64 L.wt, .int .i64 L.ac, .slice (some ⟨g2, 0, none⟩) L.q.length L.q.length]) ∧ Rg w' w.heap.size (.slice (some ⟨g1, 0, none⟩) L.sh.length L.sh.length) 1 L.sh.length (gF (f1 L.sh)) ∧ Rg w' w.heap.size (.slice (some ⟨g2, 0, none⟩) L.q.length L.q.length) 2 L.q.length (gF (f2 L.q)) ∧ (∀ g, rb (.slice (some ⟨g1, 0, none⟩) L.sh.length L.sh.length) = some g → rb (.slice (some ⟨g2, 0, none⟩) L.q.length L.q.length) ≠ some g) ∧ Below w.heap.size w w') := by
  have hs0 := hide hs; have hq0 := hide hq; clear hs hq
  have HB : Hid (Mv nob w w) := hide (Mv.refl _ _)
  go_enter Tryz.func7, Tryz.ntmps7
  refine sk fun K1 h1 => rl ?_
  refine sbp #[.int .i64 L.mem, .int .i64 L.own, .slice sa L.sh.length sc, .int .i64 L.bu, .int .i64 L.wt, .int .i64 L.ac, .slice qa L.q.length qc] 25 fun V1 b0 hb0 m1 bx0 => ?_
  have o_0 : w.heap.size ≤ b0 := by omega
  clear hb0
  refine sbp #[.int .i64 0, .int .i64 0, .slice none 0 0, .int .i64 0, .int .i64 0, .int .i64 0, .slice none 0 0] 31 fun V2 b1 hb1 m2 bx1 => ?_
  have o0_1 := Xlo bx0 hb1
  clear hb1
  refine nt (h1 _ _ (sk fun K2 h2 => rl ?_)); clear h1 K1
  refine sbp #[.int .i64 0, .int .i64 0, .slice none 0 0, .int .i64 0, .int .i64 0, .int .i64 0, .slice none 0 0] 31 fun V3 b2 hb2 m3 bx2 => ?_
  have o1_2 := Xlo bx1 hb2
  clear hb2
  refine nt (h2 _ _ (sk fun K3 h3 => rl ?_)); clear h2 K2
  refine sv (.pointer (some ⟨b0, 0, none⟩)) ?_
  replace bx0 := Xbn (Xbn bx0 m2) m3
  refine sl 0 bx0 ?_
  refine sv (.pointer (some ⟨b2, 0, none⟩)) ?_
  refine ss 0 (.int .i64 L.mem) bx2 fun V4 m4 bx2 => ?_
  refine nt (h3 _ _ (sk fun K4 h4 => rl ?_)); clear h3 K3
  refine sv (.pointer (some ⟨b0, 1, none⟩)) ?_
  replace bx0 := Xbb bx0 m4
  refine sl 1 bx0 ?_
  refine sv (.pointer (some ⟨b2, 1, none⟩)) ?_
  refine ss 1 (.int .i64 L.own) bx2 fun V5 m5 bx2 => ?_
  refine nt (h4 _ _ (sk fun K5 h5 => rl ?_)); clear h4 K4
  refine sv (.pointer (some ⟨b0, 2, none⟩)) ?_
  replace bx0 := Xbb bx0 m5
  refine sl 2 bx0 ?_
  replace HB := Xhb (Xhb (Xhn (Xhn (Xhn HB m1) m2) m3) m4) m5
  have szV := HB.out.size
  have b2z := lt_of_block bx2.out
  refine sw_call (by rfl) (by first | rfl | (go_simp; done)) (copy_any _ L.sh V5 ((hs0.out).below HB.out.below) hsl) ?_
  rintro e V6 ⟨u0, rfl, how, hbl, g1, rfl⟩
  have m6 : Mv (nob) V5 V6 := Mv.of_below hbl
  refine ⟨_, rfl, ?_⟩
  refine pt ?_
  have RSl := fun g e => ((ow_rg how).lt g e)
  have RSb : ∀ g, rb (.slice (some ⟨g1, 0, none⟩) L.sh.length L.sh.length) = some g → b0 < g ∧ b1 < g ∧ b2 < g := fun g e => by have := (RSl g e).1; omega
  have RS := hide ((ow_rg how).base szV)
  clear how hbl
  refine sv (.pointer (some ⟨b2, 2, none⟩)) ?_
  replace bx2 := Xbn bx2 m6
  refine ss 2 (.slice (some ⟨g1, 0, none⟩) L.sh.length L.sh.length) bx2 fun V7 m7 bx2 => ?_
  replace RS := hide (RS.out.mv m7 (fun g e h => by have h : g = b2 := h; have := RSb g e; omega))
  refine nt (h5 _ _ (sk fun K6 h6 => rl ?_)); clear h5 K5
  refine sv (.pointer (some ⟨b0, 3, none⟩)) ?_
  replace bx0 := Xbb (Xbn bx0 m6) m7
  refine sl 3 bx0 ?_
  refine sv (.pointer (some ⟨b2, 3, none⟩)) ?_
  refine ss 3 (.int .i64 L.bu) bx2 fun V8 m8 bx2 => ?_
  replace RS := hide (RS.out.mv m8 (fun g e h => by have h : g = b2 := h; have := RSb g e; omega))
  refine nt (h6 _ _ (sk fun K7 h7 => rl ?_)); clear h6 K6
  refine sv (.pointer (some ⟨b0, 4, none⟩)) ?_
  replace bx0 := Xbb bx0 m8
  refine sl 4 bx0 ?_
  refine sv (.pointer (some ⟨b2, 4, none⟩)) ?_
  refine ss 4 (.int .i64 L.wt) bx2 fun V9 m9 bx2 => ?_
  replace RS := hide (RS.out.mv m9 (fun g e h => by have h : g = b2 := h; have := RSb g e; omega))
  refine nt (h7 _ _ (sk fun K8 h8 => rl ?_)); clear h7 K7
  refine sv (.pointer (some ⟨b0, 5, none⟩)) ?_
  replace bx0 := Xbb bx0 m9
  refine sl 5 bx0 ?_
  refine sv (.pointer (some ⟨b2, 5, none⟩)) ?_
  refine ss 5 (.int .i64 L.ac) bx2 fun V10 m10 bx2 => ?_
  replace RS := hide (RS.out.mv m10 (fun g e h => by have h : g = b2 := h; have := RSb g e; omega))
  refine nt (h8 _ _ (sk fun K9 h9 => rl ?_)); clear h8 K8
  replace bx1 := Xbb (Xbb (Xbb (Xbb (Xbn (Xbb (Xbb (Xbn bx1 m3) m4) m5) m6) m7) m8) m9) m10; replace HB := Xhb (Xhb (Xhb (Xhb (Xhn HB m6) m7) m8) m9) m10; replace bx0 := Xbb bx0 m10
  refine sv (.pointer (some ⟨b0, 6, none⟩)) ?_
  refine sl 6 bx0 ?_
  have szW := HB.out.size
  have b2y := lt_of_block bx2.out
  have rsz := fun g e => (RS.out.lt g e).2
  refine sw_call (by rfl) (by first | rfl | (go_simp; done)) (toReqS_any _ L.q.length (f2 L.q) V10 (hq0.out.below HB.out.below) hql) ?_
  rintro e V11 ⟨g2, rfl, how, hbl⟩
  have m11 : Mv (nob) V10 V11 := Mv.of_below hbl
  refine ⟨_, rfl, ?_⟩
  refine pt ?_
  replace RS := hide (RS.out.mv m11 (fun _ _ h => h))
  have RQl := fun g e => ((orow_rg (by decide) how).lt g e)
  have RQb : ∀ g, rb (.slice (some ⟨g2, 0, none⟩) L.q.length L.q.length) = some g → b0 < g ∧ b1 < g ∧ b2 < g := fun g e => by have := (RQl g e).1; omega
  have RQ := hide ((orow_rg (by decide) how).base szW)
  clear how hbl
  refine sv (.pointer (some ⟨b2, 6, none⟩)) ?_
  replace bx2 := Xbn bx2 m11
  refine ss 6 (.slice (some ⟨g2, 0, none⟩) L.q.length L.q.length) bx2 fun V12 m12 bx2 => ?_
  replace RS := hide (RS.out.mv m12 (fun g e h => by have h : g = b2 := h; have := RSb g e; omega))
  replace RQ := hide (RQ.out.mv m12 (fun g e h => by have h : g = b2 := h; have := RQb g e; omega))
  refine nt (h9 _ _ (sk fun K10 h10 => rl ?_)); clear h9 K9
  refine sg (.agg #[.int .i64 L.mem, .int .i64 L.own, .slice (some ⟨g1, 0, none⟩) L.sh.length L.sh.length, .int .i64 L.bu, .int .i64 L.wt, .int .i64 L.ac, .slice (some ⟨g2, 0, none⟩) L.q.length L.q.length]) (h := by have z0 := cell_box 0 (bx2.out) rfl; have z1 := cell_box 1 (bx2.out) rfl; have z2 := cell_box 2 (bx2.out) rfl; have z3 := cell_box 3 (bx2.out) rfl; have z4 := cell_box 4 (bx2.out) rfl; have z5 := cell_box 5 (bx2.out) rfl; have z6 := cell_box 6 (bx2.out) rfl; go_simp) ?_
  replace bx1 := Xbb (Xbn bx1 m11) m12
  refine ss7 (.int .i64 L.mem) (.int .i64 L.own) (.slice (some ⟨g1, 0, none⟩) L.sh.length L.sh.length) (.int .i64 L.bu) (.int .i64 L.wt) (.int .i64 L.ac) (.slice (some ⟨g2, 0, none⟩) L.q.length L.q.length) bx1 fun V13 m13 bx1 => ?_
  replace RS := hide (RS.out.mv m13 (fun g e h => by have h : g = b1 := h; have := RSb g e; omega))
  replace RQ := hide (RQ.out.mv m13 (fun g e h => by have h : g = b1 := h; have := RQb g e; omega))
  refine nt (h10 _ _ (wp_ret ?_)); clear h10 K10
  replace HB := Xhb (Xhb (Xhn HB m11) m12) m13; replace bx0 := Xbb (Xbb (Xbn bx0 m11) m12) m13; replace bx2 := Xbb bx2 m13
  have q1_0 := cell_box 0 bx1.out rfl
  have q1_1 := cell_box 1 bx1.out rfl
  have q1_2 := cell_box 2 bx1.out rfl
  have q1_3 := cell_box 3 bx1.out rfl
  have q1_4 := cell_box 4 bx1.out rfl
  have q1_5 := cell_box 5 bx1.out rfl
  have q1_6 := cell_box 6 bx1.out rfl
  exact bodyPost_ret (v := .agg #[.int .i64 L.mem, .int .i64 L.own, .slice (some ⟨g1, 0, none⟩) L.sh.length L.sh.length, .int .i64 L.bu, .int .i64 L.wt, .int .i64 L.ac, .slice (some ⟨g2, 0, none⟩) L.q.length L.q.length]) (by simp [results, Tryz.results7, go_sem, q1_0, q1_1, q1_2, q1_3, q1_4, q1_5, q1_6]) rfl ⟨_, _, rfl, RS.out, RQ.out, fun g e e2 => by have := rsz g e; have := (RQl g e2).1; omega, HB.out.below⟩

set_option maxRecDepth 20000 in
set_option maxHeartbeats 2000000 in
theorem markLine_rg (L : Hm.Ln) (sa : Option Addr) (sc : Nat) (qa : Option Addr) (qc : Nat) (k0 : Int) (base : Nat) (w : World) (hs : Rg w base (.slice sa L.sh.length sc) 1 L.sh.length (gF (f1 L.sh))) (hq : Rg w base (.slice qa L.q.length qc) 2 L.q.length (gF (f2 L.q))) (hap : ∀ g, rb (.slice sa L.sh.length sc) = some g → rb (.slice qa L.q.length qc) ≠ some g) (hsl : L.sh.length ≤ 1048576) (hql : L.q.length ≤ 1048576) (h0 : 0 < k0) (h1 : k0 ≤ 1000000) :
    Calls Tryz.prog 12 #[.agg #[.int .i64 L.mem, .int .i64 L.own, .slice sa L.sh.length sc, .int .i64 L.bu, .int .i64 L.wt, .int .i64 L.ac, .slice qa L.q.length qc], .int .i64 k0] w (fun e w' => e = .returned (.int .i64 (k0 + (L.sh.length : Int) + 2 * (L.q.length : Int))) ∧ Mv (fun g => rb (.slice sa L.sh.length sc) = some g ∨ rb (.slice qa L.q.length qc) = some g) w w' ∧ Rg w' base (.slice sa L.sh.length sc) 1 L.sh.length (gF (mkA k0 1)) ∧ Rg w' base (.slice qa L.q.length qc) 2 L.q.length (gF (mkA (k0 + (L.sh.length : Int)) 2))) := by
  have HB : Hid (Mv (fun g => rb (.slice sa L.sh.length sc) = some g ∨ rb (.slice qa L.q.length qc) = some g) w w) := hide (Mv.refl _ _)
  have rsl := fun g e => (hs.lt g e).2; have rql := fun g e => (hq.lt g e).2; have RS := hide hs; have RQ := hide hq; clear hs hq
  go_enter Tryz.func12, Tryz.ntmps12
  refine sk fun K1 h1 => rl ?_
  refine sbp #[.int .i64 L.mem, .int .i64 L.own, .slice sa L.sh.length sc, .int .i64 L.bu, .int .i64 L.wt, .int .i64 L.ac, .slice qa L.q.length qc] 31 fun V1 b0 hb0 m1 bx0 => ?_
  have o_0 : w.heap.size ≤ b0 := by omega
  replace RS := hide (RS.out.mv m1 (fun _ _ h => h))
  replace RQ := hide (RQ.out.mv m1 (fun _ _ h => h))
  clear hb0
  refine sv (.int .i64 0) ?_
  refine nt (h1 _ _ (sk fun K2 h2 => rl ?_)); clear h1 K1
  have e0 : w.heap.size ≤ b0 := o_0
  refine sv (.pointer (some ⟨b0, 2, none⟩)) ?_
  refine sl 2 bx0 ?_
  refine sv (.int .i64 k0) ?_
  refine sw_call (by rfl) (by first | rfl | (go_simp; done)) (markI_rg _ _ _ _ k0 base V1 RS.out hsl h0 (by omega)) ?_
  rintro e V2 ⟨rfl, mm, rr⟩
  have m2 : Mv (fun g => rb (.slice sa L.sh.length sc) = some g) V1 V2 := mm
  refine ⟨_, rfl, ?_⟩
  refine pt ?_
  replace HB := Xhn HB m1
  replace HB := hide (HB.out.step m2 (fun g hg e => .inl e))
  replace RQ := hide (RQ.out.mv m2 (fun g e h => hap g h e))
  replace bx0 := hide (m2.box bx0.out (fun h => by have := rsl _ h; omega))
  replace RS := hide rr
  clear mm rr
  refine sv (.int .i64 (k0 + (L.sh.length : Int))) ?_
  refine nt (h2 _ _ (sk fun K3 h3 => rl ?_)); clear h2 K2
  refine sv (.pointer (some ⟨b0, 6, none⟩)) ?_
  refine sl 6 bx0 ?_
  refine sv (.int .i64 (k0 + (L.sh.length : Int))) ?_
  refine sw_call (by rfl) (by first | rfl | (go_simp; done)) (markR_rg _ _ _ _ (k0 + (L.sh.length : Int)) base V2 RQ.out hql (by omega) (by omega)) ?_
  rintro e V3 ⟨rfl, mm, rr⟩
  have m3 : Mv (fun g => rb (.slice qa L.q.length qc) = some g) V2 V3 := mm
  refine ⟨_, rfl, ?_⟩
  refine pt ?_
  replace HB := hide (HB.out.step m3 (fun g hg e => .inr e))
  replace RS := hide (RS.out.mv m3 (fun g e h => hap g e h))
  replace bx0 := hide (m3.box bx0.out (fun h => by have := rql _ h; omega))
  replace RQ := hide rr
  clear mm rr
  refine sv (.int .i64 (k0 + (L.sh.length : Int) + 2 * (L.q.length : Int))) ?_
  refine nt (h3 _ _ (sk fun K4 h4 => rl ?_)); clear h3 K3
  refine sv (.int .i64 (k0 + (L.sh.length : Int) + 2 * (L.q.length : Int))) ?_
  refine sv (.int .i64 (k0 + (L.sh.length : Int) + 2 * (L.q.length : Int))) ?_
  refine nt (h4 _ _ (wp_ret ?_)); clear h4 K4
  exact bodyPost_ret (v := .int .i64 (k0 + (L.sh.length : Int) + 2 * (L.q.length : Int))) (by simp [results, Tryz.results12, go_sem]) rfl ⟨rfl, HB.out, RS.out, RQ.out⟩

set_option maxRecDepth 20000 in
set_option maxHeartbeats 2000000 in
theorem heldLine_any (L : Hm.Ln) (sa : Option Addr) (sc : Nat) (qa : Option Addr) (qc : Nat) (k0 : Int) (w : World) (hs : Sg w (.slice sa L.sh.length sc) 1 L.sh.length (gF (mkA k0 1))) (hq : Sg w (.slice qa L.q.length qc) 2 L.q.length (gF (mkA (k0 + (L.sh.length : Int)) 2))) (hsl : L.sh.length ≤ 1048576) (hql : L.q.length ≤ 1048576) (h0 : 0 < k0) (h1 : k0 ≤ 1000000) :
    Calls Tryz.prog 14 #[.agg #[.int .i64 L.mem, .int .i64 L.own, .slice sa L.sh.length sc, .int .i64 L.bu, .int .i64 L.wt, .int .i64 L.ac, .slice qa L.q.length qc], .int .i64 k0] w (fun e w' => e = .returned (.int .i64 (k0 + (L.sh.length : Int) + 2 * (L.q.length : Int))) ∧ Below w.heap.size w w') := by
  have hs0 := hide hs; have hq0 := hide hq; clear hs hq
  have HB : Hid (Mv nob w w) := hide (Mv.refl _ _)
  go_enter Tryz.func14, Tryz.ntmps14
  refine sk fun K1 h1 => rl ?_
  refine sbp #[.int .i64 L.mem, .int .i64 L.own, .slice sa L.sh.length sc, .int .i64 L.bu, .int .i64 L.wt, .int .i64 L.ac, .slice qa L.q.length qc] 31 fun V1 b0 hb0 m1 bx0 => ?_
  have o_0 : w.heap.size ≤ b0 := by omega
  clear hb0
  refine sv (.int .i64 0) ?_
  refine nt (h1 _ _ (sk fun K2 h2 => rl ?_)); clear h1 K1
  refine sv (.pointer (some ⟨b0, 2, none⟩)) ?_
  refine sl 2 bx0 ?_
  refine sv (.int .i64 k0) ?_
  replace HB := Xhn HB m1
  refine sw_call (by rfl) (by first | rfl | (go_simp; done)) (heldI_any _ _ k0 V1 hsl h0 (by omega) (hs0.out.below HB.out.below)) ?_
  rintro e V2 ⟨rfl, hbl⟩
  have m2 : Mv (nob) V1 V2 := Mv.of_below hbl
  refine ⟨_, rfl, ?_⟩
  refine pt ?_
  clear hbl
  refine sv (.int .i64 (k0 + (L.sh.length : Int))) ?_
  refine nt (h2 _ _ (sk fun K3 h3 => sk fun K4 h4 => rl ?_)); clear h2 K2
  refine sv (.int .i64 (k0 + (L.sh.length : Int))) ?_
  refine sg (.bool false) (h := by have hd : decide (k0 + (L.sh.length : Int) < 0) = false := decide_eq_false (by omega); go_simp) ?_
  refine nt (h4 _ _ (cf (wp_skip (then_normal (h3 _ _ (sk fun K5 h5 => rl ?_)))))); clear h4 K4; clear h3 K3
  refine sv (.pointer (some ⟨b0, 6, none⟩)) ?_
  replace bx0 := Xbn bx0 m2
  refine sl 6 bx0 ?_
  refine sv (.int .i64 (k0 + (L.sh.length : Int))) ?_
  replace HB := Xhn HB m2
  refine sw_call (by rfl) (by first | rfl | (go_simp; done)) (heldR_any _ _ (k0 + (L.sh.length : Int)) V2 hql (by omega) (by omega) (hq0.out.below HB.out.below)) ?_
  rintro e V3 ⟨rfl, hbl⟩
  have m3 : Mv (nob) V2 V3 := Mv.of_below hbl
  refine ⟨_, rfl, ?_⟩
  refine pt ?_
  clear hbl
  refine sv (.int .i64 (k0 + (L.sh.length : Int) + 2 * (L.q.length : Int))) ?_
  refine nt (h5 _ _ (sk fun K6 h6 => sk fun K7 h7 => rl ?_)); clear h5 K5
  refine sv (.int .i64 (k0 + (L.sh.length : Int) + 2 * (L.q.length : Int))) ?_
  refine sg (.bool false) (h := by have hd : decide (k0 + (L.sh.length : Int) + 2 * (L.q.length : Int) < 0) = false := decide_eq_false (by omega); go_simp) ?_
  refine nt (h7 _ _ (cf (wp_skip (then_normal (h6 _ _ (sk fun K8 h8 => rl ?_)))))); clear h7 K7; clear h6 K6
  refine sv (.int .i64 (k0 + (L.sh.length : Int) + 2 * (L.q.length : Int))) ?_
  refine sv (.int .i64 (k0 + (L.sh.length : Int) + 2 * (L.q.length : Int))) ?_
  refine nt (h8 _ _ (wp_ret ?_)); clear h8 K8
  replace HB := Xhn HB m3; replace bx0 := Xbn bx0 m3
  exact bodyPost_ret (v := .int .i64 (k0 + (L.sh.length : Int) + 2 * (L.q.length : Int))) (by simp [results, Tryz.results14, go_sem]) rfl ⟨rfl, HB.out.below⟩

end Go.Proofs.YtlalldlbgnlbjaaGreatDoor
