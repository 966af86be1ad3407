/- HnG -/
import Derived.Test.YtlalldlbgnlbjaaGreatDoorYomeGot50
import Derived.Test.YtlalldlbgnlbjaaGreatDoorYomeGot30
/- the model's HomeGot (written by mkHnG.py) -/
namespace Go.Proofs.YtlalldlbgnlbjaaGreatDoor
open Go.RowKit
set_option linter.unusedVariables false
set_option linter.unusedSimpArgs false

theorem core_any2 (k : Int) (w : World) (h1 : 1 ≤ k) (h9 : k ≤ 9) : Calls Tryz.prog 26 #[.int .i64 k] w fun e w' => e = .returned (.bool (homeB k)) ∧ Below w.heap.size w w' :=
  (l2Core_any k w h1 h9).mono fun e w' h => ⟨h.1, by rw [h.2]; exact Below.refl _ _⟩
theorem okB_kind {k c to l t d : Int} (h : okB k c to l t d = true) : 1 ≤ k ∧ k ≤ 9 := by
  simp only [okB, inB, Bool.and_eq_true, decide_eq_true_eq] at h
  exact h.1.1.1.1

set_option maxHeartbeats 2000000 in
theorem l4Got_any (k c to l t d : Int) (base : Nat) (L : Hm.Ln) (sa : Option Addr) (sc : Nat) (qa : Option Addr) (qc : Nat) (w : World) (hs : Rg w base (.slice sa L.sh.length sc) 1 L.sh.length (gF (f1 L.sh))) (hq : Rg w base (.slice qa L.q.length qc) 2 L.q.length (gF (f2 L.q))) (hap : ∀ g, rb (.slice sa L.sh.length sc) = some g → rb (.slice qa L.q.length qc) ≠ some g) (hbw : base ≤ w.heap.size) (hlk : lok L = true) (hk : k = 1 ∨ k = 2 ∨ k = 3 ∨ k = 6 ∨ k = 7) (hc1 : 1 ≤ c) (hc5 : c ≤ 5) :
    Calls Tryz.prog 27 #[.agg #[.int .i64 L.mem, .int .i64 L.own, .slice sa L.sh.length sc, .int .i64 L.bu, .int .i64 L.wt, .int .i64 L.ac, .slice qa L.q.length qc], .agg #[.int .i64 k, .int .i64 c, .int .i64 to, .int .i64 l, .int .i64 t, .int .i64 d]] w (LnG w base (.slice sa L.sh.length sc) (.slice qa L.q.length qc) (Hm.gotR L k c l d).2.1 (Hm.gotR L k c l d).2.2 (Hm.gotR L k c l d).1) := by
  have hgd := lok_gd hlk
  have h10 := hgd.n
  rcases hk with rfl | rfl | rfl | rfl | rfl
  · by_cases hbu : L.bu = 0
    · by_cases ho : L.own = c
      · skip
        have e0 : Hm.gotR L 1 c l d = (false, L, []) := by simp [Hm.gotR, hbu, ho]
        rw [e0]
        exact sgot_1_free c to l t d base L sa sc qa qc w hs hq hap hbw hbu L [] false (fun base sa sc qa qc w h1 h2 h3 h4 => l4Begun_o l c 1 base L sa sc qa qc w h1 h2 h3 h4 hgd.sh hc1 hc5 ho)
      · skip
        have e0 : Hm.gotR L 1 c l d = (true, Hm.begL L l c 1, Hm.begM L l c 1) := by simp [Hm.gotR, hbu, ho]
        rw [e0]
        exact sgot_1_free c to l t d base L sa sc qa qc w hs hq hap hbw hbu (Hm.begL L l c 1) (Hm.begM L l c 1) true (fun base sa sc qa qc w h1 h2 h3 h4 => l4Begun_any l c 1 base L sa sc qa qc w h1 h2 h3 h4 hgd.sh hc1 hc5 (by decide) ho)
    · by_cases hf : 10 ≤ L.q.length
      · skip
        have e0 : Hm.gotR L 1 c l d = (false, L, []) := by simp [Hm.gotR, hbu, hf]
        rw [e0]
        exact sgot_1_full c to l t d base L sa sc qa qc w hs hq hap hbw hbu (by omega)
      · cases hw : ((L.q.any fun r => r.1 == c) || (L.bu == c)) with
        | true =>
          have hw2 : L.bu = c ∨ (L.q.any fun r => r.1 == c) = true := by
            rcases Bool.or_eq_true _ _ ▸ hw with h | h
            · exact .inr h
            · exact .inl (by simpa using h)
          have e0 : Hm.gotR L 1 c l d = (false, L, []) := by
            unfold Hm.gotR
            rw [if_pos (by decide), if_neg hbu, if_pos (.inr hw2)]
          rw [e0]
          exact sgot_1_waits c to l t d base L sa sc qa qc w hs hq hap hbw hbu (by omega) hw
        | false =>
          have hw2 : ¬ (L.bu = c) ∧ ¬ (L.q.any fun r => r.1 == c) = true := by
            have h := Bool.or_eq_false_iff.1 hw
            exact ⟨by simpa using h.2, by rw [h.1]; decide⟩
          have e0 : Hm.gotR L 1 c l d = (true, { L with q := L.q ++ [(c, 1)] }, []) := by
            unfold Hm.gotR
            rw [if_pos (by decide), if_neg hbu, if_neg (fun h => h.elim hf (fun h => h.elim hw2.1 hw2.2))]
          rw [e0]
          exact sgot_1_yes c to l t d base L sa sc qa qc w hs hq hap hbw hbu (by omega) hw
  · by_cases hbu : L.bu = 0
    · by_cases ho : L.own = c
      · skip
        have e0 : Hm.gotR L 2 c l d = (false, L, []) := by simp [Hm.gotR, hbu, ho]
        rw [e0]
        exact sgot_2_free c to l t d base L sa sc qa qc w hs hq hap hbw hbu L [] false (fun base sa sc qa qc w h1 h2 h3 h4 => l4Begun_o l c 2 base L sa sc qa qc w h1 h2 h3 h4 hgd.sh hc1 hc5 ho)
      · skip
        have e0 : Hm.gotR L 2 c l d = (true, Hm.begL L l c 2, Hm.begM L l c 2) := by simp [Hm.gotR, hbu, ho]
        rw [e0]
        exact sgot_2_free c to l t d base L sa sc qa qc w hs hq hap hbw hbu (Hm.begL L l c 2) (Hm.begM L l c 2) true (fun base sa sc qa qc w h1 h2 h3 h4 => l4Begun_any l c 2 base L sa sc qa qc w h1 h2 h3 h4 hgd.sh hc1 hc5 (by decide) ho)
    · by_cases hf : 10 ≤ L.q.length
      · skip
        have e0 : Hm.gotR L 2 c l d = (false, L, []) := by simp [Hm.gotR, hbu, hf]
        rw [e0]
        exact sgot_2_full c to l t d base L sa sc qa qc w hs hq hap hbw hbu (by omega)
      · cases hw : ((L.q.any fun r => r.1 == c) || (L.bu == c)) with
        | true =>
          have hw2 : L.bu = c ∨ (L.q.any fun r => r.1 == c) = true := by
            rcases Bool.or_eq_true _ _ ▸ hw with h | h
            · exact .inr h
            · exact .inl (by simpa using h)
          have e0 : Hm.gotR L 2 c l d = (false, L, []) := by
            unfold Hm.gotR
            rw [if_pos (by decide), if_neg hbu, if_pos (.inr hw2)]
          rw [e0]
          exact sgot_2_waits c to l t d base L sa sc qa qc w hs hq hap hbw hbu (by omega) hw
        | false =>
          have hw2 : ¬ (L.bu = c) ∧ ¬ (L.q.any fun r => r.1 == c) = true := by
            have h := Bool.or_eq_false_iff.1 hw
            exact ⟨by simpa using h.2, by rw [h.1]; decide⟩
          have e0 : Hm.gotR L 2 c l d = (true, { L with q := L.q ++ [(c, 2)] }, []) := by
            unfold Hm.gotR
            rw [if_pos (by decide), if_neg hbu, if_neg (fun h => h.elim hf (fun h => h.elim hw2.1 hw2.2))]
          rw [e0]
          exact sgot_2_yes c to l t d base L sa sc qa qc w hs hq hap hbw hbu (by omega) hw
  · by_cases ho : L.own = c
    · by_cases hbu : L.bu = 0
      · skip
        have e0 : Hm.gotR L 3 c l d = (true, { L with mem := d, own := 0 }, [Hm.mDone c l]) := by simp [Hm.gotR, hbu, ho]
        rw [e0]
        exact sgot_3_yes c to l t d base L sa sc qa qc w hs hq hap hbw ho hbu
      · skip
        have e0 : Hm.gotR L 3 c l d = (true, L, [Hm.mDone c l]) := by simp [Hm.gotR, hbu, ho]
        rw [e0]
        exact sgot_3_busy c to l t d base L sa sc qa qc w hs hq hap hbw ho hbu
    · skip
      have e0 : Hm.gotR L 3 c l d = (true, L, [Hm.mDone c l]) := by simp [Hm.gotR, ho]
      rw [e0]
      exact sgot_3_no c to l t d base L sa sc qa qc w hs hq hap hbw ho
  · by_cases hbu : L.bu = 0
    · skip
      have e0 : Hm.gotR L 6 c l d = (false, L, []) := by simp [Hm.gotR, hbu]
      rw [e0]
      exact sgot_6_idle c to l t d base L sa sc qa qc w hs hq hap hbw hbu
    · obtain ⟨⟨hb1, hb5⟩, hw12, ha1, ha5⟩ := lok_bu hlk hbu
      by_cases ho : L.own = 0
      · by_cases hw : L.wt = 1
        · skip
          have e0 : Hm.gotR L 6 c l d = (false, L, []) := by simp [Hm.gotR, hbu, ho, hw]
          rw [e0]
          exact sgot_6_read c to l t d base L sa sc qa qc w hs hq hap hbw hbu ho (by omega)
        · by_cases ha : 1 < L.ac
          · skip
            have e0 : Hm.gotR L 6 c l d = (true, { L with ac := L.ac - 1 }, []) := by simp [Hm.gotR, hbu, ho, hw, show ¬ L.ac ≤ 1 from by omega, show 1 < L.ac from by omega]
            rw [e0]
            exact sgot_6_more c to l t d base L sa sc qa qc w hs hq hap hbw hbu ho (by omega) ha ha5
          · have ha0 : L.ac = 1 := by omega
            obtain ⟨R, hR⟩ : ∃ R, Hm.nextR l L.q (Hm.grantL { L with ac := L.ac - 1 } L.bu L.wt) [Hm.mGrant L.bu l L.wt L.mem] = R := ⟨_, rfl⟩
            have e0 : Hm.gotR L 6 c l d = R := by rw [← hR]; simp [Hm.gotR, hbu, ho, hw, show ¬ 1 < L.ac from by omega, show L.ac ≤ 1 from by omega]
            rw [e0]
            exact sgot_6_on c to l t d base L sa sc qa qc w hs hq hap hbw hgd hb1 hb5 ho (by omega) ha0 R hR
      · skip
        have e0 : Hm.gotR L 6 c l d = (false, L, []) := by simp [Hm.gotR, hbu, ho]
        rw [e0]
        exact sgot_6_owned c to l t d base L sa sc qa qc w hs hq hap hbw hbu ho
  · by_cases hbu : L.bu = 0
    · skip
      have e0 : Hm.gotR L 7 c l d = (false, L, []) := by simp [Hm.gotR, hbu]
      rw [e0]
      exact sgot_7_idle c to l t d base L sa sc qa qc w hs hq hap hbw hbu
    · obtain ⟨⟨hb1, hb5⟩, hw12, ha1, ha5⟩ := lok_bu hlk hbu
      by_cases ho : L.own = c
      · by_cases hw : L.wt = 1
        · skip
          obtain ⟨R, hR⟩ : ∃ R, Hm.nextR l L.q (Hm.grantL { L with mem := d, own := 0, sh := [c] } L.bu L.wt) [Hm.mGrant L.bu l L.wt d] = R := ⟨_, rfl⟩
          have e0 : Hm.gotR L 7 c l d = R := by rw [← hR]; simp [Hm.gotR, hbu, ho, hw]
          rw [e0]
          exact sgot_7_r c to l t d base L sa sc qa qc w hs hq hap hbw hgd hb1 hb5 ho hw hc1 hc5 R hR
        · skip
          obtain ⟨R, hR⟩ : ∃ R, Hm.nextR l L.q (Hm.grantL { L with mem := d, own := 0, sh := [] } L.bu L.wt) [Hm.mGrant L.bu l L.wt d] = R := ⟨_, rfl⟩
          have e0 : Hm.gotR L 7 c l d = R := by rw [← hR]; simp [Hm.gotR, hbu, ho, hw]
          rw [e0]
          exact sgot_7_w c to l t d base L sa sc qa qc w hs hq hap hbw hgd hb1 hb5 ho hw hc1 hc5 R hR
      · skip
        have e0 : Hm.gotR L 7 c l d = (false, L, []) := by simp [Hm.gotR, hbu, ho]
        rw [e0]
        exact sgot_7_other c to l t d base L sa sc qa qc w hs hq hap hbw hbu ho

set_option maxRecDepth 20000 in
set_option maxHeartbeats 2000000 in
theorem shgot_lok (k c to l t d : Int) (L : Hm.Ln) (sa : Option Addr) (sc : Nat) (qa : Option Addr) (qc : Nat) (w : World) (hs : Sg w (.slice sa L.sh.length sc) 1 L.sh.length (gF (f1 L.sh))) (hfs : Gf (.slice sa L.sh.length sc) L.sh.length) (hq : Sg w (.slice qa L.q.length qc) 2 L.q.length (gF (f2 L.q))) (hfq : Gf (.slice qa L.q.length qc) L.q.length) (hsl : L.sh.length ≤ 1048576) (hql : L.q.length ≤ 1048576) (hlk : lok L = false) :
    Calls Tryz.prog 6 #[.agg #[.int .i64 L.mem, .int .i64 L.own, .slice sa L.sh.length sc, .int .i64 L.bu, .int .i64 L.wt, .int .i64 L.ac, .slice qa L.q.length qc], .agg #[.int .i64 k, .int .i64 c, .int .i64 to, .int .i64 l, .int .i64 t, .int .i64 d]] w (LnP w zL [] false) := by
  have HB : Hid (Mv nob w w) := hide (Mv.refl _ _)
  have hs0 := hide hs; have hq0 := hide hq; clear hs hq
  go_enter Tryz.func6, Tryz.ntmps6
  refine sk fun K1 h1 => rl ?_
  refine sbp #[.int .i64 L.mem, .int .i64 L.own, .slice sa L.sh.length sc, .int .i64 L.bu, .int .i64 L.wt, .int .i64 L.ac, .slice qa L.q.length qc] 31 fun V1 b0 hb0 m1 bx0 => ?_
  have o_0 : w.heap.size ≤ b0 := by omega
  clear hb0
  refine sbp #[.int .i64 k, .int .i64 c, .int .i64 to, .int .i64 l, .int .i64 t, .int .i64 d] 36 fun V2 b1 hb1 m2 bx1 => ?_
  have o0_1 := Xlo bx0 hb1
  clear hb1
  refine sbp #[.int .i64 0, .int .i64 0, .slice none 0 0, .int .i64 0, .int .i64 0, .int .i64 0, .slice none 0 0] 31 fun V3 b2 hb2 m3 bx2 => ?_
  have o1_2 := Xlo bx1 hb2
  clear hb2
  refine sv (.slice none 0 0) ?_
  refine sv (.bool false) ?_
  refine nt (h1 _ _ (sk fun K2 h2 => sk fun K3 h3 => rl ?_)); clear h1 K1
  replace bx0 := Xbn (Xbn bx0 m2) m3
  refine sg (.agg #[.int .i64 L.mem, .int .i64 L.own, .slice sa L.sh.length sc, .int .i64 L.bu, .int .i64 L.wt, .int .i64 L.ac, .slice qa L.q.length qc]) (h := by have z0 := cell_box 0 (bx0.out) rfl; have z1 := cell_box 1 (bx0.out) rfl; have z2 := cell_box 2 (bx0.out) rfl; have z3 := cell_box 3 (bx0.out) rfl; have z4 := cell_box 4 (bx0.out) rfl; have z5 := cell_box 5 (bx0.out) rfl; have z6 := cell_box 6 (bx0.out) rfl; go_simp) ?_
  replace HB := Xhn (Xhn (Xhn HB m1) m2) m3
  refine sw_call (by rfl) (by first | rfl | (go_simp; done)) (specLineOk_any L.mem L.own (.slice sa L.sh.length sc) L.sh L.bu L.wt L.ac qa qc L.q.length (f2 L.q) V3 (sg_sl (hs0.out.below HB.out.below)) hsl (sg_sr (hq0.out.below HB.out.below)) hql) ?_
  rintro e V4 ⟨rfl, hbl⟩
  have m4 : Mv (nob) V3 V4 := Mv.of_below hbl
  refine ⟨_, rfl, ?_⟩
  refine pt ?_
  clear hbl
  rw [show lineB L.mem L.own L.sh L.bu L.wt L.ac L.q.length (f2 L.q) = false from hlk]
  refine sg (.bool true) ?_
  refine sv (.bool true) ?_
  with_reducible refine sp ?_
  with_reducible refine sp ?_
  with_reducible refine sp ?_
  refine sg (.bool true) ?_
  refine sv (.bool true) ?_
  with_reducible refine sp ?_
  with_reducible refine sp ?_
  with_reducible refine sp ?_
  with_reducible refine sp ?_
  refine sg (.bool true) ?_
  refine nt (h3 _ _ (ct (sk fun K4 h4 => rl ?_))); clear h3 K3
  refine sv (.agg #[.int .i64 0, .int .i64 0, .slice none 0 0, .int .i64 0, .int .i64 0, .int .i64 0, .slice none 0 0]) ?_
  replace bx2 := Xbn bx2 m4
  refine ss7 (.int .i64 0) (.int .i64 0) (.slice none 0 0) (.int .i64 0) (.int .i64 0) (.int .i64 0) (.slice none 0 0) bx2 fun V5 m5 bx2 => ?_
  refine sv (.slice none 0 0) ?_
  refine sv (.bool false) ?_
  refine nt (h4 _ _ (wp_ret (then_ret ?_))); clear h4 K4; clear h2 K2
  replace bx1 := Xbb (Xbn (Xbn bx1 m3) m4) m5; replace HB := Xhb (Xhn HB m4) m5; replace bx0 := Xbb (Xbn bx0 m4) m5
  have q2_0 := cell_box 0 bx2.out rfl
  have q2_1 := cell_box 1 bx2.out rfl
  have q2_2 := cell_box 2 bx2.out rfl
  have q2_3 := cell_box 3 bx2.out rfl
  have q2_4 := cell_box 4 bx2.out rfl
  have q2_5 := cell_box 5 bx2.out rfl
  have q2_6 := cell_box 6 bx2.out rfl
  exact bodyPost_ret (v := .tuple #[.agg #[.int .i64 0, .int .i64 0, .slice none 0 0, .int .i64 0, .int .i64 0, .int .i64 0, .slice none 0 0], .slice none 0 0, .bool false]) (by simp [results, Tryz.results6, go_sem, q2_0, q2_1, q2_2, q2_3, q2_4, q2_5, q2_6]) rfl ⟨_, _, _, _, _, _, rfl, rg_nil _ _ _ _, rg_nil _ _ _ _, rg_nil _ _ _ _, zl_apt, HB.out.below⟩

set_option maxRecDepth 20000 in
set_option maxHeartbeats 2000000 in
theorem shgot_msg (k c to l t d : Int) (L : Hm.Ln) (sa : Option Addr) (sc : Nat) (qa : Option Addr) (qc : Nat) (w : World) (hs : Sg w (.slice sa L.sh.length sc) 1 L.sh.length (gF (f1 L.sh))) (hfs : Gf (.slice sa L.sh.length sc) L.sh.length) (hq : Sg w (.slice qa L.q.length qc) 2 L.q.length (gF (f2 L.q))) (hfq : Gf (.slice qa L.q.length qc) L.q.length) (hsl : L.sh.length ≤ 1048576) (hql : L.q.length ≤ 1048576) (hlk : lok L = true) (hmk : okB k c to l t d = false) :
    Calls Tryz.prog 6 #[.agg #[.int .i64 L.mem, .int .i64 L.own, .slice sa L.sh.length sc, .int .i64 L.bu, .int .i64 L.wt, .int .i64 L.ac, .slice qa L.q.length qc], .agg #[.int .i64 k, .int .i64 c, .int .i64 to, .int .i64 l, .int .i64 t, .int .i64 d]] w (LnP w zL [] false) := by
  have HB : Hid (Mv nob w w) := hide (Mv.refl _ _)
  have hs0 := hide hs; have hq0 := hide hq; clear hs hq
  go_enter Tryz.func6, Tryz.ntmps6
  refine sk fun K1 h1 => rl ?_
  refine sbp #[.int .i64 L.mem, .int .i64 L.own, .slice sa L.sh.length sc, .int .i64 L.bu, .int .i64 L.wt, .int .i64 L.ac, .slice qa L.q.length qc] 31 fun V1 b0 hb0 m1 bx0 => ?_
  have o_0 : w.heap.size ≤ b0 := by omega
  clear hb0
  refine sbp #[.int .i64 k, .int .i64 c, .int .i64 to, .int .i64 l, .int .i64 t, .int .i64 d] 36 fun V2 b1 hb1 m2 bx1 => ?_
  have o0_1 := Xlo bx0 hb1
  clear hb1
  refine sbp #[.int .i64 0, .int .i64 0, .slice none 0 0, .int .i64 0, .int .i64 0, .int .i64 0, .slice none 0 0] 31 fun V3 b2 hb2 m3 bx2 => ?_
  have o1_2 := Xlo bx1 hb2
  clear hb2
  refine sv (.slice none 0 0) ?_
  refine sv (.bool false) ?_
  refine nt (h1 _ _ (sk fun K2 h2 => sk fun K3 h3 => rl ?_)); clear h1 K1
  replace bx0 := Xbn (Xbn bx0 m2) m3
  refine sg (.agg #[.int .i64 L.mem, .int .i64 L.own, .slice sa L.sh.length sc, .int .i64 L.bu, .int .i64 L.wt, .int .i64 L.ac, .slice qa L.q.length qc]) (h := by have z0 := cell_box 0 (bx0.out) rfl; have z1 := cell_box 1 (bx0.out) rfl; have z2 := cell_box 2 (bx0.out) rfl; have z3 := cell_box 3 (bx0.out) rfl; have z4 := cell_box 4 (bx0.out) rfl; have z5 := cell_box 5 (bx0.out) rfl; have z6 := cell_box 6 (bx0.out) rfl; go_simp) ?_
  replace HB := Xhn (Xhn (Xhn HB m1) m2) m3
  refine sw_call (by rfl) (by first | rfl | (go_simp; done)) (specLineOk_any L.mem L.own (.slice sa L.sh.length sc) L.sh L.bu L.wt L.ac qa qc L.q.length (f2 L.q) V3 (sg_sl (hs0.out.below HB.out.below)) hsl (sg_sr (hq0.out.below HB.out.below)) hql) ?_
  rintro e V4 ⟨rfl, hbl⟩
  have m4 : Mv (nob) V3 V4 := Mv.of_below hbl
  refine ⟨_, rfl, ?_⟩
  refine pt ?_
  clear hbl
  rw [show lineB L.mem L.own L.sh L.bu L.wt L.ac L.q.length (f2 L.q) = true from hlk]
  refine sg (.bool false) ?_
  refine sv (.bool false) ?_
  replace bx1 := Xbn (Xbn bx1 m3) m4
  refine sl6 bx1 ?_
  refine sw_call (by rfl) (by first | rfl | (go_simp; done)) (specOk_any k c to l t d V4) ?_
  rintro e V5 ⟨rfl, hbl⟩
  have m5 : Mv (nob) V4 V5 := Mv.of_below hbl
  refine ⟨_, rfl, ?_⟩
  refine pt ?_
  clear hbl
  rw [hmk]
  refine sg (.bool true) ?_
  refine sg (.bool true) ?_
  refine sv (.bool true) ?_
  with_reducible refine sp ?_
  with_reducible refine sp ?_
  with_reducible refine sp ?_
  with_reducible refine sp ?_
  refine sg (.bool true) ?_
  refine nt (h3 _ _ (ct (sk fun K4 h4 => rl ?_))); clear h3 K3
  refine sv (.agg #[.int .i64 0, .int .i64 0, .slice none 0 0, .int .i64 0, .int .i64 0, .int .i64 0, .slice none 0 0]) ?_
  replace bx2 := Xbn (Xbn bx2 m4) m5
  refine ss7 (.int .i64 0) (.int .i64 0) (.slice none 0 0) (.int .i64 0) (.int .i64 0) (.int .i64 0) (.slice none 0 0) bx2 fun V6 m6 bx2 => ?_
  refine sv (.slice none 0 0) ?_
  refine sv (.bool false) ?_
  refine nt (h4 _ _ (wp_ret (then_ret ?_))); clear h4 K4; clear h2 K2
  replace HB := Xhb (Xhn (Xhn HB m4) m5) m6; replace bx0 := Xbb (Xbn (Xbn bx0 m4) m5) m6; replace bx1 := Xbb (Xbn bx1 m5) m6
  have q2_0 := cell_box 0 bx2.out rfl
  have q2_1 := cell_box 1 bx2.out rfl
  have q2_2 := cell_box 2 bx2.out rfl
  have q2_3 := cell_box 3 bx2.out rfl
  have q2_4 := cell_box 4 bx2.out rfl
  have q2_5 := cell_box 5 bx2.out rfl
  have q2_6 := cell_box 6 bx2.out rfl
  exact bodyPost_ret (v := .tuple #[.agg #[.int .i64 0, .int .i64 0, .slice none 0 0, .int .i64 0, .int .i64 0, .int .i64 0, .slice none 0 0], .slice none 0 0, .bool false]) (by simp [results, Tryz.results6, go_sem, q2_0, q2_1, q2_2, q2_3, q2_4, q2_5, q2_6]) rfl ⟨_, _, _, _, _, _, rfl, rg_nil _ _ _ _, rg_nil _ _ _ _, rg_nil _ _ _ _, zl_apt, HB.out.below⟩

set_option maxRecDepth 20000 in
set_option maxHeartbeats 2000000 in
theorem shgot_home (k c to l t d : Int) (L : Hm.Ln) (sa : Option Addr) (sc : Nat) (qa : Option Addr) (qc : Nat) (w : World) (hs : Sg w (.slice sa L.sh.length sc) 1 L.sh.length (gF (f1 L.sh))) (hfs : Gf (.slice sa L.sh.length sc) L.sh.length) (hq : Sg w (.slice qa L.q.length qc) 2 L.q.length (gF (f2 L.q))) (hfq : Gf (.slice qa L.q.length qc) L.q.length) (hsl : L.sh.length ≤ 1048576) (hql : L.q.length ≤ 1048576) (hlk : lok L = true) (hmk : okB k c to l t d = true) (hhm : homeB k = false) :
    Calls Tryz.prog 6 #[.agg #[.int .i64 L.mem, .int .i64 L.own, .slice sa L.sh.length sc, .int .i64 L.bu, .int .i64 L.wt, .int .i64 L.ac, .slice qa L.q.length qc], .agg #[.int .i64 k, .int .i64 c, .int .i64 to, .int .i64 l, .int .i64 t, .int .i64 d]] w (LnP w zL [] false) := by
  have HB : Hid (Mv nob w w) := hide (Mv.refl _ _)
  have hs0 := hide hs; have hq0 := hide hq; clear hs hq
  go_enter Tryz.func6, Tryz.ntmps6
  refine sk fun K1 h1 => rl ?_
  refine sbp #[.int .i64 L.mem, .int .i64 L.own, .slice sa L.sh.length sc, .int .i64 L.bu, .int .i64 L.wt, .int .i64 L.ac, .slice qa L.q.length qc] 31 fun V1 b0 hb0 m1 bx0 => ?_
  have o_0 : w.heap.size ≤ b0 := by omega
  clear hb0
  refine sbp #[.int .i64 k, .int .i64 c, .int .i64 to, .int .i64 l, .int .i64 t, .int .i64 d] 36 fun V2 b1 hb1 m2 bx1 => ?_
  have o0_1 := Xlo bx0 hb1
  clear hb1
  refine sbp #[.int .i64 0, .int .i64 0, .slice none 0 0, .int .i64 0, .int .i64 0, .int .i64 0, .slice none 0 0] 31 fun V3 b2 hb2 m3 bx2 => ?_
  have o1_2 := Xlo bx1 hb2
  clear hb2
  refine sv (.slice none 0 0) ?_
  refine sv (.bool false) ?_
  refine nt (h1 _ _ (sk fun K2 h2 => sk fun K3 h3 => rl ?_)); clear h1 K1
  replace bx0 := Xbn (Xbn bx0 m2) m3
  refine sg (.agg #[.int .i64 L.mem, .int .i64 L.own, .slice sa L.sh.length sc, .int .i64 L.bu, .int .i64 L.wt, .int .i64 L.ac, .slice qa L.q.length qc]) (h := by have z0 := cell_box 0 (bx0.out) rfl; have z1 := cell_box 1 (bx0.out) rfl; have z2 := cell_box 2 (bx0.out) rfl; have z3 := cell_box 3 (bx0.out) rfl; have z4 := cell_box 4 (bx0.out) rfl; have z5 := cell_box 5 (bx0.out) rfl; have z6 := cell_box 6 (bx0.out) rfl; go_simp) ?_
  replace HB := Xhn (Xhn (Xhn HB m1) m2) m3
  refine sw_call (by rfl) (by first | rfl | (go_simp; done)) (specLineOk_any L.mem L.own (.slice sa L.sh.length sc) L.sh L.bu L.wt L.ac qa qc L.q.length (f2 L.q) V3 (sg_sl (hs0.out.below HB.out.below)) hsl (sg_sr (hq0.out.below HB.out.below)) hql) ?_
  rintro e V4 ⟨rfl, hbl⟩
  have m4 : Mv (nob) V3 V4 := Mv.of_below hbl
  refine ⟨_, rfl, ?_⟩
  refine pt ?_
  clear hbl
  rw [show lineB L.mem L.own L.sh L.bu L.wt L.ac L.q.length (f2 L.q) = true from hlk]
  refine sg (.bool false) ?_
  refine sv (.bool false) ?_
  replace bx1 := Xbn (Xbn bx1 m3) m4
  refine sl6 bx1 ?_
  refine sw_call (by rfl) (by first | rfl | (go_simp; done)) (specOk_any k c to l t d V4) ?_
  rintro e V5 ⟨rfl, hbl⟩
  have m5 : Mv (nob) V4 V5 := Mv.of_below hbl
  refine ⟨_, rfl, ?_⟩
  refine pt ?_
  clear hbl
  rw [hmk]
  refine sg (.bool false) ?_
  refine sg (.bool false) ?_
  refine sv (.bool false) ?_
  refine sv (.pointer (some ⟨b1, 0, none⟩)) ?_
  replace bx1 := Xbn bx1 m5
  refine sl 0 bx1 ?_
  refine sw_call (by rfl) (by first | rfl | (go_simp; done)) (core_any2 k V5 (okB_kind hmk).1 (okB_kind hmk).2) ?_
  rintro e V6 ⟨rfl, hbl⟩
  have m6 : Mv (nob) V5 V6 := Mv.of_below hbl
  refine ⟨_, rfl, ?_⟩
  refine pt ?_
  clear hbl
  rw [hhm]
  refine sg (.bool true) ?_
  refine sg (.bool true) ?_
  refine nt (h3 _ _ (ct (sk fun K4 h4 => rl ?_))); clear h3 K3
  refine sv (.agg #[.int .i64 0, .int .i64 0, .slice none 0 0, .int .i64 0, .int .i64 0, .int .i64 0, .slice none 0 0]) ?_
  replace bx2 := Xbn (Xbn (Xbn bx2 m4) m5) m6
  refine ss7 (.int .i64 0) (.int .i64 0) (.slice none 0 0) (.int .i64 0) (.int .i64 0) (.int .i64 0) (.slice none 0 0) bx2 fun V7 m7 bx2 => ?_
  refine sv (.slice none 0 0) ?_
  refine sv (.bool false) ?_
  refine nt (h4 _ _ (wp_ret (then_ret ?_))); clear h4 K4; clear h2 K2
  replace HB := Xhb (Xhn (Xhn (Xhn HB m4) m5) m6) m7; replace bx0 := Xbb (Xbn (Xbn (Xbn bx0 m4) m5) m6) m7; replace bx1 := Xbb (Xbn bx1 m6) m7
  have q2_0 := cell_box 0 bx2.out rfl
  have q2_1 := cell_box 1 bx2.out rfl
  have q2_2 := cell_box 2 bx2.out rfl
  have q2_3 := cell_box 3 bx2.out rfl
  have q2_4 := cell_box 4 bx2.out rfl
  have q2_5 := cell_box 5 bx2.out rfl
  have q2_6 := cell_box 6 bx2.out rfl
  exact bodyPost_ret (v := .tuple #[.agg #[.int .i64 0, .int .i64 0, .slice none 0 0, .int .i64 0, .int .i64 0, .int .i64 0, .slice none 0 0], .slice none 0 0, .bool false]) (by simp [results, Tryz.results6, go_sem, q2_0, q2_1, q2_2, q2_3, q2_4, q2_5, q2_6]) rfl ⟨_, _, _, _, _, _, rfl, rg_nil _ _ _ _, rg_nil _ _ _ _, rg_nil _ _ _ _, zl_apt, HB.out.below⟩

set_option maxRecDepth 20000 in
set_option maxHeartbeats 2000000 in
theorem shgot_yes (k c to l t d : Int) (L : Hm.Ln) (sa : Option Addr) (sc : Nat) (qa : Option Addr) (qc : Nat) (w : World) (hs : Sg w (.slice sa L.sh.length sc) 1 L.sh.length (gF (f1 L.sh))) (hfs : Gf (.slice sa L.sh.length sc) L.sh.length) (hq : Sg w (.slice qa L.q.length qc) 2 L.q.length (gF (f2 L.q))) (hfq : Gf (.slice qa L.q.length qc) L.q.length) (hsl : L.sh.length ≤ 1048576) (hql : L.q.length ≤ 1048576) (hlk : lok L = true) (hmk : okB k c to l t d = true) (hhm : homeB k = true) (hk : k = 1 ∨ k = 2 ∨ k = 3 ∨ k = 6 ∨ k = 7) (hc1 : 1 ≤ c) (hc5 : c ≤ 5) (hB : (Hm.gotR L k c l d).1 = true) :
    Calls Tryz.prog 6 #[.agg #[.int .i64 L.mem, .int .i64 L.own, .slice sa L.sh.length sc, .int .i64 L.bu, .int .i64 L.wt, .int .i64 L.ac, .slice qa L.q.length qc], .agg #[.int .i64 k, .int .i64 c, .int .i64 to, .int .i64 l, .int .i64 t, .int .i64 d]] w (LnP w (Hm.gotR L k c l d).2.1 (Hm.gotR L k c l d).2.2 true) := by
  have HB : Hid (Mv nob w w) := hide (Mv.refl _ _)
  have hs0 := hide hs; have hq0 := hide hq; clear hs hq
  obtain ⟨X, hX⟩ : ∃ X, (Hm.gotR L k c l d).2.1 = X := ⟨_, rfl⟩
  obtain ⟨M, hM⟩ : ∃ M, (Hm.gotR L k c l d).2.2 = M := ⟨_, rfl⟩
  have hgot : Hid (∀ (base : Nat) (sa : Option Addr) (sc : Nat) (qa : Option Addr) (qc : Nat) (w : World), Rg w base (.slice sa L.sh.length sc) 1 L.sh.length (gF (f1 L.sh)) → Rg w base (.slice qa L.q.length qc) 2 L.q.length (gF (f2 L.q)) → (∀ g, rb (.slice sa L.sh.length sc) = some g → rb (.slice qa L.q.length qc) ≠ some g) → base ≤ w.heap.size → Calls Tryz.prog 27 #[.agg #[.int .i64 L.mem, .int .i64 L.own, .slice sa L.sh.length sc, .int .i64 L.bu, .int .i64 L.wt, .int .i64 L.ac, .slice qa L.q.length qc], .agg #[.int .i64 k, .int .i64 c, .int .i64 to, .int .i64 l, .int .i64 t, .int .i64 d]] w (LnG w base (.slice sa L.sh.length sc) (.slice qa L.q.length qc) X M true)) := hide (fun base sa sc qa qc w h1 h2 h3 h4 => by rw [← hX, ← hM, ← hB]; exact l4Got_any k c to l t d base L sa sc qa qc w h1 h2 h3 h4 hlk hk hc1 hc5)
  rw [hX, hM]
  clear hX hM
  go_enter Tryz.func6, Tryz.ntmps6
  refine sk fun K1 h1 => rl ?_
  refine sbp #[.int .i64 L.mem, .int .i64 L.own, .slice sa L.sh.length sc, .int .i64 L.bu, .int .i64 L.wt, .int .i64 L.ac, .slice qa L.q.length qc] 31 fun V1 b0 hb0 m1 bx0 => ?_
  have o_0 : w.heap.size ≤ b0 := by omega
  clear hb0
  refine sbp #[.int .i64 k, .int .i64 c, .int .i64 to, .int .i64 l, .int .i64 t, .int .i64 d] 36 fun V2 b1 hb1 m2 bx1 => ?_
  have o0_1 := Xlo bx0 hb1
  clear hb1
  refine sbp #[.int .i64 0, .int .i64 0, .slice none 0 0, .int .i64 0, .int .i64 0, .int .i64 0, .slice none 0 0] 31 fun V3 b2 hb2 m3 bx2 => ?_
  have o1_2 := Xlo bx1 hb2
  clear hb2
  refine sv (.slice none 0 0) ?_
  refine sv (.bool false) ?_
  refine nt (h1 _ _ (sk fun K2 h2 => sk fun K3 h3 => rl ?_)); clear h1 K1
  replace bx0 := Xbn (Xbn bx0 m2) m3
  refine sg (.agg #[.int .i64 L.mem, .int .i64 L.own, .slice sa L.sh.length sc, .int .i64 L.bu, .int .i64 L.wt, .int .i64 L.ac, .slice qa L.q.length qc]) (h := by have z0 := cell_box 0 (bx0.out) rfl; have z1 := cell_box 1 (bx0.out) rfl; have z2 := cell_box 2 (bx0.out) rfl; have z3 := cell_box 3 (bx0.out) rfl; have z4 := cell_box 4 (bx0.out) rfl; have z5 := cell_box 5 (bx0.out) rfl; have z6 := cell_box 6 (bx0.out) rfl; go_simp) ?_
  replace HB := Xhn (Xhn (Xhn HB m1) m2) m3
  refine sw_call (by rfl) (by first | rfl | (go_simp; done)) (specLineOk_any L.mem L.own (.slice sa L.sh.length sc) L.sh L.bu L.wt L.ac qa qc L.q.length (f2 L.q) V3 (sg_sl (hs0.out.below HB.out.below)) hsl (sg_sr (hq0.out.below HB.out.below)) hql) ?_
  rintro e V4 ⟨rfl, hbl⟩
  have m4 : Mv (nob) V3 V4 := Mv.of_below hbl
  refine ⟨_, rfl, ?_⟩
  refine pt ?_
  clear hbl
  rw [show lineB L.mem L.own L.sh L.bu L.wt L.ac L.q.length (f2 L.q) = true from hlk]
  refine sg (.bool false) ?_
  refine sv (.bool false) ?_
  replace bx1 := Xbn (Xbn bx1 m3) m4
  refine sl6 bx1 ?_
  refine sw_call (by rfl) (by first | rfl | (go_simp; done)) (specOk_any k c to l t d V4) ?_
  rintro e V5 ⟨rfl, hbl⟩
  have m5 : Mv (nob) V4 V5 := Mv.of_below hbl
  refine ⟨_, rfl, ?_⟩
  refine pt ?_
  clear hbl
  rw [hmk]
  refine sg (.bool false) ?_
  refine sg (.bool false) ?_
  refine sv (.bool false) ?_
  refine sv (.pointer (some ⟨b1, 0, none⟩)) ?_
  replace bx1 := Xbn bx1 m5
  refine sl 0 bx1 ?_
  refine sw_call (by rfl) (by first | rfl | (go_simp; done)) (core_any2 k V5 (okB_kind hmk).1 (okB_kind hmk).2) ?_
  rintro e V6 ⟨rfl, hbl⟩
  have m6 : Mv (nob) V5 V6 := Mv.of_below hbl
  refine ⟨_, rfl, ?_⟩
  refine pt ?_
  clear hbl
  rw [hhm]
  refine sg (.bool false) ?_
  refine sg (.bool false) ?_
  refine nt (h3 _ _ (cf (wp_skip (then_normal (h2 _ _ (sk fun K4 h4 => ?_)))))); clear h3 K3; clear h2 K2
  replace HB := Xhn (Xhn (Xhn HB m4) m5) m6; replace bx0 := Xbn (Xbn (Xbn bx0 m4) m5) m6; replace bx2 := Xbn (Xbn (Xbn bx2 m4) m5) m6; replace bx1 := Xbn bx1 m6
  have szR := HB.out.size
  refine wp_region_but (z := 999) (S := fun w' => Mv (fun x => False) V6.drew w') (by kernel_rfl) (Mv.refl _ _) (fun hS => ?_)
  have m7 : Mv nob V6 V6.drew := Mv.drew _
  obtain ⟨V7, hN⟩ : ∃ V, V6.drew = V := ⟨_, rfl⟩
  rw [hN] at hS m7 ⊢
  clear hN
  replace bx0 := Xbn bx0 m7; replace bx1 := Xbn bx1 m7
  have rbx0 := bx0; have rbx1 := bx1
  refine tk 0 (.agg #[.int .i64 L.mem, .int .i64 L.own, .slice sa L.sh.length sc, .int .i64 L.bu, .int .i64 L.wt, .int .i64 L.ac, .slice qa L.q.length qc]) rfl (fun w' hSw => by (try dsimp only at hSw); have z0 := cell_box 0 (hSw.box rbx0.out (fun h => h)) rfl; have z1 := cell_box 1 (hSw.box rbx0.out (fun h => h)) rfl; have z2 := cell_box 2 (hSw.box rbx0.out (fun h => h)) rfl; have z3 := cell_box 3 (hSw.box rbx0.out (fun h => h)) rfl; have z4 := cell_box 4 (hSw.box rbx0.out (fun h => h)) rfl; have z5 := cell_box 5 (hSw.box rbx0.out (fun h => h)) rfl; have z6 := cell_box 6 (hSw.box rbx0.out (fun h => h)) rfl; go_simp) ?_
  refine tk 2 (.agg #[.int .i64 k, .int .i64 c, .int .i64 to, .int .i64 l, .int .i64 t, .int .i64 d]) rfl (fun w' hSw => by (try dsimp only at hSw); have z0 := cell_box 0 (hSw.box rbx1.out (fun h => h)) rfl; have z1 := cell_box 1 (hSw.box rbx1.out (fun h => h)) rfl; have z2 := cell_box 2 (hSw.box rbx1.out (fun h => h)) rfl; have z3 := cell_box 3 (hSw.box rbx1.out (fun h => h)) rfl; have z4 := cell_box 4 (hSw.box rbx1.out (fun h => h)) rfl; have z5 := cell_box 5 (hSw.box rbx1.out (fun h => h)) rfl; go_simp) ?_
  replace HB := Xhn HB m7; replace bx2 := Xbn bx2 m7
  refine kd_each2 (l := [1, 8]) (by kernel_rfl) rfl ⟨?_, ?_, trivial⟩
  · refine .inl ?_
    have szV := HB.out.size
    have szS := hS.size
    have bnz := lt_of_block bx2.out
    obtain ⟨N0, hN0⟩ : ∃ N, V7.heap.size = N := ⟨_, rfl⟩
    refine ⟨_, rfl, by rfl, .inr ⟨_, _, _, by first | rfl | (go_simp; done), l4Copy_any L sa sc qa qc V7 (hs0.out.below HB.out.below) hfs (hq0.out.below HB.out.below) hfq hsl hql, ?_⟩⟩
    rintro e V8 ⟨sa1, sc1, qa1, qc1, rfl, hrs, hrq2, cap, hbl⟩
    have m8 : Mv (nob) V7 V8 := Mv.of_below hbl
    replace hS := hS.step m8 (fun _ _ h => h.elim)
    refine ⟨_, rfl, fun _ => hS, ?_⟩
    refine ptk ?_
    rw [hN0] at szV bnz hrs hrq2
    obtain ⟨N1, hN1⟩ : ∃ N, V8.heap.size = N := ⟨_, rfl⟩
    have CSb : ∀ g, rb (.slice sa1 L.sh.length sc1) = some g → N0 ≤ g ∧ g < N1 := fun g e => hN1 ▸ hrs.lt g e
    have CQb : ∀ g, rb (.slice qa1 L.q.length qc1) = some g → N0 ≤ g ∧ g < N1 := fun g e => hN1 ▸ hrq2.lt g e
    have CS := hide hrs
    have CQ := hide hrq2
    have h01 : N0 ≤ N1 := by have := hbl.size; omega
    have HN : Hid (N1 ≤ V8.heap.size) := hide (Nat.le_of_eq hN1.symm)
    clear hrs hrq2 hbl
    replace HB := Xhn HB m8; replace bx0 := Xbn bx0 m8; replace bx1 := Xbn bx1 m8; replace bx2 := Xbn bx2 m8
    refine kd_each2 (l := [3, 8]) (by kernel_rfl) rfl ⟨?_, ?_, trivial⟩
    · refine .inl ?_
      have bnz2 := lt_of_block bx2.out
      obtain ⟨N3, hN3⟩ : ∃ N, V8.heap.size = N := ⟨_, rfl⟩
      have h13 : N1 ≤ N3 := hN3 ▸ HN.out
      refine ⟨_, rfl, by rfl, .inr ⟨_, _, _, by first | rfl | (go_simp; done), hgot.out N0 sa1 sc1 qa1 qc1 V8 CS.out CQ.out cap (Nat.le_trans h01 HN.out), ?_⟩⟩
      rintro e V9 ⟨sa3, sc3, qa3, qc3, ta3, tc3, rfl, gs, gq, gt, gap, gfr, hmv⟩
      have m9 : Mv (fun g => rb (.slice qa1 L.q.length qc1) = some g) V8 V9 := hmv
      replace hS := hS.step m9 (fun g hg h => by have := (CQb g h).1; omega)
      refine ⟨_, rfl, fun _ => hS, ?_⟩
      refine ptk ?_
      replace HB := hide (HB.out.step m9 (fun g hg e => by have := CQb g e; omega))
      replace bx0 := hide (m9.box bx0.out (fun h => by have := CQb _ h; omega))
      replace bx1 := hide (m9.box bx1.out (fun h => by have := CQb _ h; omega))
      replace bx2 := hide (m9.box bx2.out (fun h => by have := CQb _ h; omega))
      replace HN := hide (Nat.le_trans HN.out (m9).size)
      rw [hN3] at gfr bnz2
      obtain ⟨N4, hN4⟩ : ∃ N, V9.heap.size = N := ⟨_, rfl⟩
      have GNb : ∀ g, (rb (.slice sa3 X.sh.length sc3) = some g ∨ rb (.slice qa3 X.q.length qc3) = some g ∨ rb (.slice ta3 M.length tc3) = some g) → ((N0 ≤ g ∧ g < N1) ∨ N3 ≤ g) ∧ g < N4 := fun g h => ⟨(gfr g h).elim (fun q => .inl (q.elim (CSb g) (CQb g))) .inr, hN4 ▸ (rows_lt gs gq gt g h).2⟩
      have GS := hide gs
      have GQ := hide gq
      have GT := hide gt
      clear gs gq gt gfr hmv CS CQ HN hN3
      refine tk0 4 (.tuple #[.agg #[.int .i64 X.mem, .int .i64 X.own, .slice sa3 X.sh.length sc3, .int .i64 X.bu, .int .i64 X.wt, .int .i64 X.ac, .slice qa3 X.q.length qc3], .slice ta3 M.length tc3, .bool true]) rfl ?_
      refine tk0 5 (.agg #[.int .i64 X.mem, .int .i64 X.own, .slice sa3 X.sh.length sc3, .int .i64 X.bu, .int .i64 X.wt, .int .i64 X.ac, .slice qa3 X.q.length qc3]) rfl ?_
      refine tk0 6 (.slice ta3 M.length tc3) rfl ?_
      refine tk0 7 (.bool true) rfl ?_
      refine kd_valI (i := 8) (v := .pointer (some ⟨V9.heap.size, 0, none⟩)) (w' := V9.alloc (.cells #[.int .i64 0, .int .i64 0, .slice none 0 0, .int .i64 0, .int .i64 0, .int .i64 0, .slice none 0 0] 31)) (fun V => Mv nob V9 V ∧ V.heap[V9.heap.size]? = some (.cells #[.int .i64 0, .int .i64 0, .slice none 0 0, .int .i64 0, .int .i64 0, .int .i64 0, .slice none 0 0] 31 (0, 0))) (by kernel_rfl) rfl (by rfl) (by first | rfl | go_simp) ⟨Mv.alloc _ _, heap_alloc_new _ _⟩ (fun V hI _ => hS.step hI.1 (fun _ _ h => h.elim)) ?_
      rintro V10 ⟨m10, nx⟩
      refine ptk ?_
      obtain ⟨b3, hb3⟩ : ∃ b3, V9.heap.size = b3 := ⟨_, rfl⟩
      rw [hb3] at nx ⊢
      have or_3 := Mv.le hS hb3
      have o2_3 := Xlo bx2 hb3
      have e4_b3 := hb3
      try have hn4_b3 : N1 ≤ b3 := hb3 ▸ HN.out
      replace GS := hide (GS.out.mv m10 (fun _ _ h => h))
      replace GQ := hide (GQ.out.mv m10 (fun _ _ h => h))
      replace GT := hide (GT.out.mv m10 (fun _ _ h => h))
      have bx3 := hide nx
      clear nx
      replace hS := hS.step m10 (fun _ _ h => h.elim)
      clear hb3
      refine kd_skipI (i := 9) (w' := ((((((V10.setCell ⟨b3, 0, none⟩ (.int .i64 X.mem)).setCell ⟨b3, 1, none⟩ (.int .i64 X.own)).setCell ⟨b3, 2, none⟩ (.slice sa3 X.sh.length sc3)).setCell ⟨b3, 3, none⟩ (.int .i64 X.bu)).setCell ⟨b3, 4, none⟩ (.int .i64 X.wt)).setCell ⟨b3, 5, none⟩ (.int .i64 X.ac)).setCell ⟨b3, 6, none⟩ (.slice qa3 X.q.length qc3)) (fun V => Mv (fun g => g = b3) V10 V ∧ V.heap[b3]? = some (.cells #[.int .i64 X.mem, .int .i64 X.own, .slice sa3 X.sh.length sc3, .int .i64 X.bu, .int .i64 X.wt, .int .i64 X.ac, .slice qa3 X.q.length qc3] 31 (0, 0))) (by kernel_rfl) rfl (by rfl) (by have fr := fun i => frozen_of_row _ _ i _ _ bx3.out; have z0 := cell_box 0 bx3.out rfl; have z1 := cell_box 1 bx3.out rfl; have z2 := cell_box 2 bx3.out rfl; have z3 := cell_box 3 bx3.out rfl; have z4 := cell_box 4 bx3.out rfl; have z5 := cell_box 5 bx3.out rfl; have z6 := cell_box 6 bx3.out rfl; go_simp) ⟨Mv.set (Mv.set (Mv.set (Mv.set (Mv.set (Mv.set (Mv.set (Mv.refl _ _) _ _) _ _) _ _) _ _) _ _) _ _) _ _, (heap_setCell_same _ _ 6 _ _ _ (heap_setCell_same _ _ 5 _ _ _ (heap_setCell_same _ _ 4 _ _ _ (heap_setCell_same _ _ 3 _ _ _ (heap_setCell_same _ _ 2 _ _ _ (heap_setCell_same _ _ 1 _ _ _ (heap_setCell_same _ _ 0 _ _ _ (bx3.out)))))))).trans rfl⟩ (fun V hI _ => hS.step hI.1 (fun g hg h => by have h : g = b3 := h; exfalso; omega)) ?_
      rintro V11 ⟨m11, nxV11⟩
      refine ptk ?_
      replace GS := hide (GS.out.mv m11 (fun g e h => by have h : g = b3 := h; have := GNb g (.inl e); omega))
      replace GQ := hide (GQ.out.mv m11 (fun g e h => by have h : g = b3 := h; have := GNb g (.inr (.inl e)); omega))
      replace GT := hide (GT.out.mv m11 (fun g e h => by have h : g = b3 := h; have := GNb g (.inr (.inr e)); omega))
      replace bx3 := hide nxV11
      clear nxV11
      replace hS := hS.step m11 (fun g hg h => by have h : g = b3 := h; exfalso; omega)
      refine tk0 10 (.slice ta3 M.length tc3) rfl ?_
      refine tk0 11 (.bool true) rfl ?_
      refine wpAnyK_done (by kernel_rfl) ?_
      clear hS rbx0 rbx1
      refine then_normal (h4 _ _ (sk fun K5 h5 => sk fun K6 h6 => rl ?_)); clear h4 K4
      replace HB := Xhb (Xhn HB m10) m11; replace bx0 := Xbb (Xbn bx0 m10) m11; replace bx1 := Xbb (Xbn bx1 m10) m11; replace bx2 := Xbb (Xbn bx2 m10) m11
      refine sv (.bool true) ?_
      refine sg (.bool false) ?_
      refine nt (h6 _ _ (cf (wp_skip (then_normal (h5 _ _ (sk fun K7 h7 => rl ?_)))))); clear h6 K6; clear h5 K5
      refine sg (.agg #[.int .i64 X.mem, .int .i64 X.own, .slice sa3 X.sh.length sc3, .int .i64 X.bu, .int .i64 X.wt, .int .i64 X.ac, .slice qa3 X.q.length qc3]) (h := by have z0 := cell_box 0 (bx3.out) rfl; have z1 := cell_box 1 (bx3.out) rfl; have z2 := cell_box 2 (bx3.out) rfl; have z3 := cell_box 3 (bx3.out) rfl; have z4 := cell_box 4 (bx3.out) rfl; have z5 := cell_box 5 (bx3.out) rfl; have z6 := cell_box 6 (bx3.out) rfl; go_simp) ?_
      refine sv (.slice ta3 M.length tc3) ?_
      refine ss7 (.int .i64 X.mem) (.int .i64 X.own) (.slice sa3 X.sh.length sc3) (.int .i64 X.bu) (.int .i64 X.wt) (.int .i64 X.ac) (.slice qa3 X.q.length qc3) bx2 fun V12 m12 bx2 => ?_
      replace GS := hide (GS.out.mv m12 (fun g e h => by have h : g = b2 := h; have := GNb g (.inl e); omega))
      replace GQ := hide (GQ.out.mv m12 (fun g e h => by have h : g = b2 := h; have := GNb g (.inr (.inl e)); omega))
      replace GT := hide (GT.out.mv m12 (fun g e h => by have h : g = b2 := h; have := GNb g (.inr (.inr e)); omega))
      refine sv (.slice ta3 M.length tc3) ?_
      refine sv (.bool true) ?_
      refine nt (h7 _ _ (wp_ret ?_)); clear h7 K7
      replace HB := Xhb HB m12; replace bx0 := Xbb bx0 m12; replace bx1 := Xbb bx1 m12; replace bx3 := Xbb bx3 m12
      have q2_0 := cell_box 0 bx2.out rfl
      have q2_1 := cell_box 1 bx2.out rfl
      have q2_2 := cell_box 2 bx2.out rfl
      have q2_3 := cell_box 3 bx2.out rfl
      have q2_4 := cell_box 4 bx2.out rfl
      have q2_5 := cell_box 5 bx2.out rfl
      have q2_6 := cell_box 6 bx2.out rfl
      exact bodyPost_ret (v := .tuple #[.agg #[.int .i64 X.mem, .int .i64 X.own, .slice sa3 X.sh.length sc3, .int .i64 X.bu, .int .i64 X.wt, .int .i64 X.ac, .slice qa3 X.q.length qc3], .slice ta3 M.length tc3, .bool true]) (by simp [results, Tryz.results6, go_sem, q2_0, q2_1, q2_2, q2_3, q2_4, q2_5, q2_6]) rfl ⟨_, _, _, _, _, _, rfl, GS.out.base (by omega), GQ.out.base (by omega), GT.out.base (by omega), gap, HB.out.below⟩
    · refine .inl ?_
      refine ⟨_, rfl, by rfl, .inl ⟨.pointer (some ⟨V8.heap.size, 0, none⟩), V8.alloc (.cells #[.int .i64 0, .int .i64 0, .slice none 0 0, .int .i64 0, .int .i64 0, .int .i64 0, .slice none 0 0] 31), (by first | rfl | go_simp), fun _ => hS.step (Mv.alloc _ _) (fun _ _ h => h.elim), ?_⟩⟩
      have m13 : Mv nob V8 (V8.alloc (.cells #[.int .i64 0, .int .i64 0, .slice none 0 0, .int .i64 0, .int .i64 0, .int .i64 0, .slice none 0 0] 31)) := Mv.alloc _ _
      have nx := heap_alloc_new V8 (.cells #[.int .i64 0, .int .i64 0, .slice none 0 0, .int .i64 0, .int .i64 0, .int .i64 0, .slice none 0 0] 31)
      obtain ⟨V13, hN⟩ : ∃ V, V8.alloc (.cells #[.int .i64 0, .int .i64 0, .slice none 0 0, .int .i64 0, .int .i64 0, .int .i64 0, .slice none 0 0] 31) = V := ⟨_, rfl⟩
      rw [hN] at m13 nx ⊢
      clear hN
      refine ptk ?_
      obtain ⟨b3, hb3⟩ : ∃ b3, V8.heap.size = b3 := ⟨_, rfl⟩
      rw [hb3] at nx ⊢
      have or_3 := Mv.le hS hb3
      have o2_3 := Xlo bx2 hb3
      have e4_b3 := hb3
      try have hn4_b3 : N1 ≤ b3 := hb3 ▸ HN.out
      replace CS := hide (CS.out.mv m13 (fun _ _ h => h))
      replace CQ := hide (CQ.out.mv m13 (fun _ _ h => h))
      replace HN := hide (Nat.le_trans HN.out (m13).size)
      have bx3 := hide nx
      clear nx
      replace hS := hS.step m13 (fun _ _ h => h.elim)
      clear hb3
      have bnz2 := lt_of_block bx3.out
      obtain ⟨N3, hN3⟩ : ∃ N, V13.heap.size = N := ⟨_, rfl⟩
      have h13 : N1 ≤ N3 := hN3 ▸ HN.out
      refine kd_call (i := 3) (by kernel_rfl) rfl (by rfl) (by first | rfl | (go_simp; done)) (hgot.out N0 sa1 sc1 qa1 qc1 V13 CS.out CQ.out cap (Nat.le_trans h01 HN.out)) ?_
      rintro e V14 ⟨sa3, sc3, qa3, qc3, ta3, tc3, rfl, gs, gq, gt, gap, gfr, hmv⟩
      have m14 : Mv (fun g => rb (.slice qa1 L.q.length qc1) = some g) V13 V14 := hmv
      replace hS := hS.step m14 (fun g hg h => by have := (CQb g h).1; omega)
      refine ⟨_, rfl, fun _ => hS, ?_⟩
      refine ptk ?_
      replace HB := Xhn HB m13
      replace HB := hide (HB.out.step m14 (fun g hg e => by have := CQb g e; omega))
      replace bx0 := Xbn bx0 m13
      replace bx0 := hide (m14.box bx0.out (fun h => by have := CQb _ h; omega))
      replace bx1 := Xbn bx1 m13
      replace bx1 := hide (m14.box bx1.out (fun h => by have := CQb _ h; omega))
      replace bx2 := Xbn bx2 m13
      replace bx2 := hide (m14.box bx2.out (fun h => by have := CQb _ h; omega))
      replace HN := hide (Nat.le_trans HN.out (m14).size)
      replace bx3 := hide (m14.box bx3.out (fun h => by have := CQb _ h; omega))
      rw [hN3] at gfr bnz2
      obtain ⟨N4, hN4⟩ : ∃ N, V14.heap.size = N := ⟨_, rfl⟩
      have GNb : ∀ g, (rb (.slice sa3 X.sh.length sc3) = some g ∨ rb (.slice qa3 X.q.length qc3) = some g ∨ rb (.slice ta3 M.length tc3) = some g) → ((N0 ≤ g ∧ g < N1) ∨ N3 ≤ g) ∧ g < N4 := fun g h => ⟨(gfr g h).elim (fun q => .inl (q.elim (CSb g) (CQb g))) .inr, hN4 ▸ (rows_lt gs gq gt g h).2⟩
      have GS := hide gs
      have GQ := hide gq
      have GT := hide gt
      clear gs gq gt gfr hmv CS CQ HN hN3
      refine tk0 4 (.tuple #[.agg #[.int .i64 X.mem, .int .i64 X.own, .slice sa3 X.sh.length sc3, .int .i64 X.bu, .int .i64 X.wt, .int .i64 X.ac, .slice qa3 X.q.length qc3], .slice ta3 M.length tc3, .bool true]) rfl ?_
      refine tk0 5 (.agg #[.int .i64 X.mem, .int .i64 X.own, .slice sa3 X.sh.length sc3, .int .i64 X.bu, .int .i64 X.wt, .int .i64 X.ac, .slice qa3 X.q.length qc3]) rfl ?_
      refine tk0 6 (.slice ta3 M.length tc3) rfl ?_
      refine tk0 7 (.bool true) rfl ?_
      refine kd_skipI (i := 9) (w' := ((((((V14.setCell ⟨b3, 0, none⟩ (.int .i64 X.mem)).setCell ⟨b3, 1, none⟩ (.int .i64 X.own)).setCell ⟨b3, 2, none⟩ (.slice sa3 X.sh.length sc3)).setCell ⟨b3, 3, none⟩ (.int .i64 X.bu)).setCell ⟨b3, 4, none⟩ (.int .i64 X.wt)).setCell ⟨b3, 5, none⟩ (.int .i64 X.ac)).setCell ⟨b3, 6, none⟩ (.slice qa3 X.q.length qc3)) (fun V => Mv (fun g => g = b3) V14 V ∧ V.heap[b3]? = some (.cells #[.int .i64 X.mem, .int .i64 X.own, .slice sa3 X.sh.length sc3, .int .i64 X.bu, .int .i64 X.wt, .int .i64 X.ac, .slice qa3 X.q.length qc3] 31 (0, 0))) (by kernel_rfl) rfl (by rfl) (by have fr := fun i => frozen_of_row _ _ i _ _ bx3.out; have z0 := cell_box 0 bx3.out rfl; have z1 := cell_box 1 bx3.out rfl; have z2 := cell_box 2 bx3.out rfl; have z3 := cell_box 3 bx3.out rfl; have z4 := cell_box 4 bx3.out rfl; have z5 := cell_box 5 bx3.out rfl; have z6 := cell_box 6 bx3.out rfl; go_simp) ⟨Mv.set (Mv.set (Mv.set (Mv.set (Mv.set (Mv.set (Mv.set (Mv.refl _ _) _ _) _ _) _ _) _ _) _ _) _ _) _ _, (heap_setCell_same _ _ 6 _ _ _ (heap_setCell_same _ _ 5 _ _ _ (heap_setCell_same _ _ 4 _ _ _ (heap_setCell_same _ _ 3 _ _ _ (heap_setCell_same _ _ 2 _ _ _ (heap_setCell_same _ _ 1 _ _ _ (heap_setCell_same _ _ 0 _ _ _ (bx3.out)))))))).trans rfl⟩ (fun V hI _ => hS.step hI.1 (fun g hg h => by have h : g = b3 := h; exfalso; omega)) ?_
      rintro V15 ⟨m15, nxV15⟩
      refine ptk ?_
      replace GS := hide (GS.out.mv m15 (fun g e h => by have h : g = b3 := h; have := GNb g (.inl e); omega))
      replace GQ := hide (GQ.out.mv m15 (fun g e h => by have h : g = b3 := h; have := GNb g (.inr (.inl e)); omega))
      replace GT := hide (GT.out.mv m15 (fun g e h => by have h : g = b3 := h; have := GNb g (.inr (.inr e)); omega))
      replace bx3 := hide nxV15
      clear nxV15
      replace hS := hS.step m15 (fun g hg h => by have h : g = b3 := h; exfalso; omega)
      refine tk0 10 (.slice ta3 M.length tc3) rfl ?_
      refine tk0 11 (.bool true) rfl ?_
      refine wpAnyK_done (by kernel_rfl) ?_
      clear hS rbx0 rbx1
      refine then_normal (h4 _ _ (sk fun K8 h8 => sk fun K9 h9 => rl ?_)); clear h4 K4
      replace HB := Xhb HB m15; replace bx0 := Xbb bx0 m15; replace bx1 := Xbb bx1 m15; replace bx2 := Xbb bx2 m15
      refine sv (.bool true) ?_
      refine sg (.bool false) ?_
      refine nt (h9 _ _ (cf (wp_skip (then_normal (h8 _ _ (sk fun K10 h10 => rl ?_)))))); clear h9 K9; clear h8 K8
      refine sg (.agg #[.int .i64 X.mem, .int .i64 X.own, .slice sa3 X.sh.length sc3, .int .i64 X.bu, .int .i64 X.wt, .int .i64 X.ac, .slice qa3 X.q.length qc3]) (h := by have z0 := cell_box 0 (bx3.out) rfl; have z1 := cell_box 1 (bx3.out) rfl; have z2 := cell_box 2 (bx3.out) rfl; have z3 := cell_box 3 (bx3.out) rfl; have z4 := cell_box 4 (bx3.out) rfl; have z5 := cell_box 5 (bx3.out) rfl; have z6 := cell_box 6 (bx3.out) rfl; go_simp) ?_
      refine sv (.slice ta3 M.length tc3) ?_
      refine ss7 (.int .i64 X.mem) (.int .i64 X.own) (.slice sa3 X.sh.length sc3) (.int .i64 X.bu) (.int .i64 X.wt) (.int .i64 X.ac) (.slice qa3 X.q.length qc3) bx2 fun V16 m16 bx2 => ?_
      replace GS := hide (GS.out.mv m16 (fun g e h => by have h : g = b2 := h; have := GNb g (.inl e); omega))
      replace GQ := hide (GQ.out.mv m16 (fun g e h => by have h : g = b2 := h; have := GNb g (.inr (.inl e)); omega))
      replace GT := hide (GT.out.mv m16 (fun g e h => by have h : g = b2 := h; have := GNb g (.inr (.inr e)); omega))
      refine sv (.slice ta3 M.length tc3) ?_
      refine sv (.bool true) ?_
      refine nt (h10 _ _ (wp_ret ?_)); clear h10 K10
      replace HB := Xhb HB m16; replace bx0 := Xbb bx0 m16; replace bx1 := Xbb bx1 m16; replace bx3 := Xbb bx3 m16
      have q2_0 := cell_box 0 bx2.out rfl
      have q2_1 := cell_box 1 bx2.out rfl
      have q2_2 := cell_box 2 bx2.out rfl
      have q2_3 := cell_box 3 bx2.out rfl
      have q2_4 := cell_box 4 bx2.out rfl
      have q2_5 := cell_box 5 bx2.out rfl
      have q2_6 := cell_box 6 bx2.out rfl
      exact bodyPost_ret (v := .tuple #[.agg #[.int .i64 X.mem, .int .i64 X.own, .slice sa3 X.sh.length sc3, .int .i64 X.bu, .int .i64 X.wt, .int .i64 X.ac, .slice qa3 X.q.length qc3], .slice ta3 M.length tc3, .bool true]) (by simp [results, Tryz.results6, go_sem, q2_0, q2_1, q2_2, q2_3, q2_4, q2_5, q2_6]) rfl ⟨_, _, _, _, _, _, rfl, GS.out.base (by omega), GQ.out.base (by omega), GT.out.base (by omega), gap, HB.out.below⟩
  · refine .inl ?_
    refine ⟨_, rfl, by rfl, .inl ⟨.pointer (some ⟨V7.heap.size, 0, none⟩), V7.alloc (.cells #[.int .i64 0, .int .i64 0, .slice none 0 0, .int .i64 0, .int .i64 0, .int .i64 0, .slice none 0 0] 31), (by first | rfl | go_simp), fun _ => hS.step (Mv.alloc _ _) (fun _ _ h => h.elim), ?_⟩⟩
    have m17 : Mv nob V7 (V7.alloc (.cells #[.int .i64 0, .int .i64 0, .slice none 0 0, .int .i64 0, .int .i64 0, .int .i64 0, .slice none 0 0] 31)) := Mv.alloc _ _
    have nx := heap_alloc_new V7 (.cells #[.int .i64 0, .int .i64 0, .slice none 0 0, .int .i64 0, .int .i64 0, .int .i64 0, .slice none 0 0] 31)
    obtain ⟨V17, hN⟩ : ∃ V, V7.alloc (.cells #[.int .i64 0, .int .i64 0, .slice none 0 0, .int .i64 0, .int .i64 0, .int .i64 0, .slice none 0 0] 31) = V := ⟨_, rfl⟩
    rw [hN] at m17 nx ⊢
    clear hN
    refine ptk ?_
    obtain ⟨b3, hb3⟩ : ∃ b3, V7.heap.size = b3 := ⟨_, rfl⟩
    rw [hb3] at nx ⊢
    have or_3 := Mv.le hS hb3
    have o2_3 := Xlo bx2 hb3
    have e4_b3 := hb3
    try have hn4_b3 : N1 ≤ b3 := hb3 ▸ HN.out
    have bx3 := hide nx
    clear nx
    replace hS := hS.step m17 (fun _ _ h => h.elim)
    clear hb3
    replace HB := Xhn HB m17
    have szV := HB.out.size
    have szS := hS.size
    have bnz := lt_of_block bx3.out
    obtain ⟨N0, hN0⟩ : ∃ N, V17.heap.size = N := ⟨_, rfl⟩
    refine kd_call (i := 1) (by kernel_rfl) rfl (by rfl) (by first | rfl | (go_simp; done)) (l4Copy_any L sa sc qa qc V17 (hs0.out.below HB.out.below) hfs (hq0.out.below HB.out.below) hfq hsl hql) ?_
    rintro e V18 ⟨sa1, sc1, qa1, qc1, rfl, hrs, hrq2, cap, hbl⟩
    have m18 : Mv (nob) V17 V18 := Mv.of_below hbl
    replace hS := hS.step m18 (fun _ _ h => h.elim)
    refine ⟨_, rfl, fun _ => hS, ?_⟩
    refine ptk ?_
    rw [hN0] at szV bnz hrs hrq2
    obtain ⟨N1, hN1⟩ : ∃ N, V18.heap.size = N := ⟨_, rfl⟩
    have CSb : ∀ g, rb (.slice sa1 L.sh.length sc1) = some g → N0 ≤ g ∧ g < N1 := fun g e => hN1 ▸ hrs.lt g e
    have CQb : ∀ g, rb (.slice qa1 L.q.length qc1) = some g → N0 ≤ g ∧ g < N1 := fun g e => hN1 ▸ hrq2.lt g e
    have CS := hide hrs
    have CQ := hide hrq2
    have h01 : N0 ≤ N1 := by have := hbl.size; omega
    have HN : Hid (N1 ≤ V18.heap.size) := hide (Nat.le_of_eq hN1.symm)
    clear hrs hrq2 hbl
    replace bx3 := Xbn bx3 m18
    have bnz2 := lt_of_block bx3.out
    obtain ⟨N3, hN3⟩ : ∃ N, V18.heap.size = N := ⟨_, rfl⟩
    have h13 : N1 ≤ N3 := hN3 ▸ HN.out
    refine kd_call (i := 3) (by kernel_rfl) rfl (by rfl) (by first | rfl | (go_simp; done)) (hgot.out N0 sa1 sc1 qa1 qc1 V18 CS.out CQ.out cap (Nat.le_trans h01 HN.out)) ?_
    rintro e V19 ⟨sa3, sc3, qa3, qc3, ta3, tc3, rfl, gs, gq, gt, gap, gfr, hmv⟩
    have m19 : Mv (fun g => rb (.slice qa1 L.q.length qc1) = some g) V18 V19 := hmv
    replace hS := hS.step m19 (fun g hg h => by have := (CQb g h).1; omega)
    refine ⟨_, rfl, fun _ => hS, ?_⟩
    refine ptk ?_
    replace HB := Xhn HB m18
    replace HB := hide (HB.out.step m19 (fun g hg e => by have := CQb g e; omega))
    replace bx0 := Xbn (Xbn bx0 m17) m18
    replace bx0 := hide (m19.box bx0.out (fun h => by have := CQb _ h; omega))
    replace bx1 := Xbn (Xbn bx1 m17) m18
    replace bx1 := hide (m19.box bx1.out (fun h => by have := CQb _ h; omega))
    replace bx2 := Xbn (Xbn bx2 m17) m18
    replace bx2 := hide (m19.box bx2.out (fun h => by have := CQb _ h; omega))
    replace bx3 := hide (m19.box bx3.out (fun h => by have := CQb _ h; omega))
    replace HN := hide (Nat.le_trans HN.out (m19).size)
    rw [hN3] at gfr bnz2
    obtain ⟨N4, hN4⟩ : ∃ N, V19.heap.size = N := ⟨_, rfl⟩
    have GNb : ∀ g, (rb (.slice sa3 X.sh.length sc3) = some g ∨ rb (.slice qa3 X.q.length qc3) = some g ∨ rb (.slice ta3 M.length tc3) = some g) → ((N0 ≤ g ∧ g < N1) ∨ N3 ≤ g) ∧ g < N4 := fun g h => ⟨(gfr g h).elim (fun q => .inl (q.elim (CSb g) (CQb g))) .inr, hN4 ▸ (rows_lt gs gq gt g h).2⟩
    have GS := hide gs
    have GQ := hide gq
    have GT := hide gt
    clear gs gq gt gfr hmv CS CQ HN hN3
    refine tk0 4 (.tuple #[.agg #[.int .i64 X.mem, .int .i64 X.own, .slice sa3 X.sh.length sc3, .int .i64 X.bu, .int .i64 X.wt, .int .i64 X.ac, .slice qa3 X.q.length qc3], .slice ta3 M.length tc3, .bool true]) rfl ?_
    refine tk0 5 (.agg #[.int .i64 X.mem, .int .i64 X.own, .slice sa3 X.sh.length sc3, .int .i64 X.bu, .int .i64 X.wt, .int .i64 X.ac, .slice qa3 X.q.length qc3]) rfl ?_
    refine tk0 6 (.slice ta3 M.length tc3) rfl ?_
    refine tk0 7 (.bool true) rfl ?_
    refine kd_skipI (i := 9) (w' := ((((((V19.setCell ⟨b3, 0, none⟩ (.int .i64 X.mem)).setCell ⟨b3, 1, none⟩ (.int .i64 X.own)).setCell ⟨b3, 2, none⟩ (.slice sa3 X.sh.length sc3)).setCell ⟨b3, 3, none⟩ (.int .i64 X.bu)).setCell ⟨b3, 4, none⟩ (.int .i64 X.wt)).setCell ⟨b3, 5, none⟩ (.int .i64 X.ac)).setCell ⟨b3, 6, none⟩ (.slice qa3 X.q.length qc3)) (fun V => Mv (fun g => g = b3) V19 V ∧ V.heap[b3]? = some (.cells #[.int .i64 X.mem, .int .i64 X.own, .slice sa3 X.sh.length sc3, .int .i64 X.bu, .int .i64 X.wt, .int .i64 X.ac, .slice qa3 X.q.length qc3] 31 (0, 0))) (by kernel_rfl) rfl (by rfl) (by have fr := fun i => frozen_of_row _ _ i _ _ bx3.out; have z0 := cell_box 0 bx3.out rfl; have z1 := cell_box 1 bx3.out rfl; have z2 := cell_box 2 bx3.out rfl; have z3 := cell_box 3 bx3.out rfl; have z4 := cell_box 4 bx3.out rfl; have z5 := cell_box 5 bx3.out rfl; have z6 := cell_box 6 bx3.out rfl; go_simp) ⟨Mv.set (Mv.set (Mv.set (Mv.set (Mv.set (Mv.set (Mv.set (Mv.refl _ _) _ _) _ _) _ _) _ _) _ _) _ _) _ _, (heap_setCell_same _ _ 6 _ _ _ (heap_setCell_same _ _ 5 _ _ _ (heap_setCell_same _ _ 4 _ _ _ (heap_setCell_same _ _ 3 _ _ _ (heap_setCell_same _ _ 2 _ _ _ (heap_setCell_same _ _ 1 _ _ _ (heap_setCell_same _ _ 0 _ _ _ (bx3.out)))))))).trans rfl⟩ (fun V hI _ => hS.step hI.1 (fun g hg h => by have h : g = b3 := h; exfalso; omega)) ?_
    rintro V20 ⟨m20, nxV20⟩
    refine ptk ?_
    replace GS := hide (GS.out.mv m20 (fun g e h => by have h : g = b3 := h; have := GNb g (.inl e); omega))
    replace GQ := hide (GQ.out.mv m20 (fun g e h => by have h : g = b3 := h; have := GNb g (.inr (.inl e)); omega))
    replace GT := hide (GT.out.mv m20 (fun g e h => by have h : g = b3 := h; have := GNb g (.inr (.inr e)); omega))
    replace bx3 := hide nxV20
    clear nxV20
    replace hS := hS.step m20 (fun g hg h => by have h : g = b3 := h; exfalso; omega)
    refine tk0 10 (.slice ta3 M.length tc3) rfl ?_
    refine tk0 11 (.bool true) rfl ?_
    refine wpAnyK_done (by kernel_rfl) ?_
    clear hS rbx0 rbx1
    refine then_normal (h4 _ _ (sk fun K11 h11 => sk fun K12 h12 => rl ?_)); clear h4 K4
    replace HB := Xhb HB m20; replace bx0 := Xbb bx0 m20; replace bx1 := Xbb bx1 m20; replace bx2 := Xbb bx2 m20
    refine sv (.bool true) ?_
    refine sg (.bool false) ?_
    refine nt (h12 _ _ (cf (wp_skip (then_normal (h11 _ _ (sk fun K13 h13 => rl ?_)))))); clear h12 K12; clear h11 K11
    refine sg (.agg #[.int .i64 X.mem, .int .i64 X.own, .slice sa3 X.sh.length sc3, .int .i64 X.bu, .int .i64 X.wt, .int .i64 X.ac, .slice qa3 X.q.length qc3]) (h := by have z0 := cell_box 0 (bx3.out) rfl; have z1 := cell_box 1 (bx3.out) rfl; have z2 := cell_box 2 (bx3.out) rfl; have z3 := cell_box 3 (bx3.out) rfl; have z4 := cell_box 4 (bx3.out) rfl; have z5 := cell_box 5 (bx3.out) rfl; have z6 := cell_box 6 (bx3.out) rfl; go_simp) ?_
    refine sv (.slice ta3 M.length tc3) ?_
    refine ss7 (.int .i64 X.mem) (.int .i64 X.own) (.slice sa3 X.sh.length sc3) (.int .i64 X.bu) (.int .i64 X.wt) (.int .i64 X.ac) (.slice qa3 X.q.length qc3) bx2 fun V21 m21 bx2 => ?_
    replace GS := hide (GS.out.mv m21 (fun g e h => by have h : g = b2 := h; have := GNb g (.inl e); omega))
    replace GQ := hide (GQ.out.mv m21 (fun g e h => by have h : g = b2 := h; have := GNb g (.inr (.inl e)); omega))
    replace GT := hide (GT.out.mv m21 (fun g e h => by have h : g = b2 := h; have := GNb g (.inr (.inr e)); omega))
    refine sv (.slice ta3 M.length tc3) ?_
    refine sv (.bool true) ?_
    refine nt (h13 _ _ (wp_ret ?_)); clear h13 K13
    replace HB := Xhb HB m21; replace bx0 := Xbb bx0 m21; replace bx1 := Xbb bx1 m21; replace bx3 := Xbb bx3 m21
    have q2_0 := cell_box 0 bx2.out rfl
    have q2_1 := cell_box 1 bx2.out rfl
    have q2_2 := cell_box 2 bx2.out rfl
    have q2_3 := cell_box 3 bx2.out rfl
    have q2_4 := cell_box 4 bx2.out rfl
    have q2_5 := cell_box 5 bx2.out rfl
    have q2_6 := cell_box 6 bx2.out rfl
    exact bodyPost_ret (v := .tuple #[.agg #[.int .i64 X.mem, .int .i64 X.own, .slice sa3 X.sh.length sc3, .int .i64 X.bu, .int .i64 X.wt, .int .i64 X.ac, .slice qa3 X.q.length qc3], .slice ta3 M.length tc3, .bool true]) (by simp [results, Tryz.results6, go_sem, q2_0, q2_1, q2_2, q2_3, q2_4, q2_5, q2_6]) rfl ⟨_, _, _, _, _, _, rfl, GS.out.base (by omega), GQ.out.base (by omega), GT.out.base (by omega), gap, HB.out.below⟩

set_option maxRecDepth 20000 in
set_option maxHeartbeats 2000000 in
theorem shgot_no (k c to l t d : Int) (L : Hm.Ln) (sa : Option Addr) (sc : Nat) (qa : Option Addr) (qc : Nat) (w : World) (hs : Sg w (.slice sa L.sh.length sc) 1 L.sh.length (gF (f1 L.sh))) (hfs : Gf (.slice sa L.sh.length sc) L.sh.length) (hq : Sg w (.slice qa L.q.length qc) 2 L.q.length (gF (f2 L.q))) (hfq : Gf (.slice qa L.q.length qc) L.q.length) (hsl : L.sh.length ≤ 1048576) (hql : L.q.length ≤ 1048576) (hlk : lok L = true) (hmk : okB k c to l t d = true) (hhm : homeB k = true) (hk : k = 1 ∨ k = 2 ∨ k = 3 ∨ k = 6 ∨ k = 7) (hc1 : 1 ≤ c) (hc5 : c ≤ 5) (hB : (Hm.gotR L k c l d).1 = false) :
    Calls Tryz.prog 6 #[.agg #[.int .i64 L.mem, .int .i64 L.own, .slice sa L.sh.length sc, .int .i64 L.bu, .int .i64 L.wt, .int .i64 L.ac, .slice qa L.q.length qc], .agg #[.int .i64 k, .int .i64 c, .int .i64 to, .int .i64 l, .int .i64 t, .int .i64 d]] w (LnP w zL [] false) := by
  have HB : Hid (Mv nob w w) := hide (Mv.refl _ _)
  have hs0 := hide hs; have hq0 := hide hq; clear hs hq
  obtain ⟨X, hX⟩ : ∃ X, (Hm.gotR L k c l d).2.1 = X := ⟨_, rfl⟩
  obtain ⟨M, hM⟩ : ∃ M, (Hm.gotR L k c l d).2.2 = M := ⟨_, rfl⟩
  have hgot : Hid (∀ (base : Nat) (sa : Option Addr) (sc : Nat) (qa : Option Addr) (qc : Nat) (w : World), Rg w base (.slice sa L.sh.length sc) 1 L.sh.length (gF (f1 L.sh)) → Rg w base (.slice qa L.q.length qc) 2 L.q.length (gF (f2 L.q)) → (∀ g, rb (.slice sa L.sh.length sc) = some g → rb (.slice qa L.q.length qc) ≠ some g) → base ≤ w.heap.size → Calls Tryz.prog 27 #[.agg #[.int .i64 L.mem, .int .i64 L.own, .slice sa L.sh.length sc, .int .i64 L.bu, .int .i64 L.wt, .int .i64 L.ac, .slice qa L.q.length qc], .agg #[.int .i64 k, .int .i64 c, .int .i64 to, .int .i64 l, .int .i64 t, .int .i64 d]] w (LnG w base (.slice sa L.sh.length sc) (.slice qa L.q.length qc) X M false)) := hide (fun base sa sc qa qc w h1 h2 h3 h4 => by rw [← hX, ← hM, ← hB]; exact l4Got_any k c to l t d base L sa sc qa qc w h1 h2 h3 h4 hlk hk hc1 hc5)
  clear hX hM
  go_enter Tryz.func6, Tryz.ntmps6
  refine sk fun K1 h1 => rl ?_
  refine sbp #[.int .i64 L.mem, .int .i64 L.own, .slice sa L.sh.length sc, .int .i64 L.bu, .int .i64 L.wt, .int .i64 L.ac, .slice qa L.q.length qc] 31 fun V1 b0 hb0 m1 bx0 => ?_
  have o_0 : w.heap.size ≤ b0 := by omega
  clear hb0
  refine sbp #[.int .i64 k, .int .i64 c, .int .i64 to, .int .i64 l, .int .i64 t, .int .i64 d] 36 fun V2 b1 hb1 m2 bx1 => ?_
  have o0_1 := Xlo bx0 hb1
  clear hb1
  refine sbp #[.int .i64 0, .int .i64 0, .slice none 0 0, .int .i64 0, .int .i64 0, .int .i64 0, .slice none 0 0] 31 fun V3 b2 hb2 m3 bx2 => ?_
  have o1_2 := Xlo bx1 hb2
  clear hb2
  refine sv (.slice none 0 0) ?_
  refine sv (.bool false) ?_
  refine nt (h1 _ _ (sk fun K2 h2 => sk fun K3 h3 => rl ?_)); clear h1 K1
  replace bx0 := Xbn (Xbn bx0 m2) m3
  refine sg (.agg #[.int .i64 L.mem, .int .i64 L.own, .slice sa L.sh.length sc, .int .i64 L.bu, .int .i64 L.wt, .int .i64 L.ac, .slice qa L.q.length qc]) (h := by have z0 := cell_box 0 (bx0.out) rfl; have z1 := cell_box 1 (bx0.out) rfl; have z2 := cell_box 2 (bx0.out) rfl; have z3 := cell_box 3 (bx0.out) rfl; have z4 := cell_box 4 (bx0.out) rfl; have z5 := cell_box 5 (bx0.out) rfl; have z6 := cell_box 6 (bx0.out) rfl; go_simp) ?_
  replace HB := Xhn (Xhn (Xhn HB m1) m2) m3
  refine sw_call (by rfl) (by first | rfl | (go_simp; done)) (specLineOk_any L.mem L.own (.slice sa L.sh.length sc) L.sh L.bu L.wt L.ac qa qc L.q.length (f2 L.q) V3 (sg_sl (hs0.out.below HB.out.below)) hsl (sg_sr (hq0.out.below HB.out.below)) hql) ?_
  rintro e V4 ⟨rfl, hbl⟩
  have m4 : Mv (nob) V3 V4 := Mv.of_below hbl
  refine ⟨_, rfl, ?_⟩
  refine pt ?_
  clear hbl
  rw [show lineB L.mem L.own L.sh L.bu L.wt L.ac L.q.length (f2 L.q) = true from hlk]
  refine sg (.bool false) ?_
  refine sv (.bool false) ?_
  replace bx1 := Xbn (Xbn bx1 m3) m4
  refine sl6 bx1 ?_
  refine sw_call (by rfl) (by first | rfl | (go_simp; done)) (specOk_any k c to l t d V4) ?_
  rintro e V5 ⟨rfl, hbl⟩
  have m5 : Mv (nob) V4 V5 := Mv.of_below hbl
  refine ⟨_, rfl, ?_⟩
  refine pt ?_
  clear hbl
  rw [hmk]
  refine sg (.bool false) ?_
  refine sg (.bool false) ?_
  refine sv (.bool false) ?_
  refine sv (.pointer (some ⟨b1, 0, none⟩)) ?_
  replace bx1 := Xbn bx1 m5
  refine sl 0 bx1 ?_
  refine sw_call (by rfl) (by first | rfl | (go_simp; done)) (core_any2 k V5 (okB_kind hmk).1 (okB_kind hmk).2) ?_
  rintro e V6 ⟨rfl, hbl⟩
  have m6 : Mv (nob) V5 V6 := Mv.of_below hbl
  refine ⟨_, rfl, ?_⟩
  refine pt ?_
  clear hbl
  rw [hhm]
  refine sg (.bool false) ?_
  refine sg (.bool false) ?_
  refine nt (h3 _ _ (cf (wp_skip (then_normal (h2 _ _ (sk fun K4 h4 => ?_)))))); clear h3 K3; clear h2 K2
  replace HB := Xhn (Xhn (Xhn HB m4) m5) m6; replace bx0 := Xbn (Xbn (Xbn bx0 m4) m5) m6; replace bx2 := Xbn (Xbn (Xbn bx2 m4) m5) m6; replace bx1 := Xbn bx1 m6
  have szR := HB.out.size
  refine wp_region_but (z := 999) (S := fun w' => Mv (fun x => False) V6.drew w') (by kernel_rfl) (Mv.refl _ _) (fun hS => ?_)
  have m7 : Mv nob V6 V6.drew := Mv.drew _
  obtain ⟨V7, hN⟩ : ∃ V, V6.drew = V := ⟨_, rfl⟩
  rw [hN] at hS m7 ⊢
  clear hN
  replace bx0 := Xbn bx0 m7; replace bx1 := Xbn bx1 m7
  have rbx0 := bx0; have rbx1 := bx1
  refine tk 0 (.agg #[.int .i64 L.mem, .int .i64 L.own, .slice sa L.sh.length sc, .int .i64 L.bu, .int .i64 L.wt, .int .i64 L.ac, .slice qa L.q.length qc]) rfl (fun w' hSw => by (try dsimp only at hSw); have z0 := cell_box 0 (hSw.box rbx0.out (fun h => h)) rfl; have z1 := cell_box 1 (hSw.box rbx0.out (fun h => h)) rfl; have z2 := cell_box 2 (hSw.box rbx0.out (fun h => h)) rfl; have z3 := cell_box 3 (hSw.box rbx0.out (fun h => h)) rfl; have z4 := cell_box 4 (hSw.box rbx0.out (fun h => h)) rfl; have z5 := cell_box 5 (hSw.box rbx0.out (fun h => h)) rfl; have z6 := cell_box 6 (hSw.box rbx0.out (fun h => h)) rfl; go_simp) ?_
  refine tk 2 (.agg #[.int .i64 k, .int .i64 c, .int .i64 to, .int .i64 l, .int .i64 t, .int .i64 d]) rfl (fun w' hSw => by (try dsimp only at hSw); have z0 := cell_box 0 (hSw.box rbx1.out (fun h => h)) rfl; have z1 := cell_box 1 (hSw.box rbx1.out (fun h => h)) rfl; have z2 := cell_box 2 (hSw.box rbx1.out (fun h => h)) rfl; have z3 := cell_box 3 (hSw.box rbx1.out (fun h => h)) rfl; have z4 := cell_box 4 (hSw.box rbx1.out (fun h => h)) rfl; have z5 := cell_box 5 (hSw.box rbx1.out (fun h => h)) rfl; go_simp) ?_
  replace HB := Xhn HB m7; replace bx2 := Xbn bx2 m7
  refine kd_each2 (l := [1, 8]) (by kernel_rfl) rfl ⟨?_, ?_, trivial⟩
  · refine .inl ?_
    have szV := HB.out.size
    have szS := hS.size
    have bnz := lt_of_block bx2.out
    obtain ⟨N0, hN0⟩ : ∃ N, V7.heap.size = N := ⟨_, rfl⟩
    refine ⟨_, rfl, by rfl, .inr ⟨_, _, _, by first | rfl | (go_simp; done), l4Copy_any L sa sc qa qc V7 (hs0.out.below HB.out.below) hfs (hq0.out.below HB.out.below) hfq hsl hql, ?_⟩⟩
    rintro e V8 ⟨sa1, sc1, qa1, qc1, rfl, hrs, hrq2, cap, hbl⟩
    have m8 : Mv (nob) V7 V8 := Mv.of_below hbl
    replace hS := hS.step m8 (fun _ _ h => h.elim)
    refine ⟨_, rfl, fun _ => hS, ?_⟩
    refine ptk ?_
    rw [hN0] at szV bnz hrs hrq2
    obtain ⟨N1, hN1⟩ : ∃ N, V8.heap.size = N := ⟨_, rfl⟩
    have CSb : ∀ g, rb (.slice sa1 L.sh.length sc1) = some g → N0 ≤ g ∧ g < N1 := fun g e => hN1 ▸ hrs.lt g e
    have CQb : ∀ g, rb (.slice qa1 L.q.length qc1) = some g → N0 ≤ g ∧ g < N1 := fun g e => hN1 ▸ hrq2.lt g e
    have CS := hide hrs
    have CQ := hide hrq2
    have h01 : N0 ≤ N1 := by have := hbl.size; omega
    have HN : Hid (N1 ≤ V8.heap.size) := hide (Nat.le_of_eq hN1.symm)
    clear hrs hrq2 hbl
    replace HB := Xhn HB m8; replace bx0 := Xbn bx0 m8; replace bx1 := Xbn bx1 m8; replace bx2 := Xbn bx2 m8
    refine kd_each2 (l := [3, 8]) (by kernel_rfl) rfl ⟨?_, ?_, trivial⟩
    · refine .inl ?_
      have bnz2 := lt_of_block bx2.out
      obtain ⟨N3, hN3⟩ : ∃ N, V8.heap.size = N := ⟨_, rfl⟩
      have h13 : N1 ≤ N3 := hN3 ▸ HN.out
      refine ⟨_, rfl, by rfl, .inr ⟨_, _, _, by first | rfl | (go_simp; done), hgot.out N0 sa1 sc1 qa1 qc1 V8 CS.out CQ.out cap (Nat.le_trans h01 HN.out), ?_⟩⟩
      rintro e V9 ⟨sa3, sc3, qa3, qc3, ta3, tc3, rfl, gs, gq, gt, gap, gfr, hmv⟩
      have m9 : Mv (fun g => rb (.slice qa1 L.q.length qc1) = some g) V8 V9 := hmv
      replace hS := hS.step m9 (fun g hg h => by have := (CQb g h).1; omega)
      refine ⟨_, rfl, fun _ => hS, ?_⟩
      refine ptk ?_
      replace HB := hide (HB.out.step m9 (fun g hg e => by have := CQb g e; omega))
      replace bx0 := hide (m9.box bx0.out (fun h => by have := CQb _ h; omega))
      replace bx1 := hide (m9.box bx1.out (fun h => by have := CQb _ h; omega))
      replace bx2 := hide (m9.box bx2.out (fun h => by have := CQb _ h; omega))
      replace HN := hide (Nat.le_trans HN.out (m9).size)
      rw [hN3] at gfr bnz2
      obtain ⟨N4, hN4⟩ : ∃ N, V9.heap.size = N := ⟨_, rfl⟩
      have GNb : ∀ g, (rb (.slice sa3 X.sh.length sc3) = some g ∨ rb (.slice qa3 X.q.length qc3) = some g ∨ rb (.slice ta3 M.length tc3) = some g) → ((N0 ≤ g ∧ g < N1) ∨ N3 ≤ g) ∧ g < N4 := fun g h => ⟨(gfr g h).elim (fun q => .inl (q.elim (CSb g) (CQb g))) .inr, hN4 ▸ (rows_lt gs gq gt g h).2⟩
      have GS := hide gs
      have GQ := hide gq
      have GT := hide gt
      clear gs gq gt gfr hmv CS CQ HN hN3
      refine tk0 4 (.tuple #[.agg #[.int .i64 X.mem, .int .i64 X.own, .slice sa3 X.sh.length sc3, .int .i64 X.bu, .int .i64 X.wt, .int .i64 X.ac, .slice qa3 X.q.length qc3], .slice ta3 M.length tc3, .bool false]) rfl ?_
      refine tk0 5 (.agg #[.int .i64 X.mem, .int .i64 X.own, .slice sa3 X.sh.length sc3, .int .i64 X.bu, .int .i64 X.wt, .int .i64 X.ac, .slice qa3 X.q.length qc3]) rfl ?_
      refine tk0 6 (.slice ta3 M.length tc3) rfl ?_
      refine tk0 7 (.bool false) rfl ?_
      refine kd_valI (i := 8) (v := .pointer (some ⟨V9.heap.size, 0, none⟩)) (w' := V9.alloc (.cells #[.int .i64 0, .int .i64 0, .slice none 0 0, .int .i64 0, .int .i64 0, .int .i64 0, .slice none 0 0] 31)) (fun V => Mv nob V9 V ∧ V.heap[V9.heap.size]? = some (.cells #[.int .i64 0, .int .i64 0, .slice none 0 0, .int .i64 0, .int .i64 0, .int .i64 0, .slice none 0 0] 31 (0, 0))) (by kernel_rfl) rfl (by rfl) (by first | rfl | go_simp) ⟨Mv.alloc _ _, heap_alloc_new _ _⟩ (fun V hI _ => hS.step hI.1 (fun _ _ h => h.elim)) ?_
      rintro V10 ⟨m10, nx⟩
      refine ptk ?_
      obtain ⟨b3, hb3⟩ : ∃ b3, V9.heap.size = b3 := ⟨_, rfl⟩
      rw [hb3] at nx ⊢
      have or_3 := Mv.le hS hb3
      have o2_3 := Xlo bx2 hb3
      have e4_b3 := hb3
      try have hn4_b3 : N1 ≤ b3 := hb3 ▸ HN.out
      replace GS := hide (GS.out.mv m10 (fun _ _ h => h))
      replace GQ := hide (GQ.out.mv m10 (fun _ _ h => h))
      replace GT := hide (GT.out.mv m10 (fun _ _ h => h))
      have bx3 := hide nx
      clear nx
      replace hS := hS.step m10 (fun _ _ h => h.elim)
      clear hb3
      refine kd_skipI (i := 9) (w' := ((((((V10.setCell ⟨b3, 0, none⟩ (.int .i64 X.mem)).setCell ⟨b3, 1, none⟩ (.int .i64 X.own)).setCell ⟨b3, 2, none⟩ (.slice sa3 X.sh.length sc3)).setCell ⟨b3, 3, none⟩ (.int .i64 X.bu)).setCell ⟨b3, 4, none⟩ (.int .i64 X.wt)).setCell ⟨b3, 5, none⟩ (.int .i64 X.ac)).setCell ⟨b3, 6, none⟩ (.slice qa3 X.q.length qc3)) (fun V => Mv (fun g => g = b3) V10 V ∧ V.heap[b3]? = some (.cells #[.int .i64 X.mem, .int .i64 X.own, .slice sa3 X.sh.length sc3, .int .i64 X.bu, .int .i64 X.wt, .int .i64 X.ac, .slice qa3 X.q.length qc3] 31 (0, 0))) (by kernel_rfl) rfl (by rfl) (by have fr := fun i => frozen_of_row _ _ i _ _ bx3.out; have z0 := cell_box 0 bx3.out rfl; have z1 := cell_box 1 bx3.out rfl; have z2 := cell_box 2 bx3.out rfl; have z3 := cell_box 3 bx3.out rfl; have z4 := cell_box 4 bx3.out rfl; have z5 := cell_box 5 bx3.out rfl; have z6 := cell_box 6 bx3.out rfl; go_simp) ⟨Mv.set (Mv.set (Mv.set (Mv.set (Mv.set (Mv.set (Mv.set (Mv.refl _ _) _ _) _ _) _ _) _ _) _ _) _ _) _ _, (heap_setCell_same _ _ 6 _ _ _ (heap_setCell_same _ _ 5 _ _ _ (heap_setCell_same _ _ 4 _ _ _ (heap_setCell_same _ _ 3 _ _ _ (heap_setCell_same _ _ 2 _ _ _ (heap_setCell_same _ _ 1 _ _ _ (heap_setCell_same _ _ 0 _ _ _ (bx3.out)))))))).trans rfl⟩ (fun V hI _ => hS.step hI.1 (fun g hg h => by have h : g = b3 := h; exfalso; omega)) ?_
      rintro V11 ⟨m11, nxV11⟩
      refine ptk ?_
      replace GS := hide (GS.out.mv m11 (fun g e h => by have h : g = b3 := h; have := GNb g (.inl e); omega))
      replace GQ := hide (GQ.out.mv m11 (fun g e h => by have h : g = b3 := h; have := GNb g (.inr (.inl e)); omega))
      replace GT := hide (GT.out.mv m11 (fun g e h => by have h : g = b3 := h; have := GNb g (.inr (.inr e)); omega))
      replace bx3 := hide nxV11
      clear nxV11
      replace hS := hS.step m11 (fun g hg h => by have h : g = b3 := h; exfalso; omega)
      refine tk0 10 (.slice ta3 M.length tc3) rfl ?_
      refine tk0 11 (.bool false) rfl ?_
      refine wpAnyK_done (by kernel_rfl) ?_
      clear hS rbx0 rbx1
      refine then_normal (h4 _ _ (sk fun K5 h5 => sk fun K6 h6 => rl ?_)); clear h4 K4
      replace HB := Xhb (Xhn HB m10) m11; replace bx0 := Xbb (Xbn bx0 m10) m11; replace bx1 := Xbb (Xbn bx1 m10) m11; replace bx2 := Xbb (Xbn bx2 m10) m11
      refine sv (.bool false) ?_
      refine sg (.bool true) ?_
      refine nt (h6 _ _ (ct (sk fun K7 h7 => rl ?_))); clear h6 K6
      refine sv (.agg #[.int .i64 0, .int .i64 0, .slice none 0 0, .int .i64 0, .int .i64 0, .int .i64 0, .slice none 0 0]) ?_
      refine ss7 (.int .i64 0) (.int .i64 0) (.slice none 0 0) (.int .i64 0) (.int .i64 0) (.int .i64 0) (.slice none 0 0) bx2 fun V12 m12 bx2 => ?_
      replace GS := hide (GS.out.mv m12 (fun g e h => by have h : g = b2 := h; have := GNb g (.inl e); omega))
      replace GQ := hide (GQ.out.mv m12 (fun g e h => by have h : g = b2 := h; have := GNb g (.inr (.inl e)); omega))
      replace GT := hide (GT.out.mv m12 (fun g e h => by have h : g = b2 := h; have := GNb g (.inr (.inr e)); omega))
      refine sv (.slice none 0 0) ?_
      refine sv (.bool false) ?_
      refine nt (h7 _ _ (wp_ret (then_ret ?_))); clear h7 K7; clear h5 K5
      replace HB := Xhb HB m12; replace bx0 := Xbb bx0 m12; replace bx1 := Xbb bx1 m12; replace bx3 := Xbb bx3 m12
      have q2_0 := cell_box 0 bx2.out rfl
      have q2_1 := cell_box 1 bx2.out rfl
      have q2_2 := cell_box 2 bx2.out rfl
      have q2_3 := cell_box 3 bx2.out rfl
      have q2_4 := cell_box 4 bx2.out rfl
      have q2_5 := cell_box 5 bx2.out rfl
      have q2_6 := cell_box 6 bx2.out rfl
      exact bodyPost_ret (v := .tuple #[.agg #[.int .i64 0, .int .i64 0, .slice none 0 0, .int .i64 0, .int .i64 0, .int .i64 0, .slice none 0 0], .slice none 0 0, .bool false]) (by simp [results, Tryz.results6, go_sem, q2_0, q2_1, q2_2, q2_3, q2_4, q2_5, q2_6]) rfl ⟨_, _, _, _, _, _, rfl, rg_nil _ _ _ _, rg_nil _ _ _ _, rg_nil _ _ _ _, zl_apt, HB.out.below⟩
    · refine .inl ?_
      refine ⟨_, rfl, by rfl, .inl ⟨.pointer (some ⟨V8.heap.size, 0, none⟩), V8.alloc (.cells #[.int .i64 0, .int .i64 0, .slice none 0 0, .int .i64 0, .int .i64 0, .int .i64 0, .slice none 0 0] 31), (by first | rfl | go_simp), fun _ => hS.step (Mv.alloc _ _) (fun _ _ h => h.elim), ?_⟩⟩
      have m13 : Mv nob V8 (V8.alloc (.cells #[.int .i64 0, .int .i64 0, .slice none 0 0, .int .i64 0, .int .i64 0, .int .i64 0, .slice none 0 0] 31)) := Mv.alloc _ _
      have nx := heap_alloc_new V8 (.cells #[.int .i64 0, .int .i64 0, .slice none 0 0, .int .i64 0, .int .i64 0, .int .i64 0, .slice none 0 0] 31)
      obtain ⟨V13, hN⟩ : ∃ V, V8.alloc (.cells #[.int .i64 0, .int .i64 0, .slice none 0 0, .int .i64 0, .int .i64 0, .int .i64 0, .slice none 0 0] 31) = V := ⟨_, rfl⟩
      rw [hN] at m13 nx ⊢
      clear hN
      refine ptk ?_
      obtain ⟨b3, hb3⟩ : ∃ b3, V8.heap.size = b3 := ⟨_, rfl⟩
      rw [hb3] at nx ⊢
      have or_3 := Mv.le hS hb3
      have o2_3 := Xlo bx2 hb3
      have e4_b3 := hb3
      try have hn4_b3 : N1 ≤ b3 := hb3 ▸ HN.out
      replace CS := hide (CS.out.mv m13 (fun _ _ h => h))
      replace CQ := hide (CQ.out.mv m13 (fun _ _ h => h))
      replace HN := hide (Nat.le_trans HN.out (m13).size)
      have bx3 := hide nx
      clear nx
      replace hS := hS.step m13 (fun _ _ h => h.elim)
      clear hb3
      have bnz2 := lt_of_block bx3.out
      obtain ⟨N3, hN3⟩ : ∃ N, V13.heap.size = N := ⟨_, rfl⟩
      have h13 : N1 ≤ N3 := hN3 ▸ HN.out
      refine kd_call (i := 3) (by kernel_rfl) rfl (by rfl) (by first | rfl | (go_simp; done)) (hgot.out N0 sa1 sc1 qa1 qc1 V13 CS.out CQ.out cap (Nat.le_trans h01 HN.out)) ?_
      rintro e V14 ⟨sa3, sc3, qa3, qc3, ta3, tc3, rfl, gs, gq, gt, gap, gfr, hmv⟩
      have m14 : Mv (fun g => rb (.slice qa1 L.q.length qc1) = some g) V13 V14 := hmv
      replace hS := hS.step m14 (fun g hg h => by have := (CQb g h).1; omega)
      refine ⟨_, rfl, fun _ => hS, ?_⟩
      refine ptk ?_
      replace HB := Xhn HB m13
      replace HB := hide (HB.out.step m14 (fun g hg e => by have := CQb g e; omega))
      replace bx0 := Xbn bx0 m13
      replace bx0 := hide (m14.box bx0.out (fun h => by have := CQb _ h; omega))
      replace bx1 := Xbn bx1 m13
      replace bx1 := hide (m14.box bx1.out (fun h => by have := CQb _ h; omega))
      replace bx2 := Xbn bx2 m13
      replace bx2 := hide (m14.box bx2.out (fun h => by have := CQb _ h; omega))
      replace HN := hide (Nat.le_trans HN.out (m14).size)
      replace bx3 := hide (m14.box bx3.out (fun h => by have := CQb _ h; omega))
      rw [hN3] at gfr bnz2
      obtain ⟨N4, hN4⟩ : ∃ N, V14.heap.size = N := ⟨_, rfl⟩
      have GNb : ∀ g, (rb (.slice sa3 X.sh.length sc3) = some g ∨ rb (.slice qa3 X.q.length qc3) = some g ∨ rb (.slice ta3 M.length tc3) = some g) → ((N0 ≤ g ∧ g < N1) ∨ N3 ≤ g) ∧ g < N4 := fun g h => ⟨(gfr g h).elim (fun q => .inl (q.elim (CSb g) (CQb g))) .inr, hN4 ▸ (rows_lt gs gq gt g h).2⟩
      have GS := hide gs
      have GQ := hide gq
      have GT := hide gt
      clear gs gq gt gfr hmv CS CQ HN hN3
      refine tk0 4 (.tuple #[.agg #[.int .i64 X.mem, .int .i64 X.own, .slice sa3 X.sh.length sc3, .int .i64 X.bu, .int .i64 X.wt, .int .i64 X.ac, .slice qa3 X.q.length qc3], .slice ta3 M.length tc3, .bool false]) rfl ?_
      refine tk0 5 (.agg #[.int .i64 X.mem, .int .i64 X.own, .slice sa3 X.sh.length sc3, .int .i64 X.bu, .int .i64 X.wt, .int .i64 X.ac, .slice qa3 X.q.length qc3]) rfl ?_
      refine tk0 6 (.slice ta3 M.length tc3) rfl ?_
      refine tk0 7 (.bool false) rfl ?_
      refine kd_skipI (i := 9) (w' := ((((((V14.setCell ⟨b3, 0, none⟩ (.int .i64 X.mem)).setCell ⟨b3, 1, none⟩ (.int .i64 X.own)).setCell ⟨b3, 2, none⟩ (.slice sa3 X.sh.length sc3)).setCell ⟨b3, 3, none⟩ (.int .i64 X.bu)).setCell ⟨b3, 4, none⟩ (.int .i64 X.wt)).setCell ⟨b3, 5, none⟩ (.int .i64 X.ac)).setCell ⟨b3, 6, none⟩ (.slice qa3 X.q.length qc3)) (fun V => Mv (fun g => g = b3) V14 V ∧ V.heap[b3]? = some (.cells #[.int .i64 X.mem, .int .i64 X.own, .slice sa3 X.sh.length sc3, .int .i64 X.bu, .int .i64 X.wt, .int .i64 X.ac, .slice qa3 X.q.length qc3] 31 (0, 0))) (by kernel_rfl) rfl (by rfl) (by have fr := fun i => frozen_of_row _ _ i _ _ bx3.out; have z0 := cell_box 0 bx3.out rfl; have z1 := cell_box 1 bx3.out rfl; have z2 := cell_box 2 bx3.out rfl; have z3 := cell_box 3 bx3.out rfl; have z4 := cell_box 4 bx3.out rfl; have z5 := cell_box 5 bx3.out rfl; have z6 := cell_box 6 bx3.out rfl; go_simp) ⟨Mv.set (Mv.set (Mv.set (Mv.set (Mv.set (Mv.set (Mv.set (Mv.refl _ _) _ _) _ _) _ _) _ _) _ _) _ _) _ _, (heap_setCell_same _ _ 6 _ _ _ (heap_setCell_same _ _ 5 _ _ _ (heap_setCell_same _ _ 4 _ _ _ (heap_setCell_same _ _ 3 _ _ _ (heap_setCell_same _ _ 2 _ _ _ (heap_setCell_same _ _ 1 _ _ _ (heap_setCell_same _ _ 0 _ _ _ (bx3.out)))))))).trans rfl⟩ (fun V hI _ => hS.step hI.1 (fun g hg h => by have h : g = b3 := h; exfalso; omega)) ?_
      rintro V15 ⟨m15, nxV15⟩
      refine ptk ?_
      replace GS := hide (GS.out.mv m15 (fun g e h => by have h : g = b3 := h; have := GNb g (.inl e); omega))
      replace GQ := hide (GQ.out.mv m15 (fun g e h => by have h : g = b3 := h; have := GNb g (.inr (.inl e)); omega))
      replace GT := hide (GT.out.mv m15 (fun g e h => by have h : g = b3 := h; have := GNb g (.inr (.inr e)); omega))
      replace bx3 := hide nxV15
      clear nxV15
      replace hS := hS.step m15 (fun g hg h => by have h : g = b3 := h; exfalso; omega)
      refine tk0 10 (.slice ta3 M.length tc3) rfl ?_
      refine tk0 11 (.bool false) rfl ?_
      refine wpAnyK_done (by kernel_rfl) ?_
      clear hS rbx0 rbx1
      refine then_normal (h4 _ _ (sk fun K8 h8 => sk fun K9 h9 => rl ?_)); clear h4 K4
      replace HB := Xhb HB m15; replace bx0 := Xbb bx0 m15; replace bx1 := Xbb bx1 m15; replace bx2 := Xbb bx2 m15
      refine sv (.bool false) ?_
      refine sg (.bool true) ?_
      refine nt (h9 _ _ (ct (sk fun K10 h10 => rl ?_))); clear h9 K9
      refine sv (.agg #[.int .i64 0, .int .i64 0, .slice none 0 0, .int .i64 0, .int .i64 0, .int .i64 0, .slice none 0 0]) ?_
      refine ss7 (.int .i64 0) (.int .i64 0) (.slice none 0 0) (.int .i64 0) (.int .i64 0) (.int .i64 0) (.slice none 0 0) bx2 fun V16 m16 bx2 => ?_
      replace GS := hide (GS.out.mv m16 (fun g e h => by have h : g = b2 := h; have := GNb g (.inl e); omega))
      replace GQ := hide (GQ.out.mv m16 (fun g e h => by have h : g = b2 := h; have := GNb g (.inr (.inl e)); omega))
      replace GT := hide (GT.out.mv m16 (fun g e h => by have h : g = b2 := h; have := GNb g (.inr (.inr e)); omega))
      refine sv (.slice none 0 0) ?_
      refine sv (.bool false) ?_
      refine nt (h10 _ _ (wp_ret (then_ret ?_))); clear h10 K10; clear h8 K8
      replace HB := Xhb HB m16; replace bx0 := Xbb bx0 m16; replace bx1 := Xbb bx1 m16; replace bx3 := Xbb bx3 m16
      have q2_0 := cell_box 0 bx2.out rfl
      have q2_1 := cell_box 1 bx2.out rfl
      have q2_2 := cell_box 2 bx2.out rfl
      have q2_3 := cell_box 3 bx2.out rfl
      have q2_4 := cell_box 4 bx2.out rfl
      have q2_5 := cell_box 5 bx2.out rfl
      have q2_6 := cell_box 6 bx2.out rfl
      exact bodyPost_ret (v := .tuple #[.agg #[.int .i64 0, .int .i64 0, .slice none 0 0, .int .i64 0, .int .i64 0, .int .i64 0, .slice none 0 0], .slice none 0 0, .bool false]) (by simp [results, Tryz.results6, go_sem, q2_0, q2_1, q2_2, q2_3, q2_4, q2_5, q2_6]) rfl ⟨_, _, _, _, _, _, rfl, rg_nil _ _ _ _, rg_nil _ _ _ _, rg_nil _ _ _ _, zl_apt, HB.out.below⟩
  · refine .inl ?_
    refine ⟨_, rfl, by rfl, .inl ⟨.pointer (some ⟨V7.heap.size, 0, none⟩), V7.alloc (.cells #[.int .i64 0, .int .i64 0, .slice none 0 0, .int .i64 0, .int .i64 0, .int .i64 0, .slice none 0 0] 31), (by first | rfl | go_simp), fun _ => hS.step (Mv.alloc _ _) (fun _ _ h => h.elim), ?_⟩⟩
    have m17 : Mv nob V7 (V7.alloc (.cells #[.int .i64 0, .int .i64 0, .slice none 0 0, .int .i64 0, .int .i64 0, .int .i64 0, .slice none 0 0] 31)) := Mv.alloc _ _
    have nx := heap_alloc_new V7 (.cells #[.int .i64 0, .int .i64 0, .slice none 0 0, .int .i64 0, .int .i64 0, .int .i64 0, .slice none 0 0] 31)
    obtain ⟨V17, hN⟩ : ∃ V, V7.alloc (.cells #[.int .i64 0, .int .i64 0, .slice none 0 0, .int .i64 0, .int .i64 0, .int .i64 0, .slice none 0 0] 31) = V := ⟨_, rfl⟩
    rw [hN] at m17 nx ⊢
    clear hN
    refine ptk ?_
    obtain ⟨b3, hb3⟩ : ∃ b3, V7.heap.size = b3 := ⟨_, rfl⟩
    rw [hb3] at nx ⊢
    have or_3 := Mv.le hS hb3
    have o2_3 := Xlo bx2 hb3
    have e4_b3 := hb3
    try have hn4_b3 : N1 ≤ b3 := hb3 ▸ HN.out
    have bx3 := hide nx
    clear nx
    replace hS := hS.step m17 (fun _ _ h => h.elim)
    clear hb3
    replace HB := Xhn HB m17
    have szV := HB.out.size
    have szS := hS.size
    have bnz := lt_of_block bx3.out
    obtain ⟨N0, hN0⟩ : ∃ N, V17.heap.size = N := ⟨_, rfl⟩
    refine kd_call (i := 1) (by kernel_rfl) rfl (by rfl) (by first | rfl | (go_simp; done)) (l4Copy_any L sa sc qa qc V17 (hs0.out.below HB.out.below) hfs (hq0.out.below HB.out.below) hfq hsl hql) ?_
    rintro e V18 ⟨sa1, sc1, qa1, qc1, rfl, hrs, hrq2, cap, hbl⟩
    have m18 : Mv (nob) V17 V18 := Mv.of_below hbl
    replace hS := hS.step m18 (fun _ _ h => h.elim)
    refine ⟨_, rfl, fun _ => hS, ?_⟩
    refine ptk ?_
    rw [hN0] at szV bnz hrs hrq2
    obtain ⟨N1, hN1⟩ : ∃ N, V18.heap.size = N := ⟨_, rfl⟩
    have CSb : ∀ g, rb (.slice sa1 L.sh.length sc1) = some g → N0 ≤ g ∧ g < N1 := fun g e => hN1 ▸ hrs.lt g e
    have CQb : ∀ g, rb (.slice qa1 L.q.length qc1) = some g → N0 ≤ g ∧ g < N1 := fun g e => hN1 ▸ hrq2.lt g e
    have CS := hide hrs
    have CQ := hide hrq2
    have h01 : N0 ≤ N1 := by have := hbl.size; omega
    have HN : Hid (N1 ≤ V18.heap.size) := hide (Nat.le_of_eq hN1.symm)
    clear hrs hrq2 hbl
    replace bx3 := Xbn bx3 m18
    have bnz2 := lt_of_block bx3.out
    obtain ⟨N3, hN3⟩ : ∃ N, V18.heap.size = N := ⟨_, rfl⟩
    have h13 : N1 ≤ N3 := hN3 ▸ HN.out
    refine kd_call (i := 3) (by kernel_rfl) rfl (by rfl) (by first | rfl | (go_simp; done)) (hgot.out N0 sa1 sc1 qa1 qc1 V18 CS.out CQ.out cap (Nat.le_trans h01 HN.out)) ?_
    rintro e V19 ⟨sa3, sc3, qa3, qc3, ta3, tc3, rfl, gs, gq, gt, gap, gfr, hmv⟩
    have m19 : Mv (fun g => rb (.slice qa1 L.q.length qc1) = some g) V18 V19 := hmv
    replace hS := hS.step m19 (fun g hg h => by have := (CQb g h).1; omega)
    refine ⟨_, rfl, fun _ => hS, ?_⟩
    refine ptk ?_
    replace HB := Xhn HB m18
    replace HB := hide (HB.out.step m19 (fun g hg e => by have := CQb g e; omega))
    replace bx0 := Xbn (Xbn bx0 m17) m18
    replace bx0 := hide (m19.box bx0.out (fun h => by have := CQb _ h; omega))
    replace bx1 := Xbn (Xbn bx1 m17) m18
    replace bx1 := hide (m19.box bx1.out (fun h => by have := CQb _ h; omega))
    replace bx2 := Xbn (Xbn bx2 m17) m18
    replace bx2 := hide (m19.box bx2.out (fun h => by have := CQb _ h; omega))
    replace bx3 := hide (m19.box bx3.out (fun h => by have := CQb _ h; omega))
    replace HN := hide (Nat.le_trans HN.out (m19).size)
    rw [hN3] at gfr bnz2
    obtain ⟨N4, hN4⟩ : ∃ N, V19.heap.size = N := ⟨_, rfl⟩
    have GNb : ∀ g, (rb (.slice sa3 X.sh.length sc3) = some g ∨ rb (.slice qa3 X.q.length qc3) = some g ∨ rb (.slice ta3 M.length tc3) = some g) → ((N0 ≤ g ∧ g < N1) ∨ N3 ≤ g) ∧ g < N4 := fun g h => ⟨(gfr g h).elim (fun q => .inl (q.elim (CSb g) (CQb g))) .inr, hN4 ▸ (rows_lt gs gq gt g h).2⟩
    have GS := hide gs
    have GQ := hide gq
    have GT := hide gt
    clear gs gq gt gfr hmv CS CQ HN hN3
    refine tk0 4 (.tuple #[.agg #[.int .i64 X.mem, .int .i64 X.own, .slice sa3 X.sh.length sc3, .int .i64 X.bu, .int .i64 X.wt, .int .i64 X.ac, .slice qa3 X.q.length qc3], .slice ta3 M.length tc3, .bool false]) rfl ?_
    refine tk0 5 (.agg #[.int .i64 X.mem, .int .i64 X.own, .slice sa3 X.sh.length sc3, .int .i64 X.bu, .int .i64 X.wt, .int .i64 X.ac, .slice qa3 X.q.length qc3]) rfl ?_
    refine tk0 6 (.slice ta3 M.length tc3) rfl ?_
    refine tk0 7 (.bool false) rfl ?_
    refine kd_skipI (i := 9) (w' := ((((((V19.setCell ⟨b3, 0, none⟩ (.int .i64 X.mem)).setCell ⟨b3, 1, none⟩ (.int .i64 X.own)).setCell ⟨b3, 2, none⟩ (.slice sa3 X.sh.length sc3)).setCell ⟨b3, 3, none⟩ (.int .i64 X.bu)).setCell ⟨b3, 4, none⟩ (.int .i64 X.wt)).setCell ⟨b3, 5, none⟩ (.int .i64 X.ac)).setCell ⟨b3, 6, none⟩ (.slice qa3 X.q.length qc3)) (fun V => Mv (fun g => g = b3) V19 V ∧ V.heap[b3]? = some (.cells #[.int .i64 X.mem, .int .i64 X.own, .slice sa3 X.sh.length sc3, .int .i64 X.bu, .int .i64 X.wt, .int .i64 X.ac, .slice qa3 X.q.length qc3] 31 (0, 0))) (by kernel_rfl) rfl (by rfl) (by have fr := fun i => frozen_of_row _ _ i _ _ bx3.out; have z0 := cell_box 0 bx3.out rfl; have z1 := cell_box 1 bx3.out rfl; have z2 := cell_box 2 bx3.out rfl; have z3 := cell_box 3 bx3.out rfl; have z4 := cell_box 4 bx3.out rfl; have z5 := cell_box 5 bx3.out rfl; have z6 := cell_box 6 bx3.out rfl; go_simp) ⟨Mv.set (Mv.set (Mv.set (Mv.set (Mv.set (Mv.set (Mv.set (Mv.refl _ _) _ _) _ _) _ _) _ _) _ _) _ _) _ _, (heap_setCell_same _ _ 6 _ _ _ (heap_setCell_same _ _ 5 _ _ _ (heap_setCell_same _ _ 4 _ _ _ (heap_setCell_same _ _ 3 _ _ _ (heap_setCell_same _ _ 2 _ _ _ (heap_setCell_same _ _ 1 _ _ _ (heap_setCell_same _ _ 0 _ _ _ (bx3.out)))))))).trans rfl⟩ (fun V hI _ => hS.step hI.1 (fun g hg h => by have h : g = b3 := h; exfalso; omega)) ?_
    rintro V20 ⟨m20, nxV20⟩
    refine ptk ?_
    replace GS := hide (GS.out.mv m20 (fun g e h => by have h : g = b3 := h; have := GNb g (.inl e); omega))
    replace GQ := hide (GQ.out.mv m20 (fun g e h => by have h : g = b3 := h; have := GNb g (.inr (.inl e)); omega))
    replace GT := hide (GT.out.mv m20 (fun g e h => by have h : g = b3 := h; have := GNb g (.inr (.inr e)); omega))
    replace bx3 := hide nxV20
    clear nxV20
    replace hS := hS.step m20 (fun g hg h => by have h : g = b3 := h; exfalso; omega)
    refine tk0 10 (.slice ta3 M.length tc3) rfl ?_
    refine tk0 11 (.bool false) rfl ?_
    refine wpAnyK_done (by kernel_rfl) ?_
    clear hS rbx0 rbx1
    refine then_normal (h4 _ _ (sk fun K11 h11 => sk fun K12 h12 => rl ?_)); clear h4 K4
    replace HB := Xhb HB m20; replace bx0 := Xbb bx0 m20; replace bx1 := Xbb bx1 m20; replace bx2 := Xbb bx2 m20
    refine sv (.bool false) ?_
    refine sg (.bool true) ?_
    refine nt (h12 _ _ (ct (sk fun K13 h13 => rl ?_))); clear h12 K12
    refine sv (.agg #[.int .i64 0, .int .i64 0, .slice none 0 0, .int .i64 0, .int .i64 0, .int .i64 0, .slice none 0 0]) ?_
    refine ss7 (.int .i64 0) (.int .i64 0) (.slice none 0 0) (.int .i64 0) (.int .i64 0) (.int .i64 0) (.slice none 0 0) bx2 fun V21 m21 bx2 => ?_
    replace GS := hide (GS.out.mv m21 (fun g e h => by have h : g = b2 := h; have := GNb g (.inl e); omega))
    replace GQ := hide (GQ.out.mv m21 (fun g e h => by have h : g = b2 := h; have := GNb g (.inr (.inl e)); omega))
    replace GT := hide (GT.out.mv m21 (fun g e h => by have h : g = b2 := h; have := GNb g (.inr (.inr e)); omega))
    refine sv (.slice none 0 0) ?_
    refine sv (.bool false) ?_
    refine nt (h13 _ _ (wp_ret (then_ret ?_))); clear h13 K13; clear h11 K11
    replace HB := Xhb HB m21; replace bx0 := Xbb bx0 m21; replace bx1 := Xbb bx1 m21; replace bx3 := Xbb bx3 m21
    have q2_0 := cell_box 0 bx2.out rfl
    have q2_1 := cell_box 1 bx2.out rfl
    have q2_2 := cell_box 2 bx2.out rfl
    have q2_3 := cell_box 3 bx2.out rfl
    have q2_4 := cell_box 4 bx2.out rfl
    have q2_5 := cell_box 5 bx2.out rfl
    have q2_6 := cell_box 6 bx2.out rfl
    exact bodyPost_ret (v := .tuple #[.agg #[.int .i64 0, .int .i64 0, .slice none 0 0, .int .i64 0, .int .i64 0, .int .i64 0, .slice none 0 0], .slice none 0 0, .bool false]) (by simp [results, Tryz.results6, go_sem, q2_0, q2_1, q2_2, q2_3, q2_4, q2_5, q2_6]) rfl ⟨_, _, _, _, _, _, rfl, rg_nil _ _ _ _, rg_nil _ _ _ _, rg_nil _ _ _ _, zl_apt, HB.out.below⟩

theorem specHomeGot_any (k c to l t d : Int) (L : Hm.Ln) (sa : Option Addr) (sc : Nat) (qa : Option Addr) (qc : Nat) (w : World) (hs : Sg w (.slice sa L.sh.length sc) 1 L.sh.length (gF (f1 L.sh))) (hfs : Gf (.slice sa L.sh.length sc) L.sh.length) (hq : Sg w (.slice qa L.q.length qc) 2 L.q.length (gF (f2 L.q))) (hfq : Gf (.slice qa L.q.length qc) L.q.length) (hsl : L.sh.length ≤ 1048576) (hql : L.q.length ≤ 1048576) :
    Calls Tryz.prog 6 #[.agg #[.int .i64 L.mem, .int .i64 L.own, .slice sa L.sh.length sc, .int .i64 L.bu, .int .i64 L.wt, .int .i64 L.ac, .slice qa L.q.length qc], .agg #[.int .i64 k, .int .i64 c, .int .i64 to, .int .i64 l, .int .i64 t, .int .i64 d]] w (LnP w (hgL L k c to l t d) (hgM L k c to l t d) (hgB L k c to l t d)) := by
  cases hlk : lok L with
  | false =>
    have hB2 : hgB L k c to l t d = false := by simp [hgB, hlk]
    rw [show hgL L k c to l t d = zL from by simp [hgL, hB2], show hgM L k c to l t d = [] from by simp [hgM, hB2], hB2]
    exact shgot_lok k c to l t d L sa sc qa qc w hs hfs hq hfq hsl hql hlk
  | true =>
    cases hmk : okB k c to l t d with
    | false =>
      have hB2 : hgB L k c to l t d = false := by simp [hgB, hlk, hmk]
      rw [show hgL L k c to l t d = zL from by simp [hgL, hB2], show hgM L k c to l t d = [] from by simp [hgM, hB2], hB2]
      exact shgot_msg k c to l t d L sa sc qa qc w hs hfs hq hfq hsl hql hlk hmk
    | true =>
      rcases ok_kind hmk with ⟨hh, hk, hc1, hc5⟩ | ⟨hh, hc0⟩
      · cases hB : (Hm.gotR L k c l d).1 with
        | true =>
          have hB2 : hgB L k c to l t d = true := by simp [hgB, hlk, hmk, hh, hB]
          rw [show hgL L k c to l t d = (Hm.gotR L k c l d).2.1 from by simp [hgL, hB2], show hgM L k c to l t d = (Hm.gotR L k c l d).2.2 from by simp [hgM, hB2], hB2]
          exact shgot_yes k c to l t d L sa sc qa qc w hs hfs hq hfq hsl hql hlk hmk hh hk hc1 hc5 hB
        | false =>
          have hB2 : hgB L k c to l t d = false := by simp [hgB, hlk, hmk, hh, hB]
          rw [show hgL L k c to l t d = zL from by simp [hgL, hB2], show hgM L k c to l t d = [] from by simp [hgM, hB2], hB2]
          exact shgot_no k c to l t d L sa sc qa qc w hs hfs hq hfq hsl hql hlk hmk hh hk hc1 hc5 hB
      · skip
        have hB2 : hgB L k c to l t d = false := by simp [hgB, hlk, hmk, hh]
        rw [show hgL L k c to l t d = zL from by simp [hgL, hB2], show hgM L k c to l t d = [] from by simp [hgM, hB2], hB2]
        exact shgot_home k c to l t d L sa sc qa qc w hs hfs hq hfq hsl hql hlk hmk hh
end Go.Proofs.YtlalldlbgnlbjaaGreatDoor
