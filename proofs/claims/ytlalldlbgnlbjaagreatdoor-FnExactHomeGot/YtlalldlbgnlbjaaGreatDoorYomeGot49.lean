/- HnE -/
import Derived.Test.YtlalldlbgnlbjaaGreatDoorYomeGot48
import Derived.Test.YtlalldlbgnlbjaaGreatDoorYomeGot29
/- the model of a home: who waits, what is begun next (written by mkHnE.py) -/
namespace Go.Proofs.YtlalldlbgnlbjaaGreatDoor
open Go.RowKit
set_option linter.unusedVariables false
set_option linter.unusedSimpArgs false

theorem app_msgs (W : World) (base : Nat) (v : Value) (ms M : List Hm.Mg) (ua : Option Addr) (uc : Nat) (ty : TypeId) (hr : Rg W base v 6 ms.length (gF (f6 ms))) (hu : Sg W (.slice ua M.length uc) 6 M.length (gF (f6 M))) (hn : ms.length ≤ 1048576) (hm : M.length ≤ 1048576) (hb : base ≤ W.heap.size) :
    ∃ va vk w', (Builtin.append_ #[32, 32] ty #[v, .slice ua M.length uc]).run Tryz.prog W = .ok (.slice va (ms.length + M.length) vk) w' ∧ W.grownBy w' (rb v) ∧ Rg w' base (.slice va (ms.length + M.length) vk) 6 (ms.length + M.length) (gF (f6 (ms ++ M))) ∧ (∀ x, rb (.slice va (ms.length + M.length) vk) = some x → rb v = some x ∨ W.heap.size ≤ x) := by
  obtain ⟨i0, hi, hz0, hz1, hz2⟩ := info_parts infoMsgB
  by_cases h0 : M.length = 0
  · obtain rfl : M = [] := List.eq_nil_of_length_eq_zero h0
    obtain ⟨va, vk, rfl, hnk⟩ := hr.form
    refine ⟨va, vk, W, append_zero W _ _ _ i0 Tryz.underlying32 hi va ua ms.length vk uc hnk, ⟨rfl, rfl, rfl, Nat.le_refl _, fun _ _ _ => rfl⟩, by rw [List.append_nil]; exact hr, fun x h => .inl h⟩
  · obtain ⟨ua2, uc2, e, hc⟩ := hu
    simp only [Value.slice.injEq] at e
    obtain ⟨rfl, _, rfl⟩ := e
    obtain ⟨b, off, rfl, hcc⟩ := hc (by omega)
    clear hc
    have hsg : Sg W (.slice (some ⟨b, off, none⟩) M.length uc) 6 M.length (gF (f6 M)) := ⟨_, _, rfl, fun _ => ⟨b, off, rfl, hcc⟩⟩
    obtain ⟨g, o2, k, w', h1, h2, h3, h4, _⟩ := append_rg W base v 6 ms.length M.length 48 (gF (f6 ms)) 32 ty 36 i0 (.agg #[.int .i64 0, .int .i64 0, .int .i64 0, .int .i64 0, .int .i64 0, .int .i64 0]) Tryz.underlying32 hi hz0 hz1 hz2 rfl (by decide) ⟨b, off, none⟩ uc (rowG 6 M.length (gF (f6 M))) (rowG_len _ _ _) (Rg.news (by decide) hsg) (fun u hu => by obtain ⟨x, _, rfl⟩ := List.mem_map.1 hu; rfl) (by omega) hr (by unfold maxLen; omega) (by omega) hb
    refine ⟨_, k, w', h1, h2, h3.congr (by decide) (fun j hj i hi => ?_), fun x h => ?_⟩
    · unfold snG
      by_cases hl : j < ms.length
      · simp only [if_pos hl, gF, f6]
        rw [getD_app_l hl]
      · have hx : (j - ms.length) * 6 + i < M.length * 6 := by omega
        simp only [if_neg hl]
        rw [List.getD_eq_getElem?_getD, rowG_get hx, Option.getD_some, show ((j - ms.length) * 6 + i) / 6 = j - ms.length by omega, show ((j - ms.length) * 6 + i) % 6 = i by omega]
        simp only [gF, f6]
        rw [List.getD_eq_getElem?_getD (l := ms ++ M), List.getElem?_append_right (by omega), ← List.getD_eq_getElem?_getD]
    · have e := rb_blk h
      subst e
      exact h4

set_option maxRecDepth 20000 in
set_option maxHeartbeats 2000000 in
theorem l4Waits_any (L : Hm.Ln) (c : Int) (sa : Option Addr) (sc : Nat) (qa : Option Addr) (qc : Nat) (w : World) (hq : Sg w (.slice qa L.q.length qc) 2 L.q.length (gF (f2 L.q))) (hn : L.q.length ≤ 1048576) :
    Calls Tryz.prog 61 #[.agg #[.int .i64 L.mem, .int .i64 L.own, .slice sa L.sh.length sc, .int .i64 L.bu, .int .i64 L.wt, .int .i64 L.ac, .slice qa L.q.length qc], .int .i64 c] w (fun e w' => e = .returned (.bool ((L.q.any fun r => r.1 == c) || (L.bu == c))) ∧ Below w.heap.size w w') := by
  have hq0 := hide hq; clear hq
  have HB : Hid (Mv nob w w) := hide (Mv.refl _ _)
  go_enter Tryz.func61, Tryz.ntmps61
  refine sk fun K1 h1 => rl ?_
  refine sbp #[.int .i64 L.mem, .int .i64 L.own, .slice sa L.sh.length sc, .int .i64 L.bu, .int .i64 L.wt, .int .i64 L.ac, .slice qa L.q.length qc] 31 fun V1 b0 hb0 m1 bx0 => ?_
  have o_0 : w.heap.size ≤ b0 := by omega
  clear hb0
  refine sv (.bool false) ?_
  refine nt (h1 _ _ (sk fun K2 h2 => sk fun K3 h3 => rl ?_)); clear h1 K1
  refine sv (.int .i64 0) ?_
  refine nt (h3 _ _ (wp_block ?_)); clear h3 K3
  replace HB := Xhn HB m1
  refine wp_loop_ghost (fun m a' w' => ∃ (j : Nat) (u6 : Value) (u7 : Value) (u8 : Value) (u9 : Value) (u10 : Value) (u11 : Value) (u12 : Value) (u13 : Value) (u14 : Value) (u15 : Value) (u16 : Value) (u17 : Value) (u18 : Value) (u19 : Value) (u20 : Value), m = L.q.length - j + 1 ∧ a' = ⟨#[.agg #[.int .i64 L.mem, .int .i64 L.own, .slice sa L.sh.length sc, .int .i64 L.bu, .int .i64 L.wt, .int .i64 L.ac, .slice qa L.q.length qc], .int .i64 c, .pointer (some ⟨b0, 0, none⟩), undef, .bool false, .int .i64 (j : Int), u6, u7, u8, u9, u10, u11, u12, u13, u14, u15, u16, u17, u18, u19, u20, undef, undef, undef, undef], []⟩ ∧ (Mv nob w w') ∧ ((∀ i, i < j → ¬ (L.q.getD i (0, 0)).1 = c) ∧ j ≤ L.q.length) ∧ (w'.heap[b0]? = some (.cells #[.int .i64 L.mem, .int .i64 L.own, .slice sa L.sh.length sc, .int .i64 L.bu, .int .i64 L.wt, .int .i64 L.ac, .slice qa L.q.length qc] 31 (0, 0)))) (L.q.length - 0 + 1) ⟨0, _, _, _, _, _, _, _, _, _, _, _, _, _, _, _, rfl, rfl, (HB.out), (⟨fun i hi => absurd hi (Nat.not_lt_zero i), Nat.zero_le _⟩), (bx0.out)⟩ (fun m a' VL1 hI => ?_)
  obtain ⟨j, u6, u7, u8, u9, u10, u11, u12, u13, u14, u15, u16, u17, u18, u19, u20, rfl, rfl, i_HB, i_NO, i_bx0⟩ := hI
  clear HB bx0
  have HB := hide i_HB
  clear i_HB
  have NO := hide i_NO
  clear i_NO
  have bx0 := hide i_bx0
  clear i_bx0
  refine sk fun K4 h4 => sk fun K5 h5 => rl ?_
  by_cases hlt : j < L.q.length
  · refine sv (.int .i64 (j : Int)) ?_
    refine sv (.pointer (some ⟨b0, 6, none⟩)) ?_
    refine sl 6 bx0 ?_
    refine sg (.int .i64 (L.q.length : Int)) ?_
    refine sg (.bool true) (h := by have hd : decide (j < L.q.length) = true := decide_eq_true (by omega); have hd2 : decide ((j : Int) < (L.q.length : Int)) = true := decide_eq_true (by omega); go_simp) ?_
    refine nt (h5 _ _ (ct (wp_skip (then_normal (h4 _ _ (sk fun K6 h6 => wp_block (sk fun K7 h7 => rl ?_))))))); clear h5 K5; clear h4 K4
    obtain ⟨x, hx⟩ : ∃ x, (L.q.getD j (0, 0)).1 = x := ⟨_, rfl⟩
    obtain ⟨ad0, cp0, e0, hcell⟩ := hq0.out.below HB.out.below
    obtain ⟨g0, o0, e1, hcell⟩ := hcell (by omega)
    obtain rfl : qa = some ⟨g0, o0, none⟩ := by rw [← e1]; simp only [Value.slice.injEq] at e0; exact e0.1
    have z0 : VL1.cell? ⟨g0, o0 + j * 2, none⟩ = some (.int .i64 x) := by have := hcell j hlt 0 (by decide); rw [Nat.add_zero] at this; rw [← hx]; exact this
    clear hcell e0 e1
    by_cases hc : x = c
    · have hxc : (x == c) = true := by simpa using hc
      have hxh := hide hxc; clear hxc
      refine sv (.pointer (some ⟨b0, 6, none⟩)) ?_
      refine sl 6 bx0 ?_
      refine sv (.int .i64 (j : Int)) ?_
      refine sg (.pointer (some ⟨g0, o0 + j * 2, none⟩)) (h := by have h1 : (j : Int) < (L.q.length : Int) := (by omega); go_simp) ?_
      refine sv (.pointer (some ⟨g0, o0 + j * 2, none⟩)) ?_
      refine sg (.int .i64 x) (h := by have y0 := z0; go_simp) ?_
      refine sv (.int .i64 c) ?_
      refine sg (.bool true) (h := by have hd := hxh.out; go_simp) ?_
      refine nt (h7 _ _ (ct (sk fun K8 h8 => rl ?_))); clear h7 K7
      refine sv (.bool true) ?_
      refine nt (h8 _ _ (wp_ret (inb_ret (then_ret (then_ret (inb_ret (then_ret ?_))))))); clear h8 K8; clear h6 K6; clear h2 K2
      exact bodyPost_ret (v := .bool true) (by simp [results, Tryz.results61, go_sem]) rfl ⟨(by rw [any_yes hlt (hx.trans hc)]; simp), HB.out.below⟩
    · have hxc : (x == c) = false := by simpa using hc
      have hxh := hide hxc; clear hxc
      refine sv (.pointer (some ⟨b0, 6, none⟩)) ?_
      refine sl 6 bx0 ?_
      refine sv (.int .i64 (j : Int)) ?_
      refine sg (.pointer (some ⟨g0, o0 + j * 2, none⟩)) (h := by have h1 : (j : Int) < (L.q.length : Int) := (by omega); go_simp) ?_
      refine sv (.pointer (some ⟨g0, o0 + j * 2, none⟩)) ?_
      refine sg (.int .i64 x) (h := by have y0 := z0; go_simp) ?_
      refine sv (.int .i64 c) ?_
      refine sg (.bool false) (h := by have hd := hxh.out; go_simp) ?_
      refine nt (h7 _ _ (cf (wp_skip (inb_norm (then_normal (h6 _ _ (rl ?_))))))); clear h7 K7; clear h6 K6
      refine sv (.int .i64 (j : Int)) ?_
      refine sg (.int .i64 ((j + 1 : Nat) : Int)) (h := by have hw : IntKind.i64.wrap ((j : Int) + 1) = ((j + 1 : Nat) : Int) := (by rw [i64wrap (by omega)]; omega); go_simp) ?_
      refine sv (.int .i64 ((j + 1 : Nat) : Int)) ?_
      refine wpList_nil (then_normal ?_)
      have EN : (∀ i, i < j + 1 → ¬ (L.q.getD i (0, 0)).1 = c) ∧ j + 1 ≤ L.q.length := ⟨fun i hi => by by_cases e : i = j; (subst e; rw [hx]; exact hc); exact NO.out.1 i (by omega), hlt⟩
      exact ⟨(L.q.length - (j + 1) + 1), (by omega), (j + 1), _, _, _, _, _, _, _, _, _, _, _, _, _, _, _, rfl, rfl, (HB.out), (EN), (bx0.out)⟩
  · have NOj := NO.out.2
    refine sv (.int .i64 (j : Int)) ?_
    refine sv (.pointer (some ⟨b0, 6, none⟩)) ?_
    refine sl 6 bx0 ?_
    refine sg (.int .i64 (L.q.length : Int)) ?_
    refine sg (.bool false) (h := by have hd : decide (j < L.q.length) = false := decide_eq_false (by omega); have hd2 : decide ((j : Int) < (L.q.length : Int)) = false := decide_eq_false (by omega); go_simp) ?_
    refine nt (h5 _ _ (cf (wp_exit (then_exit (then_exit (inb_here rfl (then_normal (h2 _ _ (sk fun K9 h9 => rl ?_))))))))); clear h5 K5; clear h4 K4; clear h2 K2
    obtain ⟨B, hB⟩ : ∃ B, (L.bu == c) = B := ⟨_, rfl⟩
    refine sv (.pointer (some ⟨b0, 3, none⟩)) ?_
    refine sl 3 bx0 ?_
    refine sv (.int .i64 c) ?_
    refine sg (.bool B) (h := by have hd := hB; go_simp) ?_
    refine sv (.bool B) ?_
    refine nt (h9 _ _ (wp_ret ?_)); clear h9 K9
    exact bodyPost_ret (v := .bool B) (by simp [results, Tryz.results61, go_sem]) rfl ⟨(by rw [any_no NO.out.1 (by have := NO.out.2; omega), hB]; simp), HB.out.below⟩

theorem nextX {line c t : Int} {L : Hm.Ln} {q2 : List (Int × Int)} {ms : List Hm.Mg} {R : Bool × Hm.Ln × List Hm.Mg} (hb : L.bu = 0) (hq : L.q = (c, t) :: q2) (hgd : Gd L) (hR : Hm.nextR line L.q L ms = R) :
    ∃ X M B, (∀ (base : Nat) (sa : Option Addr) (sc : Nat) (qa : Option Addr) (qc : Nat) (w : World), Rg w base (.slice sa L.sh.length sc) 1 L.sh.length (gF (f1 L.sh)) → Rg w base (.slice qa q2.length qc) 2 q2.length (gF (f2 q2)) → (∀ g, rb (.slice sa L.sh.length sc) = some g → rb (.slice qa q2.length qc) ≠ some g) → base ≤ w.heap.size →
      Calls Tryz.prog 60 #[.agg #[.int .i64 L.mem, .int .i64 L.own, .slice sa L.sh.length sc, .int .i64 L.bu, .int .i64 L.wt, .int .i64 L.ac, .slice qa q2.length qc], .int .i64 line, .agg #[.int .i64 c, .int .i64 t]] w (LnQ w base (.slice sa L.sh.length sc) (.slice qa q2.length qc) X M B)) ∧
      Gd X ∧ X.q.length = q2.length ∧ M.length ≤ 5 ∧ (B = true → Hm.nextR line X.q X (ms ++ M) = R) ∧ (B = false → R = (false, X, ms ++ M)) := by
  obtain ⟨hc1, hc5, ht⟩ := hgd.head hq
  have hg2 := hgd.tail hq
  by_cases ho : L.own = c
  · refine ⟨{ L with q := q2 }, [], false, fun base sa sc qa qc w h1 h2 h3 h4 => l4Begun_o line c t base { L with q := q2 } sa sc qa qc w h1 h2 h3 h4 hgd.sh hc1 hc5 ho, hg2, rfl, by simp, (fun h => by cases h), fun _ => ?_⟩
    rw [List.append_nil]; exact hR.symm.trans (next_no hb hq ho)
  · refine ⟨Hm.begL { L with q := q2 } line c t, Hm.begM { L with q := q2 } line c t, true, fun base sa sc qa qc w h1 h2 h3 h4 => l4Begun_any line c t base { L with q := q2 } sa sc qa qc w h1 h2 h3 h4 hgd.sh hc1 hc5 ht ho, hg2.beg hc1 hc5, by rw [begL_q], begM_len hg2 line c t, fun _ => ?_, (fun h => by cases h)⟩
    exact (next_step hb hq ho).symm.trans hR

set_option maxRecDepth 20000 in
set_option maxHeartbeats 2000000 in
theorem l4Next_any (line : Int) (base : Nat) (O T0 : Nat → Prop) (R : Bool × Hm.Ln × List Hm.Mg) (L : Hm.Ln) (ms : List Hm.Mg) (sa : Option Addr) (sc : Nat) (qa : Option Addr) (qc : Nat) (ta : Option Addr) (tc : Nat) (w : World) (hs : Rg w base (.slice sa L.sh.length sc) 1 L.sh.length (gF (f1 L.sh))) (hq : Rg w base (.slice qa L.q.length qc) 2 L.q.length (gF (f2 L.q))) (ht : Rg w base (.slice ta ms.length tc) 6 ms.length (gF (f6 ms))) (hap : Apt (.slice sa L.sh.length sc) (.slice qa L.q.length qc) (.slice ta ms.length tc)) (hO : ∀ g, (rb (.slice sa L.sh.length sc) = some g ∨ rb (.slice qa L.q.length qc) = some g ∨ rb (.slice ta ms.length tc) = some g) → O g) (hT : ∀ g, rb (.slice ta ms.length tc) = some g → T0 g) (hbw : base ≤ w.heap.size) (hgd : Gd L) (hn : ms.length + 5 * L.q.length ≤ 2000) (hR : Hm.nextR line L.q L ms = R) :
    Calls Tryz.prog 63 #[.agg #[.int .i64 L.mem, .int .i64 L.own, .slice sa L.sh.length sc, .int .i64 L.bu, .int .i64 L.wt, .int .i64 L.ac, .slice qa L.q.length qc], .int .i64 line, .slice ta ms.length tc] w (fun e w' => ∃ sa sc qa qc ta tc, e = .returned (.tuple #[.agg #[.int .i64 R.2.1.mem, .int .i64 R.2.1.own, .slice sa R.2.1.sh.length sc, .int .i64 R.2.1.bu, .int .i64 R.2.1.wt, .int .i64 R.2.1.ac, .slice qa R.2.1.q.length qc], .slice ta R.2.2.length tc, .bool R.1]) ∧ Rg w' base (.slice sa R.2.1.sh.length sc) 1 R.2.1.sh.length (gF (f1 R.2.1.sh)) ∧ Rg w' base (.slice qa R.2.1.q.length qc) 2 R.2.1.q.length (gF (f2 R.2.1.q)) ∧ Rg w' base (.slice ta R.2.2.length tc) 6 R.2.2.length (gF (f6 R.2.2)) ∧ Apt (.slice sa R.2.1.sh.length sc) (.slice qa R.2.1.q.length qc) (.slice ta R.2.2.length tc) ∧ (∀ g, (rb (.slice sa R.2.1.sh.length sc) = some g ∨ rb (.slice qa R.2.1.q.length qc) = some g ∨ rb (.slice ta R.2.2.length tc) = some g) → O g ∨ w.heap.size ≤ g) ∧ Mv T0 w w') := by
  have HB : Hid (Mv T0 w w) := hide (Mv.refl _ _)
  have RWl := rows_lt hs hq ht
  have RS := hide hs; have RQ := hide hq; have RT := hide ht; clear hs hq ht
  have AP := hap
  have FO : ∀ g, (rb (.slice sa L.sh.length sc) = some g ∨ rb (.slice qa L.q.length qc) = some g ∨ rb (.slice ta ms.length tc) = some g) → O g ∨ w.heap.size ≤ g := fun g h => .inl (hO g h)
  have FT : ∀ g, rb (.slice ta ms.length tc) = some g → T0 g ∨ w.heap.size ≤ g := fun g h => .inl (hT g h)
  have IV : Hid (Gd L ∧ ms.length + 5 * L.q.length ≤ 2000 ∧ (true = true → Hm.nextR line L.q L ms = R) ∧ (true = false → R = (false, L, ms))) := hide ⟨hgd, hn, fun _ => hR, fun h => by cases h⟩
  clear hgd hn hR hO hT hap
  go_enter Tryz.func63, Tryz.ntmps63
  refine sk fun K1 h1 => rl ?_
  refine sbp #[.int .i64 L.mem, .int .i64 L.own, .slice sa L.sh.length sc, .int .i64 L.bu, .int .i64 L.wt, .int .i64 L.ac, .slice qa L.q.length qc] 31 fun V1 b0 hb0 m1 bx0 => ?_
  have o_0 : w.heap.size ≤ b0 := by omega
  replace RS := hide (RS.out.mv m1 (fun _ _ h => h))
  replace RQ := hide (RQ.out.mv m1 (fun _ _ h => h))
  replace RT := hide (RT.out.mv m1 (fun _ _ h => h))
  clear hb0
  refine sbp #[.int .i64 0, .int .i64 0, .slice none 0 0, .int .i64 0, .int .i64 0, .int .i64 0, .slice none 0 0] 31 fun V2 b1 hb1 m2 bx1 => ?_
  have o0_1 := Xlo bx0 hb1
  replace RS := hide (RS.out.mv m2 (fun _ _ h => h))
  replace RQ := hide (RQ.out.mv m2 (fun _ _ h => h))
  replace RT := hide (RT.out.mv m2 (fun _ _ h => h))
  clear hb1
  refine sv (.slice none 0 0) ?_
  refine sv (.bool false) ?_
  refine nt (h1 _ _ (sk fun K2 h2 => rl ?_)); clear h1 K1
  replace HB := Xhn (Xhn HB m1) m2; replace bx0 := Xbn bx0 m2
  have NB : Hid (∀ g, (rb (.slice sa L.sh.length sc) = some g ∨ rb (.slice qa L.q.length qc) = some g ∨ rb (.slice ta ms.length tc) = some g) → g ≠ b0 ∧ g ≠ b1) := hide (fun g h => by have := RWl g h; omega)
  clear RWl
  refine sv (.bool true) ?_
  refine nt (h2 _ _ (sk fun K3 h3 => wp_block ?_)); clear h2 K2
  generalize hv0 : (.agg #[.int .i64 L.mem, .int .i64 L.own, .slice sa L.sh.length sc, .int .i64 L.bu, .int .i64 L.wt, .int .i64 L.ac, .slice qa L.q.length qc] : Value) = v0
  clear hv0
  refine wp_loop_ghost (fun m a' w' => ∃ (L : Hm.Ln) (ms : List Hm.Mg) (saj : Option Addr) (scj : Nat) (qaj : Option Addr) (qcj : Nat) (taj : Option Addr) (tcj : Nat) (ok : Bool) (U : Nat → Value), m = L.q.length ∧ a' = ⟨#[v0, .int .i64 line, .slice taj ms.length tcj, .pointer (some ⟨b0, 0, none⟩), undef, undef, .pointer (some ⟨b1, 0, none⟩), .slice none 0 0, .bool false, .bool ok, U 0, U 1, U 2, U 3, U 4, U 5, U 6, U 7, U 8, U 9, U 10, U 11, U 12, U 13, U 14, U 15, U 16, U 17, U 18, U 19, U 20, U 21, U 22, U 23, U 24, U 25, U 26, U 27, U 28, U 29, U 30, U 31, U 32, U 33, U 34, U 35, undef, undef, undef], []⟩ ∧ (Mv T0 w w') ∧ (Rg w' base (.slice saj L.sh.length scj) 1 L.sh.length (gF (f1 L.sh))) ∧ (Rg w' base (.slice qaj L.q.length qcj) 2 L.q.length (gF (f2 L.q))) ∧ (Rg w' base (.slice taj ms.length tcj) 6 ms.length (gF (f6 ms))) ∧ (Apt (.slice saj L.sh.length scj) (.slice qaj L.q.length qcj) (.slice taj ms.length tcj)) ∧ (∀ g, (rb (.slice saj L.sh.length scj) = some g ∨ rb (.slice qaj L.q.length qcj) = some g ∨ rb (.slice taj ms.length tcj) = some g) → g ≠ b0 ∧ g ≠ b1) ∧ (∀ g, (rb (.slice saj L.sh.length scj) = some g ∨ rb (.slice qaj L.q.length qcj) = some g ∨ rb (.slice taj ms.length tcj) = some g) → O g ∨ w.heap.size ≤ g) ∧ (∀ g, rb (.slice taj ms.length tcj) = some g → T0 g ∨ w.heap.size ≤ g) ∧ (Gd L ∧ ms.length + 5 * L.q.length ≤ 2000 ∧ (ok = true → Hm.nextR line L.q L ms = R) ∧ (ok = false → R = (false, L, ms))) ∧ (w'.heap[b0]? = some (.cells #[.int .i64 L.mem, .int .i64 L.own, .slice saj L.sh.length scj, .int .i64 L.bu, .int .i64 L.wt, .int .i64 L.ac, .slice qaj L.q.length qcj] 31 (0, 0))) ∧ (w'.heap[b1]? = some (.cells #[.int .i64 0, .int .i64 0, .slice none 0 0, .int .i64 0, .int .i64 0, .int .i64 0, .slice none 0 0] 31 (0, 0)))) (L.q.length) ⟨L, ms, sa, sc, qa, qc, ta, tc, true, fun i => [undef, undef, undef, undef, undef, undef, undef, undef, undef, undef, undef, undef, undef, undef, undef, undef, undef, undef, undef, undef, undef, undef, undef, undef, undef, undef, undef, undef, undef, undef, undef, undef, undef, undef, undef, undef].getD i undef, rfl, rfl, (HB.out), (RS.out), (RQ.out), (RT.out), (AP), (NB.out), (FO), (FT), (IV.out), (bx0.out), (bx1.out)⟩ (fun m a' VL1 hI => ?_)
  obtain ⟨L, ms, saj, scj, qaj, qcj, taj, tcj, ok, U, rfl, rfl, i_HB, i_RS, i_RQ, i_RT, i_AP, i_NB, i_FO, i_FT, i_IV, i_bx0, i_bx1⟩ := hI
  clear HB bx0 bx1 RS RQ RT
  have HB := hide i_HB; clear i_HB
  have RS := hide i_RS; clear i_RS
  have RQ := hide i_RQ; clear i_RQ
  have RT := hide i_RT; clear i_RT
  have AP := hide i_AP; clear i_AP
  have NB := hide i_NB; clear i_NB
  have FO := hide i_FO; clear i_FO
  have FT := hide i_FT; clear i_FT
  have IV := hide i_IV; clear i_IV
  have bx0 := hide i_bx0; clear i_bx0
  have bx1 := hide i_bx1; clear i_bx1
  refine sk fun K4 h4 => sk fun K5 h5 => rl ?_
  replace AP := AP.out; replace FO := FO.out; replace FT := FT.out
  cases ok
  · have hRe : R = (false, L, ms) := IV.out.2.2.2 rfl
    refine sv (.bool false) ?_
    refine sv (.bool false) ?_
    with_reducible refine sp ?_
    with_reducible refine sp ?_
    with_reducible refine sp ?_
    refine sg (.bool false) ?_
    refine sv (.bool false) ?_
    with_reducible refine sp ?_
    with_reducible refine sp ?_
    with_reducible refine sp ?_
    with_reducible refine sp ?_
    refine sg (.bool false) ?_
    refine nt (h5 _ _ (cf (wp_exit (then_exit (then_exit (inb_here rfl (then_normal (h3 _ _ (sk fun K6 h6 => rl ?_))))))))); clear h5 K5; clear h4 K4; clear h3 K3
    refine sg (.agg #[.int .i64 L.mem, .int .i64 L.own, .slice saj L.sh.length scj, .int .i64 L.bu, .int .i64 L.wt, .int .i64 L.ac, .slice qaj L.q.length qcj]) (h := by have z0 := cell_box 0 (bx0.out) rfl; have z1 := cell_box 1 (bx0.out) rfl; have z2 := cell_box 2 (bx0.out) rfl; have z3 := cell_box 3 (bx0.out) rfl; have z4 := cell_box 4 (bx0.out) rfl; have z5 := cell_box 5 (bx0.out) rfl; have z6 := cell_box 6 (bx0.out) rfl; go_simp) ?_
    refine sv (.slice taj ms.length tcj) ?_
    refine sv (.bool false) ?_
    refine ss7 (.int .i64 L.mem) (.int .i64 L.own) (.slice saj L.sh.length scj) (.int .i64 L.bu) (.int .i64 L.wt) (.int .i64 L.ac) (.slice qaj L.q.length qcj) bx1 fun V3 m3 bx1 => ?_
    replace RS := hide (RS.out.mv m3 (fun g e h => by have h : g = b1 := h; have := NB.out g (.inl e); omega))
    replace RQ := hide (RQ.out.mv m3 (fun g e h => by have h : g = b1 := h; have := NB.out g (.inr (.inl e)); omega))
    replace RT := hide (RT.out.mv m3 (fun g e h => by have h : g = b1 := h; have := NB.out g (.inr (.inr e)); omega))
    refine sv (.slice taj ms.length tcj) ?_
    refine sv (.bool false) ?_
    refine nt (h6 _ _ (wp_ret ?_)); clear h6 K6
    replace HB := Xhb HB m3; replace bx0 := Xbb bx0 m3
    rw [hRe]
    have q1_0 := cell_box 0 bx1.out rfl
    have q1_1 := cell_box 1 bx1.out rfl
    have q1_2 := cell_box 2 bx1.out rfl
    have q1_3 := cell_box 3 bx1.out rfl
    have q1_4 := cell_box 4 bx1.out rfl
    have q1_5 := cell_box 5 bx1.out rfl
    have q1_6 := cell_box 6 bx1.out rfl
    exact bodyPost_ret (v := .tuple #[.agg #[.int .i64 L.mem, .int .i64 L.own, .slice saj L.sh.length scj, .int .i64 L.bu, .int .i64 L.wt, .int .i64 L.ac, .slice qaj L.q.length qcj], .slice taj ms.length tcj, .bool false]) (by simp [results, Tryz.results63, go_sem, q1_0, q1_1, q1_2, q1_3, q1_4, q1_5, q1_6]) rfl ⟨_, _, _, _, _, _, rfl, RS.out, RQ.out, RT.out, AP, FO, HB.out⟩
  · by_cases hbu : L.bu = 0
    · have hbv : Hid ((L.bu == 0) = true) := hide (by simp [hbu])
      replace hbu := hide hbu
      by_cases hz : L.q.length = 0
      · have hRe : R = (true, L, ms) := (IV.out.2.2.1 rfl).symm.trans (next_end (.inr (List.eq_nil_of_length_eq_zero hz)))
        refine sv (.bool true) ?_
        refine sv (.bool true) ?_
        refine sv (.pointer (some ⟨b0, 3, none⟩)) ?_
        refine sl 3 bx0 ?_
        refine sg (.bool true) (h := by have hd := hbv.out; go_simp) ?_
        refine sg (.bool true) ?_
        refine sv (.bool true) ?_
        refine sv (.pointer (some ⟨b0, 6, none⟩)) ?_
        refine sl 6 bx0 ?_
        refine sg (.int .i64 (L.q.length : Int)) ?_
        refine sg (.bool false) (h := by have hd : decide (0 < L.q.length) = false := decide_eq_false (by omega); have hd2 : decide ((0 : Int) < (L.q.length : Int)) = false := decide_eq_false (by omega); have hd3 : decide ((L.q.length : Int) > 0) = false := decide_eq_false (by omega); go_simp) ?_
        refine sg (.bool false) ?_
        refine nt (h5 _ _ (cf (wp_exit (then_exit (then_exit (inb_here rfl (then_normal (h3 _ _ (sk fun K7 h7 => rl ?_))))))))); clear h5 K5; clear h4 K4; clear h3 K3
        refine sg (.agg #[.int .i64 L.mem, .int .i64 L.own, .slice saj L.sh.length scj, .int .i64 L.bu, .int .i64 L.wt, .int .i64 L.ac, .slice qaj L.q.length qcj]) (h := by have z0 := cell_box 0 (bx0.out) rfl; have z1 := cell_box 1 (bx0.out) rfl; have z2 := cell_box 2 (bx0.out) rfl; have z3 := cell_box 3 (bx0.out) rfl; have z4 := cell_box 4 (bx0.out) rfl; have z5 := cell_box 5 (bx0.out) rfl; have z6 := cell_box 6 (bx0.out) rfl; go_simp) ?_
        refine sv (.slice taj ms.length tcj) ?_
        refine sv (.bool true) ?_
        refine ss7 (.int .i64 L.mem) (.int .i64 L.own) (.slice saj L.sh.length scj) (.int .i64 L.bu) (.int .i64 L.wt) (.int .i64 L.ac) (.slice qaj L.q.length qcj) bx1 fun V4 m4 bx1 => ?_
        replace RS := hide (RS.out.mv m4 (fun g e h => by have h : g = b1 := h; have := NB.out g (.inl e); omega))
        replace RQ := hide (RQ.out.mv m4 (fun g e h => by have h : g = b1 := h; have := NB.out g (.inr (.inl e)); omega))
        replace RT := hide (RT.out.mv m4 (fun g e h => by have h : g = b1 := h; have := NB.out g (.inr (.inr e)); omega))
        refine sv (.slice taj ms.length tcj) ?_
        refine sv (.bool true) ?_
        refine nt (h7 _ _ (wp_ret ?_)); clear h7 K7
        replace HB := Xhb HB m4; replace bx0 := Xbb bx0 m4
        rw [hRe]
        have q1_0 := cell_box 0 bx1.out rfl
        have q1_1 := cell_box 1 bx1.out rfl
        have q1_2 := cell_box 2 bx1.out rfl
        have q1_3 := cell_box 3 bx1.out rfl
        have q1_4 := cell_box 4 bx1.out rfl
        have q1_5 := cell_box 5 bx1.out rfl
        have q1_6 := cell_box 6 bx1.out rfl
        exact bodyPost_ret (v := .tuple #[.agg #[.int .i64 L.mem, .int .i64 L.own, .slice saj L.sh.length scj, .int .i64 L.bu, .int .i64 L.wt, .int .i64 L.ac, .slice qaj L.q.length qcj], .slice taj ms.length tcj, .bool true]) (by simp [results, Tryz.results63, go_sem, q1_0, q1_1, q1_2, q1_3, q1_4, q1_5, q1_6]) rfl ⟨_, _, _, _, _, _, rfl, RS.out, RQ.out, RT.out, AP, FO, HB.out⟩
      · obtain ⟨⟨c, t⟩, q2, hq⟩ : ∃ r q2, L.q = r :: q2 := List.exists_cons_of_length_pos (by omega)
        obtain ⟨X, M, B, hcall, hgX, hqX, hMl, hBt, hBf⟩ := nextX hbu.out hq IV.out.1 (IV.out.2.2.1 rfl)
        have hq2n : q2.length ≤ 10 ∧ q2.length < L.q.length := by have h1 := IV.out.1.n; rw [hq] at h1 ⊢; simp only [List.length_cons] at h1 ⊢; omega
        have hms := IV.out.2.1
        replace hq := hide hq; replace hcall := hide hcall; replace hBt := hide hBt; replace hBf := hide hBf
        refine sv (.bool true) ?_
        refine sv (.bool true) ?_
        refine sv (.pointer (some ⟨b0, 3, none⟩)) ?_
        refine sl 3 bx0 ?_
        refine sg (.bool true) (h := by have hd := hbv.out; go_simp) ?_
        refine sg (.bool true) ?_
        refine sv (.bool true) ?_
        refine sv (.pointer (some ⟨b0, 6, none⟩)) ?_
        refine sl 6 bx0 ?_
        refine sg (.int .i64 (L.q.length : Int)) ?_
        refine sg (.bool true) (h := by have hd : decide (0 < L.q.length) = true := decide_eq_true (by omega); have hd2 : decide ((0 : Int) < (L.q.length : Int)) = true := decide_eq_true (by omega); have hd3 : decide ((L.q.length : Int) > 0) = true := decide_eq_true (by omega); go_simp) ?_
        refine sg (.bool true) ?_
        refine nt (h5 _ _ (ct (wp_skip (then_normal (h4 _ _ (wp_block (sk fun K8 h8 => rl ?_))))))); clear h5 K5; clear h4 K4
        obtain ⟨g0, o0, e0, _, _, _, _, hcell⟩ := RQ.out.rows (by omega)
        subst e0
        have z0 : VL1.cell? ⟨g0, o0, none⟩ = some (.int .i64 c) := by have := hcell 0 (by omega); rw [hq.out] at this; exact this
        have z1 : VL1.cell? ⟨g0, o0 + 1, none⟩ = some (.int .i64 t) := by have := hcell 1 (by omega); rw [hq.out] at this; exact this
        clear hcell
        refine sv (.pointer (some ⟨b0, 6, none⟩)) ?_
        refine sl 6 bx0 ?_
        refine sg (.pointer (some ⟨g0, o0, none⟩)) (h := by have h1 : (0 : Int) < (L.q.length : Int) := (by omega); go_simp) ?_
        refine sg (.agg #[.int .i64 c, .int .i64 t]) (h := by have y0 := z0; have y1 := z1; go_simp) ?_
        refine sbp #[.int .i64 0, .int .i64 0] 71 fun V5 b2 hb2 m5 bx2 => ?_
        have o1_2 := Xlo bx1 hb2
        replace NB : Hid (∀ g, (rb (.slice saj L.sh.length scj) = some g ∨ rb (.slice (some ⟨g0, o0, none⟩) L.q.length qcj) = some g ∨ rb (.slice taj ms.length tcj) = some g) → g ≠ b0 ∧ g ≠ b1 ∧ g ≠ b2) := hide (fun g h => by have h1 := NB.out g h; have h2 := rows_lt RS.out RQ.out RT.out g h; exact (by omega))
        replace RS := hide (RS.out.mv m5 (fun _ _ h => h))
        replace RQ := hide (RQ.out.mv m5 (fun _ _ h => h))
        replace RT := hide (RT.out.mv m5 (fun _ _ h => h))
        clear hb2
        refine ss2 (.int .i64 c) (.int .i64 t) bx2 fun V6 m6 bx2 => ?_
        replace RS := hide (RS.out.mv m6 (fun g e h => by have h : g = b2 := h; have := NB.out g (.inl e); omega))
        replace RQ := hide (RQ.out.mv m6 (fun g e h => by have h : g = b2 := h; have := NB.out g (.inr (.inl e)); omega))
        replace RT := hide (RT.out.mv m6 (fun g e h => by have h : g = b2 := h; have := NB.out g (.inr (.inr e)); omega))
        refine nt (h8 _ _ (sk fun K9 h9 => rl ?_)); clear h8 K8
        replace HB := Xhb (Xhn HB m5) m6; replace bx0 := Xbb (Xbn bx0 m5) m6; replace bx1 := Xbb (Xbn bx1 m5) m6
        clear z0 z1
        obtain ⟨qa2, hsl2, hrq2, hrb2⟩ := req_tail RQ.out hq.out
        have RQ2 := hide hrq2; clear hrq2
        refine sbs 0 #[] 71 fun V7 b3 hb3 m7 bx3 => ?_
        have o2_3 := Xlo bx2 hb3
        replace NB : Hid (∀ g, (rb (.slice saj L.sh.length scj) = some g ∨ rb (.slice (some ⟨g0, o0, none⟩) L.q.length qcj) = some g ∨ rb (.slice taj ms.length tcj) = some g) → g ≠ b0 ∧ g ≠ b1 ∧ g ≠ b2 ∧ g ≠ b3) := hide (fun g h => by have h1 := NB.out g h; have h2 := rows_lt RS.out RQ.out RT.out g h; exact (by omega))
        replace RS := hide (RS.out.mv m7 (fun _ _ h => h))
        replace RQ := hide (RQ.out.mv m7 (fun _ _ h => h))
        replace RT := hide (RT.out.mv m7 (fun _ _ h => h))
        replace RQ2 := hide (RQ2.out.mv m7 (fun _ _ h => h))
        clear hb3
        refine sv (.pointer (some ⟨b0, 6, none⟩)) ?_
        replace bx0 := Xbn bx0 m7
        refine sl 6 bx0 ?_
        refine sg (.slice qa2 q2.length (qcj - 1)) (h := by have hs2 := hsl2; go_simp) ?_
        replace HB := Xhn HB m7
        have szV := HB.out.size
        have hbV := Nat.le_trans hbw szV
        have hs1 := fun g e => (RS.out.lt g e).2
        have ht1 := fun g e => (RT.out.lt g e).2
        have bz_b0 := lt_of_block bx0.out
        replace bx1 := Xbn bx1 m7
        have bz_b1 := lt_of_block bx1.out
        replace bx2 := Xbn bx2 m7
        have bz_b2 := lt_of_block bx2.out
        have bz_b3 := lt_of_block bx3.out
        obtain ⟨u0, V8, hrun, hmv, hrg⟩ := copy_reqs V7 _ b3 _ _ 29 RQ2.out.gf RQ2.out.sg (by omega)
        have m8 : Mv (nob) V7 V8 := hmv
        refine sw_valW (by rfl) (run_append_op _ _ 29 (by rfl) (by rfl) (by rfl) hrun) ?_
        refine pt ?_
        replace RS := hide (RS.out.mv m8 (fun _ _ h => h))
        replace RQ := hide (RQ.out.mv m8 (fun _ _ h => h))
        replace RT := hide (RT.out.mv m8 (fun _ _ h => h))
        obtain ⟨na, nc, rfl, _⟩ := hrg.form
        have RNn := fun g e => (hrg.lt g e).1
        have RN := hide (hrg.base hbV)
        clear hrun hrg hmv bx3 RQ2
        refine sv (.pointer (some ⟨b0, 6, none⟩)) ?_
        replace bx0 := Xbn bx0 m8
        refine ss 6 (.slice na q2.length nc) bx0 fun V9 m9 bx0 => ?_
        replace RS := hide (RS.out.mv m9 (fun g e h => by have h : g = b0 := h; have := NB.out g (.inl e); omega))
        replace RQ := hide (RQ.out.mv m9 (fun g e h => by have h : g = b0 := h; have := NB.out g (.inr (.inl e)); omega))
        replace RT := hide (RT.out.mv m9 (fun g e h => by have h : g = b0 := h; have := NB.out g (.inr (.inr e)); omega))
        replace RN := hide (RN.out.mv m9 (fun g e h => by have h : g = b0 := h; have := RNn g e; omega))
        refine nt (h9 _ _ (sk fun K10 h10 => rl ?_)); clear h9 K9
        replace HB := Xhb (Xhn HB m8) m9; replace bx1 := Xbb (Xbn bx1 m8) m9; replace bx2 := Xbb (Xbn bx2 m8) m9
        replace RQ := RN; clear RN
        replace AP : Apt (.slice saj L.sh.length scj) (.slice na q2.length nc) (.slice taj ms.length tcj) := ⟨fun g e => ⟨fun e2 => by have := hs1 g e; have := RNn g e2; omega, (AP.1 g e).2⟩, fun g e e2 => by have := ht1 g e2; have := RNn g e; omega⟩
        replace FO := fun g (h : rb (.slice saj L.sh.length scj) = some g ∨ rb (.slice na q2.length nc) = some g ∨ rb (.slice taj ms.length tcj) = some g) => h.elim (fun e => FO g (.inl e)) (fun h => h.elim (fun e => .inr (Nat.le_trans szV (RNn g e))) (fun e => FO g (.inr (.inr e))))
        replace NB : Hid (∀ g, (rb (.slice saj L.sh.length scj) = some g ∨ rb (.slice na q2.length nc) = some g ∨ rb (.slice taj ms.length tcj) = some g) → g ≠ b0 ∧ g ≠ b1 ∧ g ≠ b2) := hide (fun g h => h.elim (fun e => by have := NB.out g (.inl e); omega) (fun h => h.elim (fun e => by have := RNn g e; omega) (fun e => by have := NB.out g (.inr (.inr e)); omega)))
        clear hs1 ht1 szV hbV RNn hsl2 hrb2 bz_b0 bz_b1 bz_b2
        refine sbs 0 #[] 36 fun V10 b4 hb4 m10 bx4 => ?_
        have o2_4 := Xlo bx2 hb4
        replace NB : Hid (∀ g, (rb (.slice saj L.sh.length scj) = some g ∨ rb (.slice na q2.length nc) = some g ∨ rb (.slice taj ms.length tcj) = some g) → g ≠ b0 ∧ g ≠ b1 ∧ g ≠ b2 ∧ g ≠ b4) := hide (fun g h => by have h1 := NB.out g h; have h2 := rows_lt RS.out RQ.out RT.out g h; exact (by omega))
        replace RS := hide (RS.out.mv m10 (fun _ _ h => h))
        replace RQ := hide (RQ.out.mv m10 (fun _ _ h => h))
        replace RT := hide (RT.out.mv m10 (fun _ _ h => h))
        clear hb4
        refine sv (.slice (some ⟨b4, 0, none⟩) 0 0) ?_
        refine nt (h10 _ _ (sk fun K11 h11 => rl ?_)); clear h10 K10
        replace HB := Xhn HB m10; replace bx0 := Xbn bx0 m10; replace bx1 := Xbn bx1 m10; replace bx2 := Xbn bx2 m10
        have hls : L.sh.length ≤ 5 := ok_len IV.out.1.sh
        refine sg (.agg #[.int .i64 L.mem, .int .i64 L.own, .slice saj L.sh.length scj, .int .i64 L.bu, .int .i64 L.wt, .int .i64 L.ac, .slice na q2.length nc]) (h := by have z0 := cell_box 0 (bx0.out) rfl; have z1 := cell_box 1 (bx0.out) rfl; have z2 := cell_box 2 (bx0.out) rfl; have z3 := cell_box 3 (bx0.out) rfl; have z4 := cell_box 4 (bx0.out) rfl; have z5 := cell_box 5 (bx0.out) rfl; have z6 := cell_box 6 (bx0.out) rfl; go_simp) ?_
        refine sv (.int .i64 line) ?_
        refine sg (.agg #[.int .i64 c, .int .i64 t]) (h := by have z0 := cell_box 0 (bx2.out) rfl; have z1 := cell_box 1 (bx2.out) rfl; go_simp) ?_
        have szV := HB.out.size
        have hbV := Nat.le_trans hbw szV
        have ht1 := fun g e => (RT.out.lt g e).2
        have bz_b0 := lt_of_block bx0.out
        have bz_b1 := lt_of_block bx1.out
        have bz_b2 := lt_of_block bx2.out
        have bz_b4 := lt_of_block bx4.out
        refine sw_call (by rfl) (by first | rfl | (go_simp; done)) (hcall.out base _ _ _ _ V10 RS.out RQ.out (fun g e => (AP.1 g e).1) hbV) ?_
        rintro e V11 ⟨sa3, sc3, qa3, qc3, ta3, tc3, rfl, gs, gq, gt, gap, gfr, hbl⟩
        have m11 : Mv (nob) V10 V11 := Mv.of_below hbl
        refine ⟨_, rfl, ?_⟩
        refine pt ?_
        replace RS := hide (RS.out.mv m11 (fun _ _ h => h))
        replace RQ := hide (RQ.out.mv m11 (fun _ _ h => h))
        replace RT := hide (RT.out.mv m11 (fun _ _ h => h))
        have GNb : ∀ g, (rb (.slice sa3 X.sh.length sc3) = some g ∨ rb (.slice qa3 X.q.length qc3) = some g ∨ rb (.slice ta3 M.length tc3) = some g) → g ≠ b0 ∧ g ≠ b1 ∧ g ≠ b2 ∧ g ≠ b4 := fun g h => (gfr g h).elim (fun q => by have := NB.out g (q.elim .inl (fun e => .inr (.inl e))); omega) (fun q => by omega)
        have AP3 : Apt (.slice sa3 X.sh.length sc3) (.slice qa3 X.q.length qc3) (.slice taj ms.length tcj) := ⟨fun g e => ⟨(gap.1 g e).1, fun e2 => (gfr g (.inl e)).elim (fun q => q.elim (fun q => (AP.1 g q).2 e2) (fun q => AP.2 g q e2)) (fun q => by have := ht1 g e2; omega)⟩, fun g e e2 => (gfr g (.inr (.inl e))).elim (fun q => q.elim (fun q => (AP.1 g q).2 e2) (fun q => AP.2 g q e2)) (fun q => by have := ht1 g e2; omega)⟩
        have FO3 : ∀ g, (rb (.slice sa3 X.sh.length sc3) = some g ∨ rb (.slice qa3 X.q.length qc3) = some g ∨ rb (.slice ta3 M.length tc3) = some g) → O g ∨ w.heap.size ≤ g := fun g h => (gfr g h).elim (fun q => FO g (q.elim .inl (fun e => .inr (.inl e)))) (fun q => .inr (Nat.le_trans szV q))
        have GS := hide gs
        have GQ := hide gq
        have GM := hide gt
        clear gs gq gt gap gfr hbl RS RQ szV hbV ht1 bz_b0 bz_b1 bz_b2 bz_b4
        refine sv (.tuple #[.agg #[.int .i64 X.mem, .int .i64 X.own, .slice sa3 X.sh.length sc3, .int .i64 X.bu, .int .i64 X.wt, .int .i64 X.ac, .slice qa3 X.q.length qc3], .slice ta3 M.length tc3, .bool B]) ?_
        refine sv (.agg #[.int .i64 X.mem, .int .i64 X.own, .slice sa3 X.sh.length sc3, .int .i64 X.bu, .int .i64 X.wt, .int .i64 X.ac, .slice qa3 X.q.length qc3]) ?_
        refine sv (.slice ta3 M.length tc3) ?_
        refine sv (.bool B) ?_
        replace bx0 := Xbn bx0 m11
        refine ss7 (.int .i64 X.mem) (.int .i64 X.own) (.slice sa3 X.sh.length sc3) (.int .i64 X.bu) (.int .i64 X.wt) (.int .i64 X.ac) (.slice qa3 X.q.length qc3) bx0 fun V12 m12 bx0 => ?_
        replace RT := hide (RT.out.mv m12 (fun g e h => by have h : g = b0 := h; have := NB.out g (.inr (.inr e)); omega))
        replace GS := hide (GS.out.mv m12 (fun g e h => by have h : g = b0 := h; have := GNb g (.inl e); omega))
        replace GQ := hide (GQ.out.mv m12 (fun g e h => by have h : g = b0 := h; have := GNb g (.inr (.inl e)); omega))
        replace GM := hide (GM.out.mv m12 (fun g e h => by have h : g = b0 := h; have := GNb g (.inr (.inr e)); omega))
        refine sv (.slice ta3 M.length tc3) ?_
        refine sv (.bool B) ?_
        refine nt (h11 _ _ (rl ?_)); clear h11 K11
        replace HB := Xhb (Xhn HB m11) m12; replace bx1 := Xbb (Xbn bx1 m11) m12; replace bx2 := Xbb (Xbn bx2 m11) m12; replace bx4 := Xbb (Xbn bx4 m11) m12
        refine sv (.slice taj ms.length tcj) ?_
        refine sv (.slice ta3 M.length tc3) ?_
        have szV := HB.out.size
        have hbV := Nat.le_trans hbw szV
        have NBt := fun g e => NB.out g (.inr (.inr e))
        have hgs1 := fun g e => (GS.out.lt g e).2
        have hgq1 := fun g e => (GQ.out.lt g e).2
        have bz_b0 := lt_of_block bx0.out
        have bz_b1 := lt_of_block bx1.out
        have bz_b2 := lt_of_block bx2.out
        have bz_b4 := lt_of_block bx4.out
        obtain ⟨va, vk, V13, hrun, hgr, hrg, hnb⟩ := app_msgs V12 base (.slice taj ms.length tcj) ms M ta3 tc3 32 RT.out GM.out.sg (by omega) (by omega) hbV
        have m13 : Mv (fun g => rb (.slice taj ms.length tcj) = some g) V12 V13 := Mv.of_grown hgr
        refine sw_valW (by rfl) (run_append_op _ _ 32 (by rfl) (by rfl) (by rfl) hrun) ?_
        refine pt ?_
        replace HB := hide (HB.out.step m13 (fun g hg e => (FT g e).resolve_right (by omega)))
        replace bx0 := hide (m13.box bx0.out (fun h => by have := NBt _ h; omega))
        replace bx1 := hide (m13.box bx1.out (fun h => by have := NBt _ h; omega))
        replace bx2 := hide (m13.box bx2.out (fun h => by have := NBt _ h; omega))
        replace bx4 := hide (m13.box bx4.out (fun h => by have := NBt _ h; omega))
        replace GS := hide (GS.out.mv m13 (fun g e h => (AP3.1 g e).2 h))
        replace GQ := hide (GQ.out.mv m13 (fun g e h => AP3.2 g e h))
        have RT2 := hide hrg
        have AP4 : Apt (.slice sa3 X.sh.length sc3) (.slice qa3 X.q.length qc3) (.slice va (ms.length + M.length) vk) := ⟨fun g e => ⟨(AP3.1 g e).1, fun e2 => (hnb g e2).elim (fun q => (AP3.1 g e).2 q) (fun q => by have := hgs1 g e; omega)⟩, fun g e e2 => (hnb g e2).elim (fun q => AP3.2 g e q) (fun q => by have := hgq1 g e; omega)⟩
        have FO4 : ∀ g, (rb (.slice sa3 X.sh.length sc3) = some g ∨ rb (.slice qa3 X.q.length qc3) = some g ∨ rb (.slice va (ms.length + M.length) vk) = some g) → O g ∨ w.heap.size ≤ g := fun g h => h.elim (fun e => FO3 g (.inl e)) (fun h => h.elim (fun e => FO3 g (.inr (.inl e))) (fun e => (hnb g e).elim (fun q => FO g (.inr (.inr q))) (fun q => .inr (Nat.le_trans szV q))))
        have FT4 : ∀ g, rb (.slice va (ms.length + M.length) vk) = some g → T0 g ∨ w.heap.size ≤ g := fun g e => (hnb g e).elim (FT g) (fun q => .inr (Nat.le_trans szV q))
        have NB4 : ∀ g, (rb (.slice sa3 X.sh.length sc3) = some g ∨ rb (.slice qa3 X.q.length qc3) = some g ∨ rb (.slice va (ms.length + M.length) vk) = some g) → g ≠ b0 ∧ g ≠ b1 := fun g h => h.elim (fun e => by have := GNb g (.inl e); omega) (fun h => h.elim (fun e => by have := GNb g (.inr (.inl e)); omega) (fun e => (hnb g e).elim (fun q => by have := NBt g q; omega) (fun q => by omega)))
        clear hrun hgr hrg hnb szV hbV hgs1 hgq1 RT GM NBt bz_b0 bz_b1 bz_b2 bz_b4
        refine sv (.slice va (ms.length + M.length) vk) ?_
        refine wpList_nil (inb_norm (then_normal ?_))
        have hml : ms.length + M.length = (ms ++ M).length := List.length_append.symm
        rw [hml] at RT2 AP4 FO4 FT4 NB4 ⊢
        exact ⟨X.q.length, (by omega), X, (ms ++ M), sa3, sc3, qa3, qc3, va, vk, B, fun i => [.pointer (some ⟨b2, 0, none⟩), .slice ta3 M.length tc3, .bool true, .bool true, .pointer (some ⟨b0, 3, none⟩), .int .i64 L.bu, .bool true, .bool true, .bool true, .pointer (some ⟨b0, 6, none⟩), .slice (some ⟨g0, o0, none⟩) L.q.length qcj, .int .i64 (L.q.length : Int), .bool true, .bool true, .pointer (some ⟨b0, 6, none⟩), .slice (some ⟨g0, o0, none⟩) L.q.length qcj, .pointer (some ⟨g0, o0, none⟩), .agg #[.int .i64 c, .int .i64 t], .slice (some ⟨b3, 0, none⟩) 0 0, .pointer (some ⟨b0, 6, none⟩), .slice (some ⟨g0, o0, none⟩) L.q.length qcj, .slice qa2 q2.length (qcj - 1), .slice na q2.length nc, .pointer (some ⟨b0, 6, none⟩), .slice (some ⟨b4, 0, none⟩) 0 0, .tuple #[.agg #[.int .i64 X.mem, .int .i64 X.own, .slice sa3 X.sh.length sc3, .int .i64 X.bu, .int .i64 X.wt, .int .i64 X.ac, .slice qa3 X.q.length qc3], .slice ta3 M.length tc3, .bool B], .agg #[.int .i64 L.mem, .int .i64 L.own, .slice saj L.sh.length scj, .int .i64 L.bu, .int .i64 L.wt, .int .i64 L.ac, .slice na q2.length nc], .int .i64 line, .agg #[.int .i64 c, .int .i64 t], .tuple #[.agg #[.int .i64 X.mem, .int .i64 X.own, .slice sa3 X.sh.length sc3, .int .i64 X.bu, .int .i64 X.wt, .int .i64 X.ac, .slice qa3 X.q.length qc3], .slice ta3 M.length tc3, .bool B], .agg #[.int .i64 X.mem, .int .i64 X.own, .slice sa3 X.sh.length sc3, .int .i64 X.bu, .int .i64 X.wt, .int .i64 X.ac, .slice qa3 X.q.length qc3], .slice ta3 M.length tc3, .bool B, .slice taj ms.length tcj, .slice ta3 M.length tc3, .slice va (ms ++ M).length vk].getD i undef, rfl, rfl, (HB.out), (GS.out), (GQ.out), (RT2.out), (AP4), (NB4), (FO4), (FT4), (⟨hgX, (by have := IV.out.2.1; rw [← hml]; omega), hBt.out, hBf.out⟩), (bx0.out), (bx1.out)⟩
    · have hbv : Hid ((L.bu == 0) = false) := hide (by simpa using hbu)
      have hRe : R = (true, L, ms) := (IV.out.2.2.1 rfl).symm.trans (next_end (.inl hbu))
      clear hbu
      refine sv (.bool true) ?_
      refine sv (.bool true) ?_
      refine sv (.pointer (some ⟨b0, 3, none⟩)) ?_
      refine sl 3 bx0 ?_
      refine sg (.bool false) (h := by have hd := hbv.out; go_simp) ?_
      refine sg (.bool false) ?_
      refine sv (.bool false) ?_
      with_reducible refine sp ?_
      with_reducible refine sp ?_
      with_reducible refine sp ?_
      with_reducible refine sp ?_
      refine sg (.bool false) ?_
      refine nt (h5 _ _ (cf (wp_exit (then_exit (then_exit (inb_here rfl (then_normal (h3 _ _ (sk fun K12 h12 => rl ?_))))))))); clear h5 K5; clear h4 K4; clear h3 K3
      refine sg (.agg #[.int .i64 L.mem, .int .i64 L.own, .slice saj L.sh.length scj, .int .i64 L.bu, .int .i64 L.wt, .int .i64 L.ac, .slice qaj L.q.length qcj]) (h := by have z0 := cell_box 0 (bx0.out) rfl; have z1 := cell_box 1 (bx0.out) rfl; have z2 := cell_box 2 (bx0.out) rfl; have z3 := cell_box 3 (bx0.out) rfl; have z4 := cell_box 4 (bx0.out) rfl; have z5 := cell_box 5 (bx0.out) rfl; have z6 := cell_box 6 (bx0.out) rfl; go_simp) ?_
      refine sv (.slice taj ms.length tcj) ?_
      refine sv (.bool true) ?_
      refine ss7 (.int .i64 L.mem) (.int .i64 L.own) (.slice saj L.sh.length scj) (.int .i64 L.bu) (.int .i64 L.wt) (.int .i64 L.ac) (.slice qaj L.q.length qcj) bx1 fun V14 m14 bx1 => ?_
      replace RS := hide (RS.out.mv m14 (fun g e h => by have h : g = b1 := h; have := NB.out g (.inl e); omega))
      replace RQ := hide (RQ.out.mv m14 (fun g e h => by have h : g = b1 := h; have := NB.out g (.inr (.inl e)); omega))
      replace RT := hide (RT.out.mv m14 (fun g e h => by have h : g = b1 := h; have := NB.out g (.inr (.inr e)); omega))
      refine sv (.slice taj ms.length tcj) ?_
      refine sv (.bool true) ?_
      refine nt (h12 _ _ (wp_ret ?_)); clear h12 K12
      replace HB := Xhb HB m14; replace bx0 := Xbb bx0 m14
      rw [hRe]
      have q1_0 := cell_box 0 bx1.out rfl
      have q1_1 := cell_box 1 bx1.out rfl
      have q1_2 := cell_box 2 bx1.out rfl
      have q1_3 := cell_box 3 bx1.out rfl
      have q1_4 := cell_box 4 bx1.out rfl
      have q1_5 := cell_box 5 bx1.out rfl
      have q1_6 := cell_box 6 bx1.out rfl
      exact bodyPost_ret (v := .tuple #[.agg #[.int .i64 L.mem, .int .i64 L.own, .slice saj L.sh.length scj, .int .i64 L.bu, .int .i64 L.wt, .int .i64 L.ac, .slice qaj L.q.length qcj], .slice taj ms.length tcj, .bool true]) (by simp [results, Tryz.results63, go_sem, q1_0, q1_1, q1_2, q1_3, q1_4, q1_5, q1_6]) rfl ⟨_, _, _, _, _, _, rfl, RS.out, RQ.out, RT.out, AP, FO, HB.out⟩

end Go.Proofs.YtlalldlbgnlbjaaGreatDoor
