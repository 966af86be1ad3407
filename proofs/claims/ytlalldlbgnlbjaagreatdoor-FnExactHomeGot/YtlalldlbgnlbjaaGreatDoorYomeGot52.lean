/- HnH -/
import Derived.Test.YtlalldlbgnlbjaaGreatDoorYomeGot33
import Derived.Test.YtlalldlbgnlbjaaGreatDoorYomeGot51
/- the walk of laws.FnExactHomeGot (written by mkHnH.py) -/
namespace Go.Proofs.YtlalldlbgnlbjaaGreatDoor
open Go.RowKit
set_option linter.unusedVariables false
set_option linter.unusedSimpArgs false

theorem szLine_r (mem ow : Int) (sa : Option Addr) (sn sc : Nat) (bu wt ac : Int) (qa : Option Addr) (qn qc : Nat) (w : World) (hS : (sn : Int) ≤ 9223372036854775807) (hQ : (qn : Int) ≤ 9223372036854775807) :
    Calls Tryz.prog 5 #[.agg (ln7 mem ow (.slice sa sn sc) bu wt ac (.slice qa qn qc)), .int .i64 1048576] w fun e w' => ∃ r : Int, e = .returned (.int .i64 r) ∧ (0 ≤ r → sn ≤ 1048576 ∧ qn ≤ 1048576) ∧ Below w.heap.size w w' := by
  refine (szLine_any mem ow sa sn sc bu wt ac qa qn qc w hS hQ).mono ?_
  rintro e w' ⟨hb, rfl | ⟨r, rfl, h0, h1, h2⟩⟩
  · exact ⟨-1, rfl, fun h => absurd h (by decide), hb⟩
  · exact ⟨r, rfl, fun _ => ⟨h1, h2⟩, hb⟩
theorem next_sm {line : Int} {L : Hm.Ln} {ms : List Hm.Mg} {q : List (Int × Int)} (h : Gd L) (e : L.q = q) (hn : q.length ≤ 10) (hm : ms.length ≤ 1000) : (Hm.nextR line q L ms).2.1.sh.length ≤ 1048576 ∧ (Hm.nextR line q L ms).2.1.q.length ≤ 1048576 ∧ (Hm.nextR line q L ms).2.2.length ≤ 1048576 := by
  have := next_len (line := line) (ms := ms) h e
  omega
theorem gotR_sm {L : Hm.Ln} (hlk : lok L = true) (k c l d : Int) (hc1 : 1 ≤ c) (hc5 : c ≤ 5) : (Hm.gotR L k c l d).2.1.sh.length ≤ 1048576 ∧ (Hm.gotR L k c l d).2.1.q.length ≤ 1048576 ∧ (Hm.gotR L k c l d).2.2.length ≤ 1048576 := by
  have h := lok_gd hlk
  have hs := ok_len h.sh
  have hq := h.n
  have a0 : L.sh.length ≤ 1048576 ∧ L.q.length ≤ 1048576 ∧ ([] : List Hm.Mg).length ≤ 1048576 := ⟨by omega, by omega, by simp⟩
  unfold Hm.gotR
  split
  · split
    · split
      · exact a0
      · refine ⟨?_, ?_, ?_⟩
        · have := ok_len (h.beg (line := l) (t := k) hc1 hc5).sh
          show (Hm.begL L l c k).sh.length ≤ _
          omega
        · show (Hm.begL L l c k).q.length ≤ _
          rw [begL_q]; omega
        · have := begM_len h l c k
          show (Hm.begM L l c k).length ≤ _
          omega
    · split
      · exact a0
      · refine ⟨a0.1, ?_, a0.2.2⟩
        show (L.q ++ [(c, k)]).length ≤ _
        simp; omega
  · split
    · split
      · exact ⟨a0.1, a0.2.1, by simp⟩
      · exact ⟨a0.1, a0.2.1, by simp⟩
    · split
      · split
        · exact a0
        · rename_i hno
          have hbu : ¬ L.bu = 0 := fun e => hno (.inl e)
          obtain ⟨⟨hb1, hb5⟩, _⟩ := lok_bu hlk hbu
          split
          · exact a0
          · exact next_sm (Gd.grant (L := { L with ac := L.ac - 1 }) ⟨h.sh, h.n, h.q⟩ hb1 hb5) (grantL_q _ _ _) hq (by simp)
      · split
        · exact a0
        · rename_i hno
          have hbu : ¬ L.bu = 0 := fun e => hno (.inl e)
          obtain ⟨⟨hb1, hb5⟩, _⟩ := lok_bu hlk hbu
          refine next_sm (Gd.grant (L := { L with mem := d, own := 0, sh := if L.wt = 1 then [c] else [] }) ⟨?_, h.n, h.q⟩ hb1 hb5) (grantL_q _ _ _) hq (by simp)
          show Ids.ok (if L.wt = 1 then [c] else []) = true
          split
          · exact ok_one hc1 hc5
          · rfl
theorem hg_sm (L : Hm.Ln) (k c to l t d : Int) : (hgL L k c to l t d).sh.length ≤ 1048576 ∧ (hgL L k c to l t d).q.length ≤ 1048576 ∧ (hgM L k c to l t d).length ≤ 1048576 := by
  unfold hgL hgM
  split
  · rename_i hB
    simp only [hgB, Bool.and_eq_true] at hB
    obtain ⟨⟨⟨hlk, hmk⟩, hh⟩, _⟩ := hB
    rcases ok_kind hmk with ⟨_, _, h1, h5⟩ | ⟨h0, _⟩
    · exact gotR_sm hlk k c l d h1 h5
    · rw [hh] at h0; cases h0
  · simp [zL]

set_option maxRecDepth 20000 in
set_option maxHeartbeats 8000000 in
theorem walkExactHomeGot (E : Nat → Addr) (k c to l t d : Int) (L : Hm.Ln) (sa : Option Addr) (sc : Nat) (qa : Option Addr) (qc : Nat) (w : World) (hs : Sl w (.slice sa L.sh.length sc) L.sh) (hq : Sr w (.slice qa L.q.length qc) 2 L.q.length (f2 L.q)) (hS : (L.sh.length : Int) ≤ 9223372036854775807) (hQ : (L.q.length : Int) ≤ 9223372036854775807) (hg : Gl E w) (htab : Tab w) (her : Er E w w.heap.size) :
    Calls Tryz.prog 3 #[.agg #[.int .i64 L.mem, .int .i64 L.own, .slice sa L.sh.length sc, .int .i64 L.bu, .int .i64 L.wt, .int .i64 L.ac, .slice qa L.q.length qc], .agg #[.int .i64 k, .int .i64 c, .int .i64 to, .int .i64 l, .int .i64 t, .int .i64 d]] w (fun e w' => e = .returned (.bool true) ∧ Below w.heap.size w w') := by
  have hs0 := hide hs; have hq0 := hide hq; have hg0 := hide hg; have ht0 := hide htab; have he0 := hide her; clear hs hq hg htab her
  have HB : Hid (Mv nob w w) := hide (Mv.refl _ _)
  go_enter Tryz.func3, Tryz.ntmps3
  refine sk fun K1 h1 => rl ?_
  refine sbp #[.int .i64 L.mem, .int .i64 L.own, .slice sa L.sh.length sc, .int .i64 L.bu, .int .i64 L.wt, .int .i64 L.ac, .slice qa L.q.length qc] 25 fun V1 b0 hb0 m1 bx0 => ?_
  have o_0 : w.heap.size ≤ b0 := by omega
  clear hb0
  replace HB := Xhn HB m1
  refine sbp #[.int .i64 k, .int .i64 c, .int .i64 to, .int .i64 l, .int .i64 t, .int .i64 d] 27 fun V2 b1 hb1 m2 bx1 => ?_
  have o0_1 := Xlo bx0 hb1
  clear hb1
  refine sv (.bool false) ?_
  refine nt (h1 _ _ (sk fun K2 h2 => rl ?_)); clear h1 K1
  refine sv (.int .i64 1048576) ?_
  refine nt (h2 _ _ (sk fun K3 h3 => rl ?_)); clear h2 K2
  replace bx0 := Xbn bx0 m2
  refine sg (.agg #[.int .i64 L.mem, .int .i64 L.own, .slice sa L.sh.length sc, .int .i64 L.bu, .int .i64 L.wt, .int .i64 L.ac, .slice qa L.q.length qc]) (h := by have z0 := cell_box 0 (bx0.out) rfl; have z1 := cell_box 1 (bx0.out) rfl; have z2 := cell_box 2 (bx0.out) rfl; have z3 := cell_box 3 (bx0.out) rfl; have z4 := cell_box 4 (bx0.out) rfl; have z5 := cell_box 5 (bx0.out) rfl; have z6 := cell_box 6 (bx0.out) rfl; go_simp) ?_
  refine sv (.int .i64 1048576) ?_
  refine sw_call (by rfl) (by kernel_rfl) (szLine_r L.mem L.own sa L.sh.length sc L.bu L.wt L.ac qa L.q.length qc V2 hS hQ) ?_
  rintro e V3 ⟨r, rfl, hr, hbl⟩
  have m3 : Mv (nob) V2 V3 := Mv.of_below hbl
  refine ⟨_, rfl, ?_⟩
  refine pt ?_
  clear hbl
  refine sv (.int .i64 r) ?_
  refine nt (h3 _ _ (sk fun K4 h4 => sk fun K5 h5 => rl ?_)); clear h3 K3
  by_cases hx : r < 0
  · refine sv (.int .i64 r) ?_
    refine sg (.bool true) (h := by have hd : decide (r < 0) = true := decide_eq_true hx; go_simp) ?_
    refine nt (h5 _ _ (ct (sk fun K6 h6 => rl ?_))); clear h5 K5
    refine sv (.bool true) ?_
    refine nt (h6 _ _ (wp_ret (then_ret ?_))); clear h6 K6; clear h4 K4
    replace HB := Xhn (Xhn HB m2) m3; replace bx0 := Xbn bx0 m3; replace bx1 := Xbn bx1 m3
    exact bodyPost_ret (v := .bool true) (by simp [results, Tryz.results3, go_sem]) rfl ⟨rfl, HB.out.below⟩
  · refine sv (.int .i64 r) ?_
    refine sg (.bool false) (h := by have hd : decide (r < 0) = false := decide_eq_false hx; go_simp) ?_
    refine nt (h5 _ _ (cf (wp_skip (then_normal (h4 _ _ (sk fun K7 h7 => ?_)))))); clear h5 K5; clear h4 K4
    have hsl := (hr (by omega)).1
    have hql := (hr (by omega)).2
    clear hr hx
    obtain ⟨X, hX⟩ : ∃ X, hgL L k c to l t d = X := ⟨_, rfl⟩
    obtain ⟨M, hM⟩ : ∃ M, hgM L k c to l t d = M := ⟨_, rfl⟩
    obtain ⟨B, hB⟩ : ∃ B, hgB L k c to l t d = B := ⟨_, rfl⟩
    have hsz : X.sh.length ≤ 1048576 ∧ X.q.length ≤ 1048576 ∧ M.length ≤ 1048576 := by rw [← hX, ← hM]; exact hg_sm L k c to l t d
    have hd1 : Hid (decide (1 + (L.sh.length : Int) + 2 * (L.q.length : Int) < 0) = false) := hide (decide_eq_false (by omega))
    have hd2 : Hid (decide (1 + (X.sh.length : Int) + 2 * (X.q.length : Int) < 0) = false) := hide (decide_eq_false (by omega))
    have hd3 : Hid (decide (1 + (X.sh.length : Int) + 2 * (X.q.length : Int) + 6 * (M.length : Int) < 0) = false) := hide (decide_eq_false (by omega))
    have hk0 : 0 < (1 + (X.sh.length : Int) + 2 * (X.q.length : Int)) := by omega
    have hk1 : (1 + (X.sh.length : Int) + 2 * (X.q.length : Int)) ≤ 100000000 := by omega
    have hspec : ∀ (V : World) (ga gb : Nat), Sg V (.slice (some ⟨ga, 0, none⟩) L.sh.length L.sh.length) 1 L.sh.length (gF (f1 L.sh)) → Sg V (.slice (some ⟨gb, 0, none⟩) L.q.length L.q.length) 2 L.q.length (gF (f2 L.q)) → Calls Tryz.prog 6 #[.agg #[.int .i64 L.mem, .int .i64 L.own, .slice (some ⟨ga, 0, none⟩) L.sh.length L.sh.length, .int .i64 L.bu, .int .i64 L.wt, .int .i64 L.ac, .slice (some ⟨gb, 0, none⟩) L.q.length L.q.length], .agg #[.int .i64 k, .int .i64 c, .int .i64 to, .int .i64 l, .int .i64 t, .int .i64 d]] V (LnP V X M B) := by
      intro V ga gb h1 h2; rw [← hX, ← hM, ← hB]; exact specHomeGot_any k c to l t d L _ _ _ _ V h1 (.inr ⟨_, _, _, rfl, Nat.le_refl _⟩) h2 (.inr ⟨_, _, _, rfl, Nat.le_refl _⟩) hsl hql
    have himpl : ∀ (V : World) (ga gb : Nat), Gl E V → Tab V → Er E V V.heap.size → Sg V (.slice (some ⟨ga, 0, none⟩) L.sh.length L.sh.length) 1 L.sh.length (gF (f1 L.sh)) → Sg V (.slice (some ⟨gb, 0, none⟩) L.q.length L.q.length) 2 L.q.length (gF (f2 L.q)) → Calls Tryz.prog 9 #[.agg #[.int .i64 L.mem, .int .i64 L.own, .slice (some ⟨ga, 0, none⟩) L.sh.length L.sh.length, .int .i64 L.bu, .int .i64 L.wt, .int .i64 L.ac, .slice (some ⟨gb, 0, none⟩) L.q.length L.q.length], .agg #[.int .i64 k, .int .i64 c, .int .i64 to, .int .i64 l, .int .i64 t, .int .i64 d]] V (LnP V X M B) := by
      intro V ga gb h0 hT hE h1 h2; rw [← hX, ← hM, ← hB]; exact implHomeGot_any E k c to l t d L _ _ _ _ V h1 (.inr ⟨_, _, rfl⟩) h2 (.inr ⟨_, _, rfl⟩) hsl hql h0 hT hE
    clear hX hM hB
    replace hspec := hide hspec; replace himpl := hide himpl
    refine wp_region_but (z := 999) (S := fun w' => Mv (fun x => False) V3.drew w') (by kernel_rfl) (Mv.refl _ _) (fun hS => ?_)
    have m4 : Mv nob V3 V3.drew := Mv.drew _
    obtain ⟨V4, hN⟩ : ∃ V, V3.drew = V := ⟨_, rfl⟩
    rw [hN] at hS m4 ⊢
    clear hN
    replace bx0 := Xbn (Xbn bx0 m3) m4; replace bx1 := Xbn (Xbn bx1 m3) m4
    have rbx0 := bx0; have rbx1 := bx1
    refine tk 0 (.agg #[.int .i64 L.mem, .int .i64 L.own, .slice sa L.sh.length sc, .int .i64 L.bu, .int .i64 L.wt, .int .i64 L.ac, .slice qa L.q.length qc]) rfl (fun w' hSw => by (try dsimp only at hSw); have z0 := cell_box 0 (hSw.box rbx0.out (fun h => h)) rfl; have z1 := cell_box 1 (hSw.box rbx0.out (fun h => h)) rfl; have z2 := cell_box 2 (hSw.box rbx0.out (fun h => h)) rfl; have z3 := cell_box 3 (hSw.box rbx0.out (fun h => h)) rfl; have z4 := cell_box 4 (hSw.box rbx0.out (fun h => h)) rfl; have z5 := cell_box 5 (hSw.box rbx0.out (fun h => h)) rfl; have z6 := cell_box 6 (hSw.box rbx0.out (fun h => h)) rfl; go_simp) ?_
    refine tk 2 (.agg #[.int .i64 k, .int .i64 c, .int .i64 to, .int .i64 l, .int .i64 t, .int .i64 d]) rfl (fun w' hSw => by (try dsimp only at hSw); have z0 := cell_box 0 (hSw.box rbx1.out (fun h => h)) rfl; have z1 := cell_box 1 (hSw.box rbx1.out (fun h => h)) rfl; have z2 := cell_box 2 (hSw.box rbx1.out (fun h => h)) rfl; have z3 := cell_box 3 (hSw.box rbx1.out (fun h => h)) rfl; have z4 := cell_box 4 (hSw.box rbx1.out (fun h => h)) rfl; have z5 := cell_box 5 (hSw.box rbx1.out (fun h => h)) rfl; go_simp) ?_
    replace HB := Xhn (Xhn (Xhn HB m2) m3) m4
    refine region_states (fun G hG => ?_)
    try dsimp only
    replace hG := hide hG
    suffices hM1 : Hid (∀ (V8 : World) (b2 : Nat) (y1 : Nat) (y2 : Nat) (wsa : Option Addr) (wsc : Nat) (wqa : Option Addr) (wqc : Nat) (wta : Option Addr) (wtc : Nat) (loW : Nat) (hiW : Nat), (Mv nob w V8) → (b1 < b2) → (V8.heap[b0]? = some (.cells #[.int .i64 L.mem, .int .i64 L.own, .slice sa L.sh.length sc, .int .i64 L.bu, .int .i64 L.wt, .int .i64 L.ac, .slice qa L.q.length qc] 25 (0, 0))) → (V8.heap[b1]? = some (.cells #[.int .i64 k, .int .i64 c, .int .i64 to, .int .i64 l, .int .i64 t, .int .i64 d] 27 (0, 0))) → (V8.heap[b2]? = some (.cells #[.int .i64 0, .int .i64 0, .slice none 0 0, .int .i64 0, .int .i64 0, .int .i64 0, .slice none 0 0] 31 (0, 0))) → (w.heap.size ≤ loW) → (loW ≤ hiW) → (∀ g, (rb (.slice wsa X.sh.length wsc) = some g ∨ rb (.slice wqa X.q.length wqc) = some g ∨ rb (.slice wta M.length wtc) = some g) → loW ≤ g ∧ g < hiW) → (Apt (.slice wsa X.sh.length wsc) (.slice wqa X.q.length wqc) (.slice wta M.length wtc)) → (Rg V8 w.heap.size (.slice wsa X.sh.length wsc) 1 X.sh.length (gF (f1 X.sh))) → (Rg V8 w.heap.size (.slice wqa X.q.length wqc) 2 X.q.length (gF (f2 X.q))) → (Rg V8 w.heap.size (.slice wta M.length wtc) 6 M.length (gF (f6 M))) → (∀ g, (rb (.slice wsa X.sh.length wsc) = some g ∨ rb (.slice wqa X.q.length wqc) = some g ∨ rb (.slice wta M.length wtc) = some g) → g ≠ b0 ∧ g ≠ b1 ∧ g ≠ b2) → (hiW ≤ V8.heap.size) → (V4.heap.size ≤ b2) → Mv (fun x => False) V4 V8 → G 3 #[true, true, true, true, true, true, true, true, true, true, false, false, false] #[.agg #[.int .i64 L.mem, .int .i64 L.own, .slice sa L.sh.length sc, .int .i64 L.bu, .int .i64 L.wt, .int .i64 L.ac, .slice qa L.q.length qc], .agg #[.int .i64 k, .int .i64 c, .int .i64 to, .int .i64 l, .int .i64 t, .int .i64 d], .pointer (some ⟨b0, 0, none⟩), .pointer (some ⟨b1, 0, none⟩), .bool false, .int .i64 r, .pointer (some ⟨b2, 0, none⟩), undef, undef, undef, undef, undef, undef, undef, undef, undef, undef, undef, undef, .agg #[.int .i64 L.mem, .int .i64 L.own, .slice sa L.sh.length sc, .int .i64 L.bu, .int .i64 L.wt, .int .i64 L.ac, .slice qa L.q.length qc], .int .i64 1048576, .int .i64 r, .int .i64 r, .bool false, .tuple #[.agg #[.int .i64 X.mem, .int .i64 X.own, .slice wsa X.sh.length wsc, .int .i64 X.bu, .int .i64 X.wt, .int .i64 X.ac, .slice wqa X.q.length wqc], .slice wta M.length wtc, .bool B], .agg #[.int .i64 L.mem, .int .i64 L.own, .slice sa L.sh.length sc, .int .i64 L.bu, .int .i64 L.wt, .int .i64 L.ac, .slice qa L.q.length qc], .agg #[.int .i64 L.mem, .int .i64 L.own, .slice (some ⟨y1, 0, none⟩) L.sh.length L.sh.length, .int .i64 L.bu, .int .i64 L.wt, .int .i64 L.ac, .slice (some ⟨y2, 0, none⟩) L.q.length L.q.length], .agg #[.int .i64 k, .int .i64 c, .int .i64 to, .int .i64 l, .int .i64 t, .int .i64 d], .agg #[.int .i64 k, .int .i64 c, .int .i64 to, .int .i64 l, .int .i64 t, .int .i64 d], .tuple #[.agg #[.int .i64 X.mem, .int .i64 X.own, .slice wsa X.sh.length wsc, .int .i64 X.bu, .int .i64 X.wt, .int .i64 X.ac, .slice wqa X.q.length wqc], .slice wta M.length wtc, .bool B], .agg #[.int .i64 X.mem, .int .i64 X.own, .slice wsa X.sh.length wsc, .int .i64 X.bu, .int .i64 X.wt, .int .i64 X.ac, .slice wqa X.q.length wqc], .slice wta M.length wtc, .bool B, undef, undef, undef, undef, undef, undef, undef, undef, undef, undef, undef, undef, undef, undef, undef, undef, undef, undef, undef, undef, undef, undef, undef, undef, undef, undef, undef, undef, undef, undef, undef, undef, undef, undef, undef, undef, undef, undef, undef, undef, undef, undef, undef, undef, undef, undef, undef, undef, undef, undef, undef, undef, undef, undef, undef, undef, undef, undef, undef, undef, undef, undef, undef, undef, undef, undef, undef, undef, undef, undef, undef, undef, undef, undef, undef, undef, undef, undef, undef, undef, undef, undef, undef, undef, undef, undef, undef, undef, undef, undef, undef, undef, undef, undef, undef, undef, undef, undef, undef, undef, undef, undef, undef, undef, undef, undef, undef, undef] V8) by
      rw [hG.out]
      refine kd_each2 (l := [1, 9]) (by kernel_rfl) rfl ⟨?_, ?_, trivial⟩
      · refine .inl ?_
        refine ⟨_, rfl, by rfl, .inr ⟨_, _, _, by kernel_rfl, toLine_rg L sa sc qa qc V4 (hs0.out.below HB.out.below) (hq0.out.below HB.out.below) hsl hql, ?_⟩⟩
        rintro e V5 ⟨y1, y2, rfl, ts, tq, tap, hbl⟩
        have m5 : Mv (nob) V4 V5 := Mv.of_below hbl
        replace hS := hS.step m5 (fun _ _ h => h.elim)
        refine ⟨_, rfl, fun _ => hS, ?_⟩
        refine ptk ?_
        have TS := hide ts; have TQ := hide tq
        clear ts tq tap hbl
        replace HB := Xhn HB m5; replace bx0 := Xbn bx0 m5; replace bx1 := Xbn bx1 m5
        refine kd_each2 (l := [3, 9]) (by kernel_rfl) rfl ⟨?_, ?_, trivial⟩
        · refine .inl ?_
          refine ⟨_, rfl, by rfl, .inr ⟨_, _, _, by kernel_rfl, toMsg_any k c to l t d V5, ?_⟩⟩
          rintro e V6 ⟨rfl, hbl⟩
          have m6 : Mv (nob) V5 V6 := Mv.of_below hbl
          replace hS := hS.step m6 (fun _ _ h => h.elim)
          refine ⟨_, rfl, fun _ => hS, ?_⟩
          refine ptk ?_
          replace TS := hide (TS.out.mv m6 (fun _ _ h => h))
          replace TQ := hide (TQ.out.mv m6 (fun _ _ h => h))
          clear hbl
          replace HB := Xhn HB m6; replace bx0 := Xbn bx0 m6; replace bx1 := Xbn bx1 m6
          refine kd_each2 (l := [4, 9]) (by kernel_rfl) rfl ⟨?_, ?_, trivial⟩
          · refine .inl ?_
            have szV := HB.out.size
            have bz := lt_of_block bx1.out
            obtain ⟨loW, hloW⟩ : ∃ n, V6.heap.size = n := ⟨_, rfl⟩
            refine ⟨_, rfl, by rfl, .inr ⟨_, _, _, by kernel_rfl, hspec.out V6 y1 y2 TS.out.sg TQ.out.sg, ?_⟩⟩
            rintro e V7 ⟨wsa, wsc, wqa, wqc, wta, wtc, rfl, rs_, rq_, rt_, rap_, hbl⟩
            have m7 : Mv (nob) V6 V7 := Mv.of_below hbl
            replace hS := hS.step m7 (fun _ _ h => h.elim)
            refine ⟨_, rfl, fun _ => hS, ?_⟩
            refine ptk ?_
            replace TS := hide (TS.out.mv m7 (fun _ _ h => h))
            replace TQ := hide (TQ.out.mv m7 (fun _ _ h => h))
            rw [hloW] at szV bz
            obtain ⟨hiW, hhiW⟩ : ∃ n, V7.heap.size = n := ⟨_, rfl⟩
            have Wl : Hid (∀ g, (rb (.slice wsa X.sh.length wsc) = some g ∨ rb (.slice wqa X.q.length wqc) = some g ∨ rb (.slice wta M.length wtc) = some g) → loW ≤ g ∧ g < hiW) := hide (by rw [← hloW, ← hhiW]; exact fun g h => h.elim (rs_.lt g) (fun h => h.elim (rq_.lt g) (rt_.lt g)))
            have Wb : Hid (∀ g, (rb (.slice wsa X.sh.length wsc) = some g ∨ rb (.slice wqa X.q.length wqc) = some g ∨ rb (.slice wta M.length wtc) = some g) → g ≠ b0 ∧ g ≠ b1) := hide (fun g h => by have := Wl.out g h; exact (by omega))
            have Wz : Hid (hiW ≤ V7.heap.size) := hide (Nat.le_of_eq hhiW.symm)
            have WS := hide (rs_.base (hloW ▸ szV))
            have WQ := hide (rq_.base (hloW ▸ szV))
            have WT := hide (rt_.base (hloW ▸ szV))
            have WA := hide rap_
            have olh_0 : loW ≤ hiW := by rw [← hloW, ← hhiW]; exact hbl.size
            have olo_0 : w.heap.size ≤ loW := by omega
            clear rap_ rs_ rq_ rt_ szV bz hloW hhiW hbl
            refine tk0 5 (.tuple #[.agg #[.int .i64 X.mem, .int .i64 X.own, .slice wsa X.sh.length wsc, .int .i64 X.bu, .int .i64 X.wt, .int .i64 X.ac, .slice wqa X.q.length wqc], .slice wta M.length wtc, .bool B]) rfl ?_
            refine tk0 6 (.agg #[.int .i64 X.mem, .int .i64 X.own, .slice wsa X.sh.length wsc, .int .i64 X.bu, .int .i64 X.wt, .int .i64 X.ac, .slice wqa X.q.length wqc]) rfl ?_
            refine tk0 7 (.slice wta M.length wtc) rfl ?_
            refine tk0 8 (.bool B) rfl ?_
            replace HB := Xhn HB m7; replace bx0 := Xbn bx0 m7; replace bx1 := Xbn bx1 m7
            refine kd_valI (i := 9) (v := .pointer (some ⟨V7.heap.size, 0, none⟩)) (w' := V7.alloc (.cells #[.int .i64 0, .int .i64 0, .slice none 0 0, .int .i64 0, .int .i64 0, .int .i64 0, .slice none 0 0] 31)) (fun V => Mv nob V7 V ∧ V.heap[V7.heap.size]? = some (.cells #[.int .i64 0, .int .i64 0, .slice none 0 0, .int .i64 0, .int .i64 0, .int .i64 0, .slice none 0 0] 31 (0, 0))) (by kernel_rfl) rfl (by rfl) (by first | rfl | go_simp) ⟨Mv.alloc _ _, heap_alloc_new _ _⟩ (fun V hI _ => hS.step hI.1 (fun _ _ h => h.elim)) ?_
            rintro V8 ⟨m8, nx⟩
            refine ptk ?_
            obtain ⟨b2, hb2⟩ : ∃ b2, V7.heap.size = b2 := ⟨_, rfl⟩
            rw [hb2] at nx ⊢
            have or_2 := Mv.le hS hb2
            have o1_2 := Xlo bx1 hb2
            replace Wb : Hid (∀ g, (rb (.slice wsa X.sh.length wsc) = some g ∨ rb (.slice wqa X.q.length wqc) = some g ∨ rb (.slice wta M.length wtc) = some g) → g ≠ b0 ∧ g ≠ b1 ∧ g ≠ b2) := hide (fun g h => by have h1 := Wb.out g h; have h2 := Wl.out g h; have h3 := Wz.out; exact (by omega))
            replace TS := hide (TS.out.mv m8 (fun _ _ h => h))
            replace TQ := hide (TQ.out.mv m8 (fun _ _ h => h))
            replace WS := hide (WS.out.mv m8 (fun _ _ h => h))
            replace WQ := hide (WQ.out.mv m8 (fun _ _ h => h))
            replace WT := hide (WT.out.mv m8 (fun _ _ h => h))
            replace Wz := hide (Nat.le_trans Wz.out (m8).size)
            have bx2 := hide nx
            clear nx
            replace hS := hS.step m8 (fun _ _ h => h.elim)
            clear hb2
            replace HB := Xhn HB m8; replace bx0 := Xbn bx0 m8; replace bx1 := Xbn bx1 m8
            have hMx := hM1.out V8 b2 y1 y2 wsa wsc wqa wqc wta wtc loW hiW HB.out (by omega) bx0.out bx1.out bx2.out (by omega) (by omega) Wl.out WA.out WS.out WQ.out WT.out Wb.out Wz.out (by omega) hS
            rw [hG.out] at hMx
            exact hMx
          · refine .inl ?_
            refine ⟨_, rfl, by rfl, .inl ⟨.pointer (some ⟨V6.heap.size, 0, none⟩), V6.alloc (.cells #[.int .i64 0, .int .i64 0, .slice none 0 0, .int .i64 0, .int .i64 0, .int .i64 0, .slice none 0 0] 31), (by first | rfl | go_simp), fun _ => hS.step (Mv.alloc _ _) (fun _ _ h => h.elim), ?_⟩⟩
            have m9 : Mv nob V6 (V6.alloc (.cells #[.int .i64 0, .int .i64 0, .slice none 0 0, .int .i64 0, .int .i64 0, .int .i64 0, .slice none 0 0] 31)) := Mv.alloc _ _
            have nx := heap_alloc_new V6 (.cells #[.int .i64 0, .int .i64 0, .slice none 0 0, .int .i64 0, .int .i64 0, .int .i64 0, .slice none 0 0] 31)
            obtain ⟨V9, hN⟩ : ∃ V, V6.alloc (.cells #[.int .i64 0, .int .i64 0, .slice none 0 0, .int .i64 0, .int .i64 0, .int .i64 0, .slice none 0 0] 31) = V := ⟨_, rfl⟩
            rw [hN] at m9 nx ⊢
            clear hN
            refine ptk ?_
            obtain ⟨b2, hb2⟩ : ∃ b2, V6.heap.size = b2 := ⟨_, rfl⟩
            rw [hb2] at nx ⊢
            have or_2 := Mv.le hS hb2
            have o1_2 := Xlo bx1 hb2
            replace TS := hide (TS.out.mv m9 (fun _ _ h => h))
            replace TQ := hide (TQ.out.mv m9 (fun _ _ h => h))
            have bx2 := hide nx
            clear nx
            replace hS := hS.step m9 (fun _ _ h => h.elim)
            clear hb2
            replace HB := Xhn HB m9; replace bx0 := Xbn bx0 m9; replace bx1 := Xbn bx1 m9
            have szV := HB.out.size
            have bz := lt_of_block bx2.out
            obtain ⟨loW, hloW⟩ : ∃ n, V9.heap.size = n := ⟨_, rfl⟩
            refine kd_call (i := 4) (by kernel_rfl) rfl (by rfl) (by kernel_rfl) (hspec.out V9 y1 y2 TS.out.sg TQ.out.sg) ?_
            rintro e V10 ⟨wsa, wsc, wqa, wqc, wta, wtc, rfl, rs_, rq_, rt_, rap_, hbl⟩
            have m10 : Mv (nob) V9 V10 := Mv.of_below hbl
            replace hS := hS.step m10 (fun _ _ h => h.elim)
            refine ⟨_, rfl, fun _ => hS, ?_⟩
            refine ptk ?_
            replace TS := hide (TS.out.mv m10 (fun _ _ h => h))
            replace TQ := hide (TQ.out.mv m10 (fun _ _ h => h))
            rw [hloW] at szV bz
            obtain ⟨hiW, hhiW⟩ : ∃ n, V10.heap.size = n := ⟨_, rfl⟩
            have Wl : Hid (∀ g, (rb (.slice wsa X.sh.length wsc) = some g ∨ rb (.slice wqa X.q.length wqc) = some g ∨ rb (.slice wta M.length wtc) = some g) → loW ≤ g ∧ g < hiW) := hide (by rw [← hloW, ← hhiW]; exact fun g h => h.elim (rs_.lt g) (fun h => h.elim (rq_.lt g) (rt_.lt g)))
            have Wb : Hid (∀ g, (rb (.slice wsa X.sh.length wsc) = some g ∨ rb (.slice wqa X.q.length wqc) = some g ∨ rb (.slice wta M.length wtc) = some g) → g ≠ b0 ∧ g ≠ b1 ∧ g ≠ b2) := hide (fun g h => by have := Wl.out g h; exact (by omega))
            have Wz : Hid (hiW ≤ V10.heap.size) := hide (Nat.le_of_eq hhiW.symm)
            have WS := hide (rs_.base (hloW ▸ szV))
            have WQ := hide (rq_.base (hloW ▸ szV))
            have WT := hide (rt_.base (hloW ▸ szV))
            have WA := hide rap_
            have olh_0 : loW ≤ hiW := by rw [← hloW, ← hhiW]; exact hbl.size
            have olo_0 : w.heap.size ≤ loW := by omega
            clear rap_ rs_ rq_ rt_ szV bz hloW hhiW hbl
            refine tk0 5 (.tuple #[.agg #[.int .i64 X.mem, .int .i64 X.own, .slice wsa X.sh.length wsc, .int .i64 X.bu, .int .i64 X.wt, .int .i64 X.ac, .slice wqa X.q.length wqc], .slice wta M.length wtc, .bool B]) rfl ?_
            refine tk0 6 (.agg #[.int .i64 X.mem, .int .i64 X.own, .slice wsa X.sh.length wsc, .int .i64 X.bu, .int .i64 X.wt, .int .i64 X.ac, .slice wqa X.q.length wqc]) rfl ?_
            refine tk0 7 (.slice wta M.length wtc) rfl ?_
            refine tk0 8 (.bool B) rfl ?_
            replace HB := Xhn HB m10; replace bx0 := Xbn bx0 m10; replace bx1 := Xbn bx1 m10; replace bx2 := Xbn bx2 m10
            have hMx := hM1.out V10 b2 y1 y2 wsa wsc wqa wqc wta wtc loW hiW HB.out (by omega) bx0.out bx1.out bx2.out (by omega) (by omega) Wl.out WA.out WS.out WQ.out WT.out Wb.out Wz.out (by omega) hS
            rw [hG.out] at hMx
            exact hMx
        · refine .inl ?_
          refine ⟨_, rfl, by rfl, .inl ⟨.pointer (some ⟨V5.heap.size, 0, none⟩), V5.alloc (.cells #[.int .i64 0, .int .i64 0, .slice none 0 0, .int .i64 0, .int .i64 0, .int .i64 0, .slice none 0 0] 31), (by first | rfl | go_simp), fun _ => hS.step (Mv.alloc _ _) (fun _ _ h => h.elim), ?_⟩⟩
          have m11 : Mv nob V5 (V5.alloc (.cells #[.int .i64 0, .int .i64 0, .slice none 0 0, .int .i64 0, .int .i64 0, .int .i64 0, .slice none 0 0] 31)) := Mv.alloc _ _
          have nx := heap_alloc_new V5 (.cells #[.int .i64 0, .int .i64 0, .slice none 0 0, .int .i64 0, .int .i64 0, .int .i64 0, .slice none 0 0] 31)
          obtain ⟨V11, hN⟩ : ∃ V, V5.alloc (.cells #[.int .i64 0, .int .i64 0, .slice none 0 0, .int .i64 0, .int .i64 0, .int .i64 0, .slice none 0 0] 31) = V := ⟨_, rfl⟩
          rw [hN] at m11 nx ⊢
          clear hN
          refine ptk ?_
          obtain ⟨b2, hb2⟩ : ∃ b2, V5.heap.size = b2 := ⟨_, rfl⟩
          rw [hb2] at nx ⊢
          have or_2 := Mv.le hS hb2
          have o1_2 := Xlo bx1 hb2
          replace TS := hide (TS.out.mv m11 (fun _ _ h => h))
          replace TQ := hide (TQ.out.mv m11 (fun _ _ h => h))
          have bx2 := hide nx
          clear nx
          replace hS := hS.step m11 (fun _ _ h => h.elim)
          clear hb2
          refine kd_call (i := 3) (by kernel_rfl) rfl (by rfl) (by kernel_rfl) (toMsg_any k c to l t d V11) ?_
          rintro e V12 ⟨rfl, hbl⟩
          have m12 : Mv (nob) V11 V12 := Mv.of_below hbl
          replace hS := hS.step m12 (fun _ _ h => h.elim)
          refine ⟨_, rfl, fun _ => hS, ?_⟩
          refine ptk ?_
          replace TS := hide (TS.out.mv m12 (fun _ _ h => h))
          replace TQ := hide (TQ.out.mv m12 (fun _ _ h => h))
          clear hbl
          replace HB := Xhn (Xhn HB m11) m12; replace bx0 := Xbn (Xbn bx0 m11) m12; replace bx1 := Xbn (Xbn bx1 m11) m12; replace bx2 := Xbn bx2 m12
          have szV := HB.out.size
          have bz := lt_of_block bx2.out
          obtain ⟨loW, hloW⟩ : ∃ n, V12.heap.size = n := ⟨_, rfl⟩
          refine kd_call (i := 4) (by kernel_rfl) rfl (by rfl) (by kernel_rfl) (hspec.out V12 y1 y2 TS.out.sg TQ.out.sg) ?_
          rintro e V13 ⟨wsa, wsc, wqa, wqc, wta, wtc, rfl, rs_, rq_, rt_, rap_, hbl⟩
          have m13 : Mv (nob) V12 V13 := Mv.of_below hbl
          replace hS := hS.step m13 (fun _ _ h => h.elim)
          refine ⟨_, rfl, fun _ => hS, ?_⟩
          refine ptk ?_
          replace TS := hide (TS.out.mv m13 (fun _ _ h => h))
          replace TQ := hide (TQ.out.mv m13 (fun _ _ h => h))
          rw [hloW] at szV bz
          obtain ⟨hiW, hhiW⟩ : ∃ n, V13.heap.size = n := ⟨_, rfl⟩
          have Wl : Hid (∀ g, (rb (.slice wsa X.sh.length wsc) = some g ∨ rb (.slice wqa X.q.length wqc) = some g ∨ rb (.slice wta M.length wtc) = some g) → loW ≤ g ∧ g < hiW) := hide (by rw [← hloW, ← hhiW]; exact fun g h => h.elim (rs_.lt g) (fun h => h.elim (rq_.lt g) (rt_.lt g)))
          have Wb : Hid (∀ g, (rb (.slice wsa X.sh.length wsc) = some g ∨ rb (.slice wqa X.q.length wqc) = some g ∨ rb (.slice wta M.length wtc) = some g) → g ≠ b0 ∧ g ≠ b1 ∧ g ≠ b2) := hide (fun g h => by have := Wl.out g h; exact (by omega))
          have Wz : Hid (hiW ≤ V13.heap.size) := hide (Nat.le_of_eq hhiW.symm)
          have WS := hide (rs_.base (hloW ▸ szV))
          have WQ := hide (rq_.base (hloW ▸ szV))
          have WT := hide (rt_.base (hloW ▸ szV))
          have WA := hide rap_
          have olh_0 : loW ≤ hiW := by rw [← hloW, ← hhiW]; exact hbl.size
          have olo_0 : w.heap.size ≤ loW := by omega
          clear rap_ rs_ rq_ rt_ szV bz hloW hhiW hbl
          refine tk0 5 (.tuple #[.agg #[.int .i64 X.mem, .int .i64 X.own, .slice wsa X.sh.length wsc, .int .i64 X.bu, .int .i64 X.wt, .int .i64 X.ac, .slice wqa X.q.length wqc], .slice wta M.length wtc, .bool B]) rfl ?_
          refine tk0 6 (.agg #[.int .i64 X.mem, .int .i64 X.own, .slice wsa X.sh.length wsc, .int .i64 X.bu, .int .i64 X.wt, .int .i64 X.ac, .slice wqa X.q.length wqc]) rfl ?_
          refine tk0 7 (.slice wta M.length wtc) rfl ?_
          refine tk0 8 (.bool B) rfl ?_
          replace HB := Xhn HB m13; replace bx0 := Xbn bx0 m13; replace bx1 := Xbn bx1 m13; replace bx2 := Xbn bx2 m13
          have hMx := hM1.out V13 b2 y1 y2 wsa wsc wqa wqc wta wtc loW hiW HB.out (by omega) bx0.out bx1.out bx2.out (by omega) (by omega) Wl.out WA.out WS.out WQ.out WT.out Wb.out Wz.out (by omega) hS
          rw [hG.out] at hMx
          exact hMx
      · refine .inl ?_
        refine ⟨_, rfl, by rfl, .inl ⟨.pointer (some ⟨V4.heap.size, 0, none⟩), V4.alloc (.cells #[.int .i64 0, .int .i64 0, .slice none 0 0, .int .i64 0, .int .i64 0, .int .i64 0, .slice none 0 0] 31), (by first | rfl | go_simp), fun _ => hS.step (Mv.alloc _ _) (fun _ _ h => h.elim), ?_⟩⟩
        have m14 : Mv nob V4 (V4.alloc (.cells #[.int .i64 0, .int .i64 0, .slice none 0 0, .int .i64 0, .int .i64 0, .int .i64 0, .slice none 0 0] 31)) := Mv.alloc _ _
        have nx := heap_alloc_new V4 (.cells #[.int .i64 0, .int .i64 0, .slice none 0 0, .int .i64 0, .int .i64 0, .int .i64 0, .slice none 0 0] 31)
        obtain ⟨V14, hN⟩ : ∃ V, V4.alloc (.cells #[.int .i64 0, .int .i64 0, .slice none 0 0, .int .i64 0, .int .i64 0, .int .i64 0, .slice none 0 0] 31) = V := ⟨_, rfl⟩
        rw [hN] at m14 nx ⊢
        clear hN
        refine ptk ?_
        obtain ⟨b2, hb2⟩ : ∃ b2, V4.heap.size = b2 := ⟨_, rfl⟩
        rw [hb2] at nx ⊢
        have or_2 := Mv.le hS hb2
        have o1_2 := Xlo bx1 hb2
        have bx2 := hide nx
        clear nx
        replace hS := hS.step m14 (fun _ _ h => h.elim)
        clear hb2
        replace HB := Xhn HB m14
        refine kd_call (i := 1) (by kernel_rfl) rfl (by rfl) (by kernel_rfl) (toLine_rg L sa sc qa qc V14 (hs0.out.below HB.out.below) (hq0.out.below HB.out.below) hsl hql) ?_
        rintro e V15 ⟨y1, y2, rfl, ts, tq, tap, hbl⟩
        have m15 : Mv (nob) V14 V15 := Mv.of_below hbl
        replace hS := hS.step m15 (fun _ _ h => h.elim)
        refine ⟨_, rfl, fun _ => hS, ?_⟩
        refine ptk ?_
        have TS := hide ts; have TQ := hide tq
        clear ts tq tap hbl
        refine kd_call (i := 3) (by kernel_rfl) rfl (by rfl) (by kernel_rfl) (toMsg_any k c to l t d V15) ?_
        rintro e V16 ⟨rfl, hbl⟩
        have m16 : Mv (nob) V15 V16 := Mv.of_below hbl
        replace hS := hS.step m16 (fun _ _ h => h.elim)
        refine ⟨_, rfl, fun _ => hS, ?_⟩
        refine ptk ?_
        replace TS := hide (TS.out.mv m16 (fun _ _ h => h))
        replace TQ := hide (TQ.out.mv m16 (fun _ _ h => h))
        clear hbl
        replace bx0 := Xbn (Xbn (Xbn bx0 m14) m15) m16; replace bx1 := Xbn (Xbn (Xbn bx1 m14) m15) m16; replace HB := Xhn (Xhn HB m15) m16; replace bx2 := Xbn (Xbn bx2 m15) m16
        have szV := HB.out.size
        have bz := lt_of_block bx2.out
        obtain ⟨loW, hloW⟩ : ∃ n, V16.heap.size = n := ⟨_, rfl⟩
        refine kd_call (i := 4) (by kernel_rfl) rfl (by rfl) (by kernel_rfl) (hspec.out V16 y1 y2 TS.out.sg TQ.out.sg) ?_
        rintro e V17 ⟨wsa, wsc, wqa, wqc, wta, wtc, rfl, rs_, rq_, rt_, rap_, hbl⟩
        have m17 : Mv (nob) V16 V17 := Mv.of_below hbl
        replace hS := hS.step m17 (fun _ _ h => h.elim)
        refine ⟨_, rfl, fun _ => hS, ?_⟩
        refine ptk ?_
        replace TS := hide (TS.out.mv m17 (fun _ _ h => h))
        replace TQ := hide (TQ.out.mv m17 (fun _ _ h => h))
        rw [hloW] at szV bz
        obtain ⟨hiW, hhiW⟩ : ∃ n, V17.heap.size = n := ⟨_, rfl⟩
        have Wl : Hid (∀ g, (rb (.slice wsa X.sh.length wsc) = some g ∨ rb (.slice wqa X.q.length wqc) = some g ∨ rb (.slice wta M.length wtc) = some g) → loW ≤ g ∧ g < hiW) := hide (by rw [← hloW, ← hhiW]; exact fun g h => h.elim (rs_.lt g) (fun h => h.elim (rq_.lt g) (rt_.lt g)))
        have Wb : Hid (∀ g, (rb (.slice wsa X.sh.length wsc) = some g ∨ rb (.slice wqa X.q.length wqc) = some g ∨ rb (.slice wta M.length wtc) = some g) → g ≠ b0 ∧ g ≠ b1 ∧ g ≠ b2) := hide (fun g h => by have := Wl.out g h; exact (by omega))
        have Wz : Hid (hiW ≤ V17.heap.size) := hide (Nat.le_of_eq hhiW.symm)
        have WS := hide (rs_.base (hloW ▸ szV))
        have WQ := hide (rq_.base (hloW ▸ szV))
        have WT := hide (rt_.base (hloW ▸ szV))
        have WA := hide rap_
        have olh_0 : loW ≤ hiW := by rw [← hloW, ← hhiW]; exact hbl.size
        have olo_0 : w.heap.size ≤ loW := by omega
        clear rap_ rs_ rq_ rt_ szV bz hloW hhiW hbl
        refine tk0 5 (.tuple #[.agg #[.int .i64 X.mem, .int .i64 X.own, .slice wsa X.sh.length wsc, .int .i64 X.bu, .int .i64 X.wt, .int .i64 X.ac, .slice wqa X.q.length wqc], .slice wta M.length wtc, .bool B]) rfl ?_
        refine tk0 6 (.agg #[.int .i64 X.mem, .int .i64 X.own, .slice wsa X.sh.length wsc, .int .i64 X.bu, .int .i64 X.wt, .int .i64 X.ac, .slice wqa X.q.length wqc]) rfl ?_
        refine tk0 7 (.slice wta M.length wtc) rfl ?_
        refine tk0 8 (.bool B) rfl ?_
        replace HB := Xhn HB m17; replace bx0 := Xbn bx0 m17; replace bx1 := Xbn bx1 m17; replace bx2 := Xbn bx2 m17
        have hMx := hM1.out V17 b2 y1 y2 wsa wsc wqa wqc wta wtc loW hiW HB.out (by omega) bx0.out bx1.out bx2.out (by omega) (by omega) Wl.out WA.out WS.out WQ.out WT.out Wb.out Wz.out (by omega) hS
        rw [hG.out] at hMx
        exact hMx
    refine hide ?_
    intro V8 b2 y1 y2 wsa wsc wqa wqc wta wtc loW hiW HB o1_2 bx0 bx1 bx2 olo_0 olh_0 Wl WA WS WQ WT Wb Wz or_2 hS
    replace HB := hide HB; replace bx0 := hide bx0; replace bx1 := hide bx1; replace bx2 := hide bx2; replace Wl := hide Wl; replace WA := hide WA; replace WS := hide WS; replace WQ := hide WQ; replace WT := hide WT; replace Wb := hide Wb; replace Wz := hide Wz
    rw [hG.out]; clear hG
    refine kd_skipI (i := 10) (w' := ((((((V8.setCell ⟨b2, 0, none⟩ (.int .i64 X.mem)).setCell ⟨b2, 1, none⟩ (.int .i64 X.own)).setCell ⟨b2, 2, none⟩ (.slice wsa X.sh.length wsc)).setCell ⟨b2, 3, none⟩ (.int .i64 X.bu)).setCell ⟨b2, 4, none⟩ (.int .i64 X.wt)).setCell ⟨b2, 5, none⟩ (.int .i64 X.ac)).setCell ⟨b2, 6, none⟩ (.slice wqa X.q.length wqc)) (fun V => Mv (fun g => g = b2) V8 V ∧ V.heap[b2]? = some (.cells #[.int .i64 X.mem, .int .i64 X.own, .slice wsa X.sh.length wsc, .int .i64 X.bu, .int .i64 X.wt, .int .i64 X.ac, .slice wqa X.q.length wqc] 31 (0, 0))) (by kernel_rfl) rfl (by rfl) (by have fr := fun i => frozen_of_row _ _ i _ _ bx2.out; have z0 := cell_box 0 bx2.out rfl; have z1 := cell_box 1 bx2.out rfl; have z2 := cell_box 2 bx2.out rfl; have z3 := cell_box 3 bx2.out rfl; have z4 := cell_box 4 bx2.out rfl; have z5 := cell_box 5 bx2.out rfl; have z6 := cell_box 6 bx2.out rfl; go_simp) ⟨Mv.set (Mv.set (Mv.set (Mv.set (Mv.set (Mv.set (Mv.set (Mv.refl _ _) _ _) _ _) _ _) _ _) _ _) _ _) _ _, (heap_setCell_same _ _ 6 _ _ _ (heap_setCell_same _ _ 5 _ _ _ (heap_setCell_same _ _ 4 _ _ _ (heap_setCell_same _ _ 3 _ _ _ (heap_setCell_same _ _ 2 _ _ _ (heap_setCell_same _ _ 1 _ _ _ (heap_setCell_same _ _ 0 _ _ _ (bx2.out)))))))).trans rfl⟩ (fun V hI _ => hS.step hI.1 (fun g hg h => by have h : g = b2 := h; exfalso; omega)) ?_
    rintro V18 ⟨m18, nxV18⟩
    refine ptk ?_
    replace WS := hide (WS.out.mv m18 (fun g e h => by have h : g = b2 := h; have := Wb.out g (.inl e); omega))
    replace WQ := hide (WQ.out.mv m18 (fun g e h => by have h : g = b2 := h; have := Wb.out g (.inr (.inl e)); omega))
    replace WT := hide (WT.out.mv m18 (fun g e h => by have h : g = b2 := h; have := Wb.out g (.inr (.inr e)); omega))
    replace Wz := hide (Nat.le_trans Wz.out (m18).size)
    replace bx2 := hide nxV18
    clear nxV18
    replace hS := hS.step m18 (fun g hg h => by have h : g = b2 := h; exfalso; omega)
    refine tk0 11 (.slice wta M.length wtc) rfl ?_
    refine tk0 12 (.bool B) rfl ?_
    refine wpAnyK_done (by kernel_rfl) ?_
    clear hS rbx0 rbx1
    refine then_normal (h7 _ _ (sk fun K8 h8 => rl ?_)); clear h7 K7
    replace HB := Xhb HB m18; replace bx0 := Xbb bx0 m18; replace bx1 := Xbb bx1 m18
    refine sg (.agg #[.int .i64 L.mem, .int .i64 L.own, .slice sa L.sh.length sc, .int .i64 L.bu, .int .i64 L.wt, .int .i64 L.ac, .slice qa L.q.length qc]) (h := by have z0 := cell_box 0 (bx0.out) rfl; have z1 := cell_box 1 (bx0.out) rfl; have z2 := cell_box 2 (bx0.out) rfl; have z3 := cell_box 3 (bx0.out) rfl; have z4 := cell_box 4 (bx0.out) rfl; have z5 := cell_box 5 (bx0.out) rfl; have z6 := cell_box 6 (bx0.out) rfl; go_simp) ?_
    have szV := HB.out.size
    have bz := lt_of_block bx2.out
    obtain ⟨loX, hloX⟩ : ∃ n, V18.heap.size = n := ⟨_, rfl⟩
    have pzW := Wz.out
    refine sw_call (by rfl) (by kernel_rfl) (toLine_rg L sa sc qa qc V18 (hs0.out.below HB.out.below) (hq0.out.below HB.out.below) hsl hql) ?_
    rintro e V19 ⟨x1, x2, rfl, rs_, rq_, rap_, hbl⟩
    have m19 : Mv (nob) V18 V19 := Mv.of_below hbl
    refine ⟨_, rfl, ?_⟩
    refine pt ?_
    replace WS := hide (WS.out.mv m19 (fun _ _ h => h))
    replace WQ := hide (WQ.out.mv m19 (fun _ _ h => h))
    replace WT := hide (WT.out.mv m19 (fun _ _ h => h))
    replace Wz := hide (Nat.le_trans Wz.out (m19).size)
    rw [hloX] at szV bz pzW
    obtain ⟨hiX, hhiX⟩ : ∃ n, V19.heap.size = n := ⟨_, rfl⟩
    have Xl : Hid (∀ g, (rb (.slice (some ⟨x1, 0, none⟩) L.sh.length L.sh.length) = some g ∨ rb (.slice (some ⟨x2, 0, none⟩) L.q.length L.q.length) = some g) → loX ≤ g ∧ g < hiX) := hide (by rw [← hloX, ← hhiX]; exact fun g h => h.elim (rs_.lt g) (rq_.lt g))
    have Xb : Hid (∀ g, (rb (.slice (some ⟨x1, 0, none⟩) L.sh.length L.sh.length) = some g ∨ rb (.slice (some ⟨x2, 0, none⟩) L.q.length L.q.length) = some g) → g ≠ b0 ∧ g ≠ b1 ∧ g ≠ b2) := hide (fun g h => by have := Xl.out g h; exact (by omega))
    have Xz : Hid (hiX ≤ V19.heap.size) := hide (Nat.le_of_eq hhiX.symm)
    have XS := hide (rs_.base (hloX ▸ szV))
    have XQ := hide (rq_.base (hloX ▸ szV))
    have XA := hide rap_
    have olh_1 : loX ≤ hiX := by rw [← hloX, ← hhiX]; exact hbl.size
    have olo_1 : hiW ≤ loX := by omega
    clear rap_ rs_ rq_ szV bz hloX hhiX hbl pzW
    replace HB := Xhn HB m19; replace bx0 := Xbn bx0 m19; replace bx1 := Xbn bx1 m19; replace bx2 := Xbn bx2 m19
    refine sbp #[.int .i64 0, .int .i64 0, .slice none 0 0, .int .i64 0, .int .i64 0, .int .i64 0, .slice none 0 0] 31 fun V20 b3 hb3 m20 bx3 => ?_
    have o2_3 := Xlo bx2 hb3
    replace Wb : Hid (∀ g, (rb (.slice wsa X.sh.length wsc) = some g ∨ rb (.slice wqa X.q.length wqc) = some g ∨ rb (.slice wta M.length wtc) = some g) → g ≠ b0 ∧ g ≠ b1 ∧ g ≠ b2 ∧ g ≠ b3) := hide (fun g h => by have h1 := Wb.out g h; have h2 := Wl.out g h; have h3 := Wz.out; exact (by omega))
    replace Xb : Hid (∀ g, (rb (.slice (some ⟨x1, 0, none⟩) L.sh.length L.sh.length) = some g ∨ rb (.slice (some ⟨x2, 0, none⟩) L.q.length L.q.length) = some g) → g ≠ b0 ∧ g ≠ b1 ∧ g ≠ b2 ∧ g ≠ b3) := hide (fun g h => by have h1 := Xb.out g h; have h2 := Xl.out g h; have h3 := Xz.out; exact (by omega))
    replace WS := hide (WS.out.mv m20 (fun _ _ h => h))
    replace WQ := hide (WQ.out.mv m20 (fun _ _ h => h))
    replace WT := hide (WT.out.mv m20 (fun _ _ h => h))
    replace Wz := hide (Nat.le_trans Wz.out (m20).size)
    replace XS := hide (XS.out.mv m20 (fun _ _ h => h))
    replace XQ := hide (XQ.out.mv m20 (fun _ _ h => h))
    replace Xz := hide (Nat.le_trans Xz.out (m20).size)
    clear hb3
    refine ss7 (.int .i64 L.mem) (.int .i64 L.own) (.slice (some ⟨x1, 0, none⟩) L.sh.length L.sh.length) (.int .i64 L.bu) (.int .i64 L.wt) (.int .i64 L.ac) (.slice (some ⟨x2, 0, none⟩) L.q.length L.q.length) bx3 fun V21 m21 bx3 => ?_
    replace WS := hide (WS.out.mv m21 (fun g e h => by have h : g = b3 := h; have := Wb.out g (.inl e); omega))
    replace WQ := hide (WQ.out.mv m21 (fun g e h => by have h : g = b3 := h; have := Wb.out g (.inr (.inl e)); omega))
    replace WT := hide (WT.out.mv m21 (fun g e h => by have h : g = b3 := h; have := Wb.out g (.inr (.inr e)); omega))
    replace Wz := hide (Nat.le_trans Wz.out (m21).size)
    replace XS := hide (XS.out.mv m21 (fun g e h => by have h : g = b3 := h; have := Xb.out g (.inl e); omega))
    replace XQ := hide (XQ.out.mv m21 (fun g e h => by have h : g = b3 := h; have := Xb.out g (.inr e); omega))
    replace Xz := hide (Nat.le_trans Xz.out (m21).size)
    refine nt (h8 _ _ (sk fun K9 h9 => ?_)); clear h8 K8
    refine wp_region_but (z := 999) (S := fun w' => Mv (fun x => False) V21.drew w') (by kernel_rfl) (Mv.refl _ _) (fun hS => ?_)
    have m22 : Mv nob V21 V21.drew := Mv.drew _
    obtain ⟨V22, hN⟩ : ∃ V, V21.drew = V := ⟨_, rfl⟩
    rw [hN] at hS m22 ⊢
    clear hN
    replace WS := hide (WS.out.mv m22 (fun _ _ h => h))
    replace WQ := hide (WQ.out.mv m22 (fun _ _ h => h))
    replace WT := hide (WT.out.mv m22 (fun _ _ h => h))
    replace Wz := hide (Nat.le_trans Wz.out (m22).size)
    replace XS := hide (XS.out.mv m22 (fun _ _ h => h))
    replace XQ := hide (XQ.out.mv m22 (fun _ _ h => h))
    replace Xz := hide (Nat.le_trans Xz.out (m22).size)
    replace bx1 := Xbn (Xbb (Xbn bx1 m20) m21) m22; replace bx3 := Xbn bx3 m22
    have rbx1 := bx1; have rbx3 := bx3
    refine tk 0 (.agg #[.int .i64 L.mem, .int .i64 L.own, .slice (some ⟨x1, 0, none⟩) L.sh.length L.sh.length, .int .i64 L.bu, .int .i64 L.wt, .int .i64 L.ac, .slice (some ⟨x2, 0, none⟩) L.q.length L.q.length]) rfl (fun w' hSw => by (try dsimp only at hSw); have z0 := cell_box 0 (hSw.box rbx3.out (fun h => h)) rfl; have z1 := cell_box 1 (hSw.box rbx3.out (fun h => h)) rfl; have z2 := cell_box 2 (hSw.box rbx3.out (fun h => h)) rfl; have z3 := cell_box 3 (hSw.box rbx3.out (fun h => h)) rfl; have z4 := cell_box 4 (hSw.box rbx3.out (fun h => h)) rfl; have z5 := cell_box 5 (hSw.box rbx3.out (fun h => h)) rfl; have z6 := cell_box 6 (hSw.box rbx3.out (fun h => h)) rfl; go_simp) ?_
    refine tk 1 (.agg #[.int .i64 k, .int .i64 c, .int .i64 to, .int .i64 l, .int .i64 t, .int .i64 d]) rfl (fun w' hSw => by (try dsimp only at hSw); have z0 := cell_box 0 (hSw.box rbx1.out (fun h => h)) rfl; have z1 := cell_box 1 (hSw.box rbx1.out (fun h => h)) rfl; have z2 := cell_box 2 (hSw.box rbx1.out (fun h => h)) rfl; have z3 := cell_box 3 (hSw.box rbx1.out (fun h => h)) rfl; have z4 := cell_box 4 (hSw.box rbx1.out (fun h => h)) rfl; have z5 := cell_box 5 (hSw.box rbx1.out (fun h => h)) rfl; go_simp) ?_
    replace HB := Xhn (Xhb (Xhn HB m20) m21) m22; replace bx0 := Xbn (Xbb (Xbn bx0 m20) m21) m22; replace bx2 := Xbn (Xbb (Xbn bx2 m20) m21) m22
    refine region_states (fun G hG => ?_)
    try dsimp only
    replace hG := hide hG
    suffices hM2 : Hid (∀ (V25 : World) (b4 : Nat) (gsa : Option Addr) (gsc : Nat) (gqa : Option Addr) (gqc : Nat) (gta : Option Addr) (gtc : Nat) (loG : Nat) (hiG : Nat), (Mv nob w V25) → (b3 < b4) → (V25.heap[b0]? = some (.cells #[.int .i64 L.mem, .int .i64 L.own, .slice sa L.sh.length sc, .int .i64 L.bu, .int .i64 L.wt, .int .i64 L.ac, .slice qa L.q.length qc] 25 (0, 0))) → (V25.heap[b1]? = some (.cells #[.int .i64 k, .int .i64 c, .int .i64 to, .int .i64 l, .int .i64 t, .int .i64 d] 27 (0, 0))) → (V25.heap[b2]? = some (.cells #[.int .i64 X.mem, .int .i64 X.own, .slice wsa X.sh.length wsc, .int .i64 X.bu, .int .i64 X.wt, .int .i64 X.ac, .slice wqa X.q.length wqc] 31 (0, 0))) → (V25.heap[b3]? = some (.cells #[.int .i64 L.mem, .int .i64 L.own, .slice (some ⟨x1, 0, none⟩) L.sh.length L.sh.length, .int .i64 L.bu, .int .i64 L.wt, .int .i64 L.ac, .slice (some ⟨x2, 0, none⟩) L.q.length L.q.length] 31 (0, 0))) → (V25.heap[b4]? = some (.cells #[.int .i64 0, .int .i64 0, .slice none 0 0, .int .i64 0, .int .i64 0, .int .i64 0, .slice none 0 0] 31 (0, 0))) → (Rg V25 w.heap.size (.slice wsa X.sh.length wsc) 1 X.sh.length (gF (f1 X.sh))) → (Rg V25 w.heap.size (.slice wqa X.q.length wqc) 2 X.q.length (gF (f2 X.q))) → (Rg V25 w.heap.size (.slice wta M.length wtc) 6 M.length (gF (f6 M))) → (∀ g, (rb (.slice wsa X.sh.length wsc) = some g ∨ rb (.slice wqa X.q.length wqc) = some g ∨ rb (.slice wta M.length wtc) = some g) → g ≠ b0 ∧ g ≠ b1 ∧ g ≠ b2 ∧ g ≠ b3 ∧ g ≠ b4) → (hiW ≤ V25.heap.size) → (Rg V25 w.heap.size (.slice (some ⟨x1, 0, none⟩) L.sh.length L.sh.length) 1 L.sh.length (gF (f1 L.sh))) → (Rg V25 w.heap.size (.slice (some ⟨x2, 0, none⟩) L.q.length L.q.length) 2 L.q.length (gF (f2 L.q))) → (∀ g, (rb (.slice (some ⟨x1, 0, none⟩) L.sh.length L.sh.length) = some g ∨ rb (.slice (some ⟨x2, 0, none⟩) L.q.length L.q.length) = some g) → g ≠ b0 ∧ g ≠ b1 ∧ g ≠ b2 ∧ g ≠ b3 ∧ g ≠ b4) → (hiX ≤ V25.heap.size) → (hiX ≤ loG) → (loG ≤ hiG) → (∀ g, (rb (.slice gsa X.sh.length gsc) = some g ∨ rb (.slice gqa X.q.length gqc) = some g ∨ rb (.slice gta M.length gtc) = some g) → loG ≤ g ∧ g < hiG) → (Apt (.slice gsa X.sh.length gsc) (.slice gqa X.q.length gqc) (.slice gta M.length gtc)) → (Rg V25 w.heap.size (.slice gsa X.sh.length gsc) 1 X.sh.length (gF (f1 X.sh))) → (Rg V25 w.heap.size (.slice gqa X.q.length gqc) 2 X.q.length (gF (f2 X.q))) → (Rg V25 w.heap.size (.slice gta M.length gtc) 6 M.length (gF (f6 M))) → (∀ g, (rb (.slice gsa X.sh.length gsc) = some g ∨ rb (.slice gqa X.q.length gqc) = some g ∨ rb (.slice gta M.length gtc) = some g) → g ≠ b0 ∧ g ≠ b1 ∧ g ≠ b2 ∧ g ≠ b3 ∧ g ≠ b4) → (hiG ≤ V25.heap.size) → (V22.heap.size ≤ b4) → Mv (fun x => False) V22 V25 → G 3 #[true, true, true, true, true, true, true, true, true, false, false, false] #[.agg #[.int .i64 L.mem, .int .i64 L.own, .slice sa L.sh.length sc, .int .i64 L.bu, .int .i64 L.wt, .int .i64 L.ac, .slice qa L.q.length qc], .agg #[.int .i64 k, .int .i64 c, .int .i64 to, .int .i64 l, .int .i64 t, .int .i64 d], .pointer (some ⟨b0, 0, none⟩), .pointer (some ⟨b1, 0, none⟩), .bool false, .int .i64 r, .pointer (some ⟨b2, 0, none⟩), .slice wta M.length wtc, .bool B, .pointer (some ⟨b3, 0, none⟩), .pointer (some ⟨b4, 0, none⟩), undef, undef, undef, undef, undef, undef, undef, undef, .agg #[.int .i64 L.mem, .int .i64 L.own, .slice sa L.sh.length sc, .int .i64 L.bu, .int .i64 L.wt, .int .i64 L.ac, .slice qa L.q.length qc], .int .i64 1048576, .int .i64 r, .int .i64 r, .bool false, .tuple #[.agg #[.int .i64 X.mem, .int .i64 X.own, .slice wsa X.sh.length wsc, .int .i64 X.bu, .int .i64 X.wt, .int .i64 X.ac, .slice wqa X.q.length wqc], .slice wta M.length wtc, .bool B], .agg #[.int .i64 L.mem, .int .i64 L.own, .slice sa L.sh.length sc, .int .i64 L.bu, .int .i64 L.wt, .int .i64 L.ac, .slice qa L.q.length qc], .agg #[.int .i64 L.mem, .int .i64 L.own, .slice (some ⟨y1, 0, none⟩) L.sh.length L.sh.length, .int .i64 L.bu, .int .i64 L.wt, .int .i64 L.ac, .slice (some ⟨y2, 0, none⟩) L.q.length L.q.length], .agg #[.int .i64 k, .int .i64 c, .int .i64 to, .int .i64 l, .int .i64 t, .int .i64 d], .agg #[.int .i64 k, .int .i64 c, .int .i64 to, .int .i64 l, .int .i64 t, .int .i64 d], .tuple #[.agg #[.int .i64 X.mem, .int .i64 X.own, .slice wsa X.sh.length wsc, .int .i64 X.bu, .int .i64 X.wt, .int .i64 X.ac, .slice wqa X.q.length wqc], .slice wta M.length wtc, .bool B], .agg #[.int .i64 X.mem, .int .i64 X.own, .slice wsa X.sh.length wsc, .int .i64 X.bu, .int .i64 X.wt, .int .i64 X.ac, .slice wqa X.q.length wqc], .slice wta M.length wtc, .bool B, .agg #[.int .i64 L.mem, .int .i64 L.own, .slice sa L.sh.length sc, .int .i64 L.bu, .int .i64 L.wt, .int .i64 L.ac, .slice qa L.q.length qc], .agg #[.int .i64 L.mem, .int .i64 L.own, .slice (some ⟨x1, 0, none⟩) L.sh.length L.sh.length, .int .i64 L.bu, .int .i64 L.wt, .int .i64 L.ac, .slice (some ⟨x2, 0, none⟩) L.q.length L.q.length], .tuple #[.agg #[.int .i64 X.mem, .int .i64 X.own, .slice gsa X.sh.length gsc, .int .i64 X.bu, .int .i64 X.wt, .int .i64 X.ac, .slice gqa X.q.length gqc], .slice gta M.length gtc, .bool B], .agg #[.int .i64 L.mem, .int .i64 L.own, .slice (some ⟨x1, 0, none⟩) L.sh.length L.sh.length, .int .i64 L.bu, .int .i64 L.wt, .int .i64 L.ac, .slice (some ⟨x2, 0, none⟩) L.q.length L.q.length], .agg #[.int .i64 k, .int .i64 c, .int .i64 to, .int .i64 l, .int .i64 t, .int .i64 d], .agg #[.int .i64 k, .int .i64 c, .int .i64 to, .int .i64 l, .int .i64 t, .int .i64 d], .tuple #[.agg #[.int .i64 X.mem, .int .i64 X.own, .slice gsa X.sh.length gsc, .int .i64 X.bu, .int .i64 X.wt, .int .i64 X.ac, .slice gqa X.q.length gqc], .slice gta M.length gtc, .bool B], .agg #[.int .i64 X.mem, .int .i64 X.own, .slice gsa X.sh.length gsc, .int .i64 X.bu, .int .i64 X.wt, .int .i64 X.ac, .slice gqa X.q.length gqc], .slice gta M.length gtc, .bool B, undef, undef, undef, undef, undef, undef, undef, undef, undef, undef, undef, undef, undef, undef, undef, undef, undef, undef, undef, undef, undef, undef, undef, undef, undef, undef, undef, undef, undef, undef, undef, undef, undef, undef, undef, undef, undef, undef, undef, undef, undef, undef, undef, undef, undef, undef, undef, undef, undef, undef, undef, undef, undef, undef, undef, undef, undef, undef, undef, undef, undef, undef, undef, undef, undef, undef, undef, undef, undef, undef, undef, undef, undef, undef, undef, undef, undef, undef, undef, undef, undef, undef, undef, undef, undef, undef, undef, undef, undef, undef, undef, undef, undef, undef, undef, undef, undef, undef] V25) by
      rw [hG.out]
      refine kd_each2 (l := [2, 8]) (by kernel_rfl) rfl ⟨?_, ?_, trivial⟩
      · refine .inl ?_
        refine ⟨_, rfl, by rfl, .inr ⟨_, _, _, by kernel_rfl, toMsg_any k c to l t d V22, ?_⟩⟩
        rintro e V23 ⟨rfl, hbl⟩
        have m23 : Mv (nob) V22 V23 := Mv.of_below hbl
        replace hS := hS.step m23 (fun _ _ h => h.elim)
        refine ⟨_, rfl, fun _ => hS, ?_⟩
        refine ptk ?_
        replace WS := hide (WS.out.mv m23 (fun _ _ h => h))
        replace WQ := hide (WQ.out.mv m23 (fun _ _ h => h))
        replace WT := hide (WT.out.mv m23 (fun _ _ h => h))
        replace Wz := hide (Nat.le_trans Wz.out (m23).size)
        replace XS := hide (XS.out.mv m23 (fun _ _ h => h))
        replace XQ := hide (XQ.out.mv m23 (fun _ _ h => h))
        replace Xz := hide (Nat.le_trans Xz.out (m23).size)
        clear hbl
        replace HB := Xhn HB m23; replace bx0 := Xbn bx0 m23; replace bx1 := Xbn bx1 m23; replace bx2 := Xbn bx2 m23; replace bx3 := Xbn bx3 m23
        refine kd_each2 (l := [3, 8]) (by kernel_rfl) rfl ⟨?_, ?_, trivial⟩
        · refine .inl ?_
          have szV := HB.out.size
          have bz := lt_of_block bx3.out
          obtain ⟨loG, hloG⟩ : ∃ n, V23.heap.size = n := ⟨_, rfl⟩
          have pzW := Wz.out
          have pzX := Xz.out
          refine ⟨_, rfl, by rfl, .inr ⟨_, _, _, by kernel_rfl, himpl.out V23 x1 x2 (hg0.out.mv HB.out (fun _ _ h => h)) (ht0.out.mv HB.out) ((he0.out.mv HB.out (fun _ _ h => h)).up HB.out.size) XS.out.sg XQ.out.sg, ?_⟩⟩
          rintro e V24 ⟨gsa, gsc, gqa, gqc, gta, gtc, rfl, rs_, rq_, rt_, rap_, hbl⟩
          have m24 : Mv (nob) V23 V24 := Mv.of_below hbl
          replace hS := hS.step m24 (fun _ _ h => h.elim)
          refine ⟨_, rfl, fun _ => hS, ?_⟩
          refine ptk ?_
          replace WS := hide (WS.out.mv m24 (fun _ _ h => h))
          replace WQ := hide (WQ.out.mv m24 (fun _ _ h => h))
          replace WT := hide (WT.out.mv m24 (fun _ _ h => h))
          replace Wz := hide (Nat.le_trans Wz.out (m24).size)
          replace XS := hide (XS.out.mv m24 (fun _ _ h => h))
          replace XQ := hide (XQ.out.mv m24 (fun _ _ h => h))
          replace Xz := hide (Nat.le_trans Xz.out (m24).size)
          rw [hloG] at szV bz pzW pzX
          obtain ⟨hiG, hhiG⟩ : ∃ n, V24.heap.size = n := ⟨_, rfl⟩
          have Gl : Hid (∀ g, (rb (.slice gsa X.sh.length gsc) = some g ∨ rb (.slice gqa X.q.length gqc) = some g ∨ rb (.slice gta M.length gtc) = some g) → loG ≤ g ∧ g < hiG) := hide (by rw [← hloG, ← hhiG]; exact fun g h => h.elim (rs_.lt g) (fun h => h.elim (rq_.lt g) (rt_.lt g)))
          have Gb : Hid (∀ g, (rb (.slice gsa X.sh.length gsc) = some g ∨ rb (.slice gqa X.q.length gqc) = some g ∨ rb (.slice gta M.length gtc) = some g) → g ≠ b0 ∧ g ≠ b1 ∧ g ≠ b2 ∧ g ≠ b3) := hide (fun g h => by have := Gl.out g h; exact (by omega))
          have Gz : Hid (hiG ≤ V24.heap.size) := hide (Nat.le_of_eq hhiG.symm)
          have GS := hide (rs_.base (hloG ▸ szV))
          have GQ := hide (rq_.base (hloG ▸ szV))
          have GT := hide (rt_.base (hloG ▸ szV))
          have GA := hide rap_
          have olh_2 : loG ≤ hiG := by rw [← hloG, ← hhiG]; exact hbl.size
          have olo_2 : hiX ≤ loG := by omega
          clear rap_ rs_ rq_ rt_ szV bz hloG hhiG hbl pzW pzX
          refine tk0 4 (.tuple #[.agg #[.int .i64 X.mem, .int .i64 X.own, .slice gsa X.sh.length gsc, .int .i64 X.bu, .int .i64 X.wt, .int .i64 X.ac, .slice gqa X.q.length gqc], .slice gta M.length gtc, .bool B]) rfl ?_
          refine tk0 5 (.agg #[.int .i64 X.mem, .int .i64 X.own, .slice gsa X.sh.length gsc, .int .i64 X.bu, .int .i64 X.wt, .int .i64 X.ac, .slice gqa X.q.length gqc]) rfl ?_
          refine tk0 6 (.slice gta M.length gtc) rfl ?_
          refine tk0 7 (.bool B) rfl ?_
          replace HB := Xhn HB m24; replace bx0 := Xbn bx0 m24; replace bx1 := Xbn bx1 m24; replace bx2 := Xbn bx2 m24; replace bx3 := Xbn bx3 m24
          refine kd_valI (i := 8) (v := .pointer (some ⟨V24.heap.size, 0, none⟩)) (w' := V24.alloc (.cells #[.int .i64 0, .int .i64 0, .slice none 0 0, .int .i64 0, .int .i64 0, .int .i64 0, .slice none 0 0] 31)) (fun V => Mv nob V24 V ∧ V.heap[V24.heap.size]? = some (.cells #[.int .i64 0, .int .i64 0, .slice none 0 0, .int .i64 0, .int .i64 0, .int .i64 0, .slice none 0 0] 31 (0, 0))) (by kernel_rfl) rfl (by rfl) (by first | rfl | go_simp) ⟨Mv.alloc _ _, heap_alloc_new _ _⟩ (fun V hI _ => hS.step hI.1 (fun _ _ h => h.elim)) ?_
          rintro V25 ⟨m25, nx⟩
          refine ptk ?_
          obtain ⟨b4, hb4⟩ : ∃ b4, V24.heap.size = b4 := ⟨_, rfl⟩
          rw [hb4] at nx ⊢
          have or_4 := Mv.le hS hb4
          have o3_4 := Xlo bx3 hb4
          replace Wb : Hid (∀ g, (rb (.slice wsa X.sh.length wsc) = some g ∨ rb (.slice wqa X.q.length wqc) = some g ∨ rb (.slice wta M.length wtc) = some g) → g ≠ b0 ∧ g ≠ b1 ∧ g ≠ b2 ∧ g ≠ b3 ∧ g ≠ b4) := hide (fun g h => by have h1 := Wb.out g h; have h2 := Wl.out g h; have h3 := Wz.out; exact (by omega))
          replace Xb : Hid (∀ g, (rb (.slice (some ⟨x1, 0, none⟩) L.sh.length L.sh.length) = some g ∨ rb (.slice (some ⟨x2, 0, none⟩) L.q.length L.q.length) = some g) → g ≠ b0 ∧ g ≠ b1 ∧ g ≠ b2 ∧ g ≠ b3 ∧ g ≠ b4) := hide (fun g h => by have h1 := Xb.out g h; have h2 := Xl.out g h; have h3 := Xz.out; exact (by omega))
          replace Gb : Hid (∀ g, (rb (.slice gsa X.sh.length gsc) = some g ∨ rb (.slice gqa X.q.length gqc) = some g ∨ rb (.slice gta M.length gtc) = some g) → g ≠ b0 ∧ g ≠ b1 ∧ g ≠ b2 ∧ g ≠ b3 ∧ g ≠ b4) := hide (fun g h => by have h1 := Gb.out g h; have h2 := Gl.out g h; have h3 := Gz.out; exact (by omega))
          replace WS := hide (WS.out.mv m25 (fun _ _ h => h))
          replace WQ := hide (WQ.out.mv m25 (fun _ _ h => h))
          replace WT := hide (WT.out.mv m25 (fun _ _ h => h))
          replace Wz := hide (Nat.le_trans Wz.out (m25).size)
          replace XS := hide (XS.out.mv m25 (fun _ _ h => h))
          replace XQ := hide (XQ.out.mv m25 (fun _ _ h => h))
          replace Xz := hide (Nat.le_trans Xz.out (m25).size)
          replace GS := hide (GS.out.mv m25 (fun _ _ h => h))
          replace GQ := hide (GQ.out.mv m25 (fun _ _ h => h))
          replace GT := hide (GT.out.mv m25 (fun _ _ h => h))
          replace Gz := hide (Nat.le_trans Gz.out (m25).size)
          have bx4 := hide nx
          clear nx
          replace hS := hS.step m25 (fun _ _ h => h.elim)
          clear hb4
          replace HB := Xhn HB m25; replace bx0 := Xbn bx0 m25; replace bx1 := Xbn bx1 m25; replace bx2 := Xbn bx2 m25; replace bx3 := Xbn bx3 m25
          have hMx := hM2.out V25 b4 gsa gsc gqa gqc gta gtc loG hiG HB.out (by omega) bx0.out bx1.out bx2.out bx3.out bx4.out WS.out WQ.out WT.out Wb.out Wz.out XS.out XQ.out Xb.out Xz.out (by omega) (by omega) Gl.out GA.out GS.out GQ.out GT.out Gb.out Gz.out (by omega) hS
          rw [hG.out] at hMx
          exact hMx
        · refine .inl ?_
          refine ⟨_, rfl, by rfl, .inl ⟨.pointer (some ⟨V23.heap.size, 0, none⟩), V23.alloc (.cells #[.int .i64 0, .int .i64 0, .slice none 0 0, .int .i64 0, .int .i64 0, .int .i64 0, .slice none 0 0] 31), (by first | rfl | go_simp), fun _ => hS.step (Mv.alloc _ _) (fun _ _ h => h.elim), ?_⟩⟩
          have m26 : Mv nob V23 (V23.alloc (.cells #[.int .i64 0, .int .i64 0, .slice none 0 0, .int .i64 0, .int .i64 0, .int .i64 0, .slice none 0 0] 31)) := Mv.alloc _ _
          have nx := heap_alloc_new V23 (.cells #[.int .i64 0, .int .i64 0, .slice none 0 0, .int .i64 0, .int .i64 0, .int .i64 0, .slice none 0 0] 31)
          obtain ⟨V26, hN⟩ : ∃ V, V23.alloc (.cells #[.int .i64 0, .int .i64 0, .slice none 0 0, .int .i64 0, .int .i64 0, .int .i64 0, .slice none 0 0] 31) = V := ⟨_, rfl⟩
          rw [hN] at m26 nx ⊢
          clear hN
          refine ptk ?_
          obtain ⟨b4, hb4⟩ : ∃ b4, V23.heap.size = b4 := ⟨_, rfl⟩
          rw [hb4] at nx ⊢
          have or_4 := Mv.le hS hb4
          have o3_4 := Xlo bx3 hb4
          replace Wb : Hid (∀ g, (rb (.slice wsa X.sh.length wsc) = some g ∨ rb (.slice wqa X.q.length wqc) = some g ∨ rb (.slice wta M.length wtc) = some g) → g ≠ b0 ∧ g ≠ b1 ∧ g ≠ b2 ∧ g ≠ b3 ∧ g ≠ b4) := hide (fun g h => by have h1 := Wb.out g h; have h2 := Wl.out g h; have h3 := Wz.out; exact (by omega))
          replace Xb : Hid (∀ g, (rb (.slice (some ⟨x1, 0, none⟩) L.sh.length L.sh.length) = some g ∨ rb (.slice (some ⟨x2, 0, none⟩) L.q.length L.q.length) = some g) → g ≠ b0 ∧ g ≠ b1 ∧ g ≠ b2 ∧ g ≠ b3 ∧ g ≠ b4) := hide (fun g h => by have h1 := Xb.out g h; have h2 := Xl.out g h; have h3 := Xz.out; exact (by omega))
          replace WS := hide (WS.out.mv m26 (fun _ _ h => h))
          replace WQ := hide (WQ.out.mv m26 (fun _ _ h => h))
          replace WT := hide (WT.out.mv m26 (fun _ _ h => h))
          replace Wz := hide (Nat.le_trans Wz.out (m26).size)
          replace XS := hide (XS.out.mv m26 (fun _ _ h => h))
          replace XQ := hide (XQ.out.mv m26 (fun _ _ h => h))
          replace Xz := hide (Nat.le_trans Xz.out (m26).size)
          have bx4 := hide nx
          clear nx
          replace hS := hS.step m26 (fun _ _ h => h.elim)
          clear hb4
          replace HB := Xhn HB m26; replace bx0 := Xbn bx0 m26; replace bx1 := Xbn bx1 m26; replace bx2 := Xbn bx2 m26; replace bx3 := Xbn bx3 m26
          have szV := HB.out.size
          have bz := lt_of_block bx4.out
          obtain ⟨loG, hloG⟩ : ∃ n, V26.heap.size = n := ⟨_, rfl⟩
          have pzW := Wz.out
          have pzX := Xz.out
          refine kd_call (i := 3) (by kernel_rfl) rfl (by rfl) (by kernel_rfl) (himpl.out V26 x1 x2 (hg0.out.mv HB.out (fun _ _ h => h)) (ht0.out.mv HB.out) ((he0.out.mv HB.out (fun _ _ h => h)).up HB.out.size) XS.out.sg XQ.out.sg) ?_
          rintro e V27 ⟨gsa, gsc, gqa, gqc, gta, gtc, rfl, rs_, rq_, rt_, rap_, hbl⟩
          have m27 : Mv (nob) V26 V27 := Mv.of_below hbl
          replace hS := hS.step m27 (fun _ _ h => h.elim)
          refine ⟨_, rfl, fun _ => hS, ?_⟩
          refine ptk ?_
          replace WS := hide (WS.out.mv m27 (fun _ _ h => h))
          replace WQ := hide (WQ.out.mv m27 (fun _ _ h => h))
          replace WT := hide (WT.out.mv m27 (fun _ _ h => h))
          replace Wz := hide (Nat.le_trans Wz.out (m27).size)
          replace XS := hide (XS.out.mv m27 (fun _ _ h => h))
          replace XQ := hide (XQ.out.mv m27 (fun _ _ h => h))
          replace Xz := hide (Nat.le_trans Xz.out (m27).size)
          rw [hloG] at szV bz pzW pzX
          obtain ⟨hiG, hhiG⟩ : ∃ n, V27.heap.size = n := ⟨_, rfl⟩
          have Gl : Hid (∀ g, (rb (.slice gsa X.sh.length gsc) = some g ∨ rb (.slice gqa X.q.length gqc) = some g ∨ rb (.slice gta M.length gtc) = some g) → loG ≤ g ∧ g < hiG) := hide (by rw [← hloG, ← hhiG]; exact fun g h => h.elim (rs_.lt g) (fun h => h.elim (rq_.lt g) (rt_.lt g)))
          have Gb : Hid (∀ g, (rb (.slice gsa X.sh.length gsc) = some g ∨ rb (.slice gqa X.q.length gqc) = some g ∨ rb (.slice gta M.length gtc) = some g) → g ≠ b0 ∧ g ≠ b1 ∧ g ≠ b2 ∧ g ≠ b3 ∧ g ≠ b4) := hide (fun g h => by have := Gl.out g h; exact (by omega))
          have Gz : Hid (hiG ≤ V27.heap.size) := hide (Nat.le_of_eq hhiG.symm)
          have GS := hide (rs_.base (hloG ▸ szV))
          have GQ := hide (rq_.base (hloG ▸ szV))
          have GT := hide (rt_.base (hloG ▸ szV))
          have GA := hide rap_
          have olh_2 : loG ≤ hiG := by rw [← hloG, ← hhiG]; exact hbl.size
          have olo_2 : hiX ≤ loG := by omega
          clear rap_ rs_ rq_ rt_ szV bz hloG hhiG hbl pzW pzX
          refine tk0 4 (.tuple #[.agg #[.int .i64 X.mem, .int .i64 X.own, .slice gsa X.sh.length gsc, .int .i64 X.bu, .int .i64 X.wt, .int .i64 X.ac, .slice gqa X.q.length gqc], .slice gta M.length gtc, .bool B]) rfl ?_
          refine tk0 5 (.agg #[.int .i64 X.mem, .int .i64 X.own, .slice gsa X.sh.length gsc, .int .i64 X.bu, .int .i64 X.wt, .int .i64 X.ac, .slice gqa X.q.length gqc]) rfl ?_
          refine tk0 6 (.slice gta M.length gtc) rfl ?_
          refine tk0 7 (.bool B) rfl ?_
          replace HB := Xhn HB m27; replace bx0 := Xbn bx0 m27; replace bx1 := Xbn bx1 m27; replace bx2 := Xbn bx2 m27; replace bx3 := Xbn bx3 m27; replace bx4 := Xbn bx4 m27
          have hMx := hM2.out V27 b4 gsa gsc gqa gqc gta gtc loG hiG HB.out (by omega) bx0.out bx1.out bx2.out bx3.out bx4.out WS.out WQ.out WT.out Wb.out Wz.out XS.out XQ.out Xb.out Xz.out (by omega) (by omega) Gl.out GA.out GS.out GQ.out GT.out Gb.out Gz.out (by omega) hS
          rw [hG.out] at hMx
          exact hMx
      · refine .inl ?_
        refine ⟨_, rfl, by rfl, .inl ⟨.pointer (some ⟨V22.heap.size, 0, none⟩), V22.alloc (.cells #[.int .i64 0, .int .i64 0, .slice none 0 0, .int .i64 0, .int .i64 0, .int .i64 0, .slice none 0 0] 31), (by first | rfl | go_simp), fun _ => hS.step (Mv.alloc _ _) (fun _ _ h => h.elim), ?_⟩⟩
        have m28 : Mv nob V22 (V22.alloc (.cells #[.int .i64 0, .int .i64 0, .slice none 0 0, .int .i64 0, .int .i64 0, .int .i64 0, .slice none 0 0] 31)) := Mv.alloc _ _
        have nx := heap_alloc_new V22 (.cells #[.int .i64 0, .int .i64 0, .slice none 0 0, .int .i64 0, .int .i64 0, .int .i64 0, .slice none 0 0] 31)
        obtain ⟨V28, hN⟩ : ∃ V, V22.alloc (.cells #[.int .i64 0, .int .i64 0, .slice none 0 0, .int .i64 0, .int .i64 0, .int .i64 0, .slice none 0 0] 31) = V := ⟨_, rfl⟩
        rw [hN] at m28 nx ⊢
        clear hN
        refine ptk ?_
        obtain ⟨b4, hb4⟩ : ∃ b4, V22.heap.size = b4 := ⟨_, rfl⟩
        rw [hb4] at nx ⊢
        have or_4 := Mv.le hS hb4
        have o3_4 := Xlo bx3 hb4
        replace Wb : Hid (∀ g, (rb (.slice wsa X.sh.length wsc) = some g ∨ rb (.slice wqa X.q.length wqc) = some g ∨ rb (.slice wta M.length wtc) = some g) → g ≠ b0 ∧ g ≠ b1 ∧ g ≠ b2 ∧ g ≠ b3 ∧ g ≠ b4) := hide (fun g h => by have h1 := Wb.out g h; have h2 := Wl.out g h; have h3 := Wz.out; exact (by omega))
        replace Xb : Hid (∀ g, (rb (.slice (some ⟨x1, 0, none⟩) L.sh.length L.sh.length) = some g ∨ rb (.slice (some ⟨x2, 0, none⟩) L.q.length L.q.length) = some g) → g ≠ b0 ∧ g ≠ b1 ∧ g ≠ b2 ∧ g ≠ b3 ∧ g ≠ b4) := hide (fun g h => by have h1 := Xb.out g h; have h2 := Xl.out g h; have h3 := Xz.out; exact (by omega))
        replace WS := hide (WS.out.mv m28 (fun _ _ h => h))
        replace WQ := hide (WQ.out.mv m28 (fun _ _ h => h))
        replace WT := hide (WT.out.mv m28 (fun _ _ h => h))
        replace Wz := hide (Nat.le_trans Wz.out (m28).size)
        replace XS := hide (XS.out.mv m28 (fun _ _ h => h))
        replace XQ := hide (XQ.out.mv m28 (fun _ _ h => h))
        replace Xz := hide (Nat.le_trans Xz.out (m28).size)
        have bx4 := hide nx
        clear nx
        replace hS := hS.step m28 (fun _ _ h => h.elim)
        clear hb4
        refine kd_call (i := 2) (by kernel_rfl) rfl (by rfl) (by kernel_rfl) (toMsg_any k c to l t d V28) ?_
        rintro e V29 ⟨rfl, hbl⟩
        have m29 : Mv (nob) V28 V29 := Mv.of_below hbl
        replace hS := hS.step m29 (fun _ _ h => h.elim)
        refine ⟨_, rfl, fun _ => hS, ?_⟩
        refine ptk ?_
        replace WS := hide (WS.out.mv m29 (fun _ _ h => h))
        replace WQ := hide (WQ.out.mv m29 (fun _ _ h => h))
        replace WT := hide (WT.out.mv m29 (fun _ _ h => h))
        replace Wz := hide (Nat.le_trans Wz.out (m29).size)
        replace XS := hide (XS.out.mv m29 (fun _ _ h => h))
        replace XQ := hide (XQ.out.mv m29 (fun _ _ h => h))
        replace Xz := hide (Nat.le_trans Xz.out (m29).size)
        clear hbl
        replace HB := Xhn (Xhn HB m28) m29; replace bx0 := Xbn (Xbn bx0 m28) m29; replace bx1 := Xbn (Xbn bx1 m28) m29; replace bx2 := Xbn (Xbn bx2 m28) m29; replace bx3 := Xbn (Xbn bx3 m28) m29; replace bx4 := Xbn bx4 m29
        have szV := HB.out.size
        have bz := lt_of_block bx4.out
        obtain ⟨loG, hloG⟩ : ∃ n, V29.heap.size = n := ⟨_, rfl⟩
        have pzW := Wz.out
        have pzX := Xz.out
        refine kd_call (i := 3) (by kernel_rfl) rfl (by rfl) (by kernel_rfl) (himpl.out V29 x1 x2 (hg0.out.mv HB.out (fun _ _ h => h)) (ht0.out.mv HB.out) ((he0.out.mv HB.out (fun _ _ h => h)).up HB.out.size) XS.out.sg XQ.out.sg) ?_
        rintro e V30 ⟨gsa, gsc, gqa, gqc, gta, gtc, rfl, rs_, rq_, rt_, rap_, hbl⟩
        have m30 : Mv (nob) V29 V30 := Mv.of_below hbl
        replace hS := hS.step m30 (fun _ _ h => h.elim)
        refine ⟨_, rfl, fun _ => hS, ?_⟩
        refine ptk ?_
        replace WS := hide (WS.out.mv m30 (fun _ _ h => h))
        replace WQ := hide (WQ.out.mv m30 (fun _ _ h => h))
        replace WT := hide (WT.out.mv m30 (fun _ _ h => h))
        replace Wz := hide (Nat.le_trans Wz.out (m30).size)
        replace XS := hide (XS.out.mv m30 (fun _ _ h => h))
        replace XQ := hide (XQ.out.mv m30 (fun _ _ h => h))
        replace Xz := hide (Nat.le_trans Xz.out (m30).size)
        rw [hloG] at szV bz pzW pzX
        obtain ⟨hiG, hhiG⟩ : ∃ n, V30.heap.size = n := ⟨_, rfl⟩
        have Gl : Hid (∀ g, (rb (.slice gsa X.sh.length gsc) = some g ∨ rb (.slice gqa X.q.length gqc) = some g ∨ rb (.slice gta M.length gtc) = some g) → loG ≤ g ∧ g < hiG) := hide (by rw [← hloG, ← hhiG]; exact fun g h => h.elim (rs_.lt g) (fun h => h.elim (rq_.lt g) (rt_.lt g)))
        have Gb : Hid (∀ g, (rb (.slice gsa X.sh.length gsc) = some g ∨ rb (.slice gqa X.q.length gqc) = some g ∨ rb (.slice gta M.length gtc) = some g) → g ≠ b0 ∧ g ≠ b1 ∧ g ≠ b2 ∧ g ≠ b3 ∧ g ≠ b4) := hide (fun g h => by have := Gl.out g h; exact (by omega))
        have Gz : Hid (hiG ≤ V30.heap.size) := hide (Nat.le_of_eq hhiG.symm)
        have GS := hide (rs_.base (hloG ▸ szV))
        have GQ := hide (rq_.base (hloG ▸ szV))
        have GT := hide (rt_.base (hloG ▸ szV))
        have GA := hide rap_
        have olh_2 : loG ≤ hiG := by rw [← hloG, ← hhiG]; exact hbl.size
        have olo_2 : hiX ≤ loG := by omega
        clear rap_ rs_ rq_ rt_ szV bz hloG hhiG hbl pzW pzX
        refine tk0 4 (.tuple #[.agg #[.int .i64 X.mem, .int .i64 X.own, .slice gsa X.sh.length gsc, .int .i64 X.bu, .int .i64 X.wt, .int .i64 X.ac, .slice gqa X.q.length gqc], .slice gta M.length gtc, .bool B]) rfl ?_
        refine tk0 5 (.agg #[.int .i64 X.mem, .int .i64 X.own, .slice gsa X.sh.length gsc, .int .i64 X.bu, .int .i64 X.wt, .int .i64 X.ac, .slice gqa X.q.length gqc]) rfl ?_
        refine tk0 6 (.slice gta M.length gtc) rfl ?_
        refine tk0 7 (.bool B) rfl ?_
        replace HB := Xhn HB m30; replace bx0 := Xbn bx0 m30; replace bx1 := Xbn bx1 m30; replace bx2 := Xbn bx2 m30; replace bx3 := Xbn bx3 m30; replace bx4 := Xbn bx4 m30
        have hMx := hM2.out V30 b4 gsa gsc gqa gqc gta gtc loG hiG HB.out (by omega) bx0.out bx1.out bx2.out bx3.out bx4.out WS.out WQ.out WT.out Wb.out Wz.out XS.out XQ.out Xb.out Xz.out (by omega) (by omega) Gl.out GA.out GS.out GQ.out GT.out Gb.out Gz.out (by omega) hS
        rw [hG.out] at hMx
        exact hMx
    refine hide ?_
    intro V25 b4 gsa gsc gqa gqc gta gtc loG hiG HB o3_4 bx0 bx1 bx2 bx3 bx4 WS WQ WT Wb Wz XS XQ Xb Xz olo_2 olh_2 Gl GA GS GQ GT Gb Gz or_4 hS
    replace HB := hide HB; replace bx0 := hide bx0; replace bx1 := hide bx1; replace bx2 := hide bx2; replace bx3 := hide bx3; replace bx4 := hide bx4; replace WS := hide WS; replace WQ := hide WQ; replace WT := hide WT; replace Wb := hide Wb; replace Wz := hide Wz; replace XS := hide XS; replace XQ := hide XQ; replace Xb := hide Xb; replace Xz := hide Xz; replace Gl := hide Gl; replace GA := hide GA; replace GS := hide GS; replace GQ := hide GQ; replace GT := hide GT; replace Gb := hide Gb; replace Gz := hide Gz
    rw [hG.out]; clear hG
    refine kd_skipI (i := 9) (w' := ((((((V25.setCell ⟨b4, 0, none⟩ (.int .i64 X.mem)).setCell ⟨b4, 1, none⟩ (.int .i64 X.own)).setCell ⟨b4, 2, none⟩ (.slice gsa X.sh.length gsc)).setCell ⟨b4, 3, none⟩ (.int .i64 X.bu)).setCell ⟨b4, 4, none⟩ (.int .i64 X.wt)).setCell ⟨b4, 5, none⟩ (.int .i64 X.ac)).setCell ⟨b4, 6, none⟩ (.slice gqa X.q.length gqc)) (fun V => Mv (fun g => g = b4) V25 V ∧ V.heap[b4]? = some (.cells #[.int .i64 X.mem, .int .i64 X.own, .slice gsa X.sh.length gsc, .int .i64 X.bu, .int .i64 X.wt, .int .i64 X.ac, .slice gqa X.q.length gqc] 31 (0, 0))) (by kernel_rfl) rfl (by rfl) (by have fr := fun i => frozen_of_row _ _ i _ _ bx4.out; have z0 := cell_box 0 bx4.out rfl; have z1 := cell_box 1 bx4.out rfl; have z2 := cell_box 2 bx4.out rfl; have z3 := cell_box 3 bx4.out rfl; have z4 := cell_box 4 bx4.out rfl; have z5 := cell_box 5 bx4.out rfl; have z6 := cell_box 6 bx4.out rfl; go_simp) ⟨Mv.set (Mv.set (Mv.set (Mv.set (Mv.set (Mv.set (Mv.set (Mv.refl _ _) _ _) _ _) _ _) _ _) _ _) _ _) _ _, (heap_setCell_same _ _ 6 _ _ _ (heap_setCell_same _ _ 5 _ _ _ (heap_setCell_same _ _ 4 _ _ _ (heap_setCell_same _ _ 3 _ _ _ (heap_setCell_same _ _ 2 _ _ _ (heap_setCell_same _ _ 1 _ _ _ (heap_setCell_same _ _ 0 _ _ _ (bx4.out)))))))).trans rfl⟩ (fun V hI _ => hS.step hI.1 (fun g hg h => by have h : g = b4 := h; exfalso; omega)) ?_
    rintro V31 ⟨m31, nxV31⟩
    refine ptk ?_
    replace WS := hide (WS.out.mv m31 (fun g e h => by have h : g = b4 := h; have := Wb.out g (.inl e); omega))
    replace WQ := hide (WQ.out.mv m31 (fun g e h => by have h : g = b4 := h; have := Wb.out g (.inr (.inl e)); omega))
    replace WT := hide (WT.out.mv m31 (fun g e h => by have h : g = b4 := h; have := Wb.out g (.inr (.inr e)); omega))
    replace Wz := hide (Nat.le_trans Wz.out (m31).size)
    replace XS := hide (XS.out.mv m31 (fun g e h => by have h : g = b4 := h; have := Xb.out g (.inl e); omega))
    replace XQ := hide (XQ.out.mv m31 (fun g e h => by have h : g = b4 := h; have := Xb.out g (.inr e); omega))
    replace Xz := hide (Nat.le_trans Xz.out (m31).size)
    replace GS := hide (GS.out.mv m31 (fun g e h => by have h : g = b4 := h; have := Gb.out g (.inl e); omega))
    replace GQ := hide (GQ.out.mv m31 (fun g e h => by have h : g = b4 := h; have := Gb.out g (.inr (.inl e)); omega))
    replace GT := hide (GT.out.mv m31 (fun g e h => by have h : g = b4 := h; have := Gb.out g (.inr (.inr e)); omega))
    replace Gz := hide (Nat.le_trans Gz.out (m31).size)
    replace bx4 := hide nxV31
    clear nxV31
    replace hS := hS.step m31 (fun g hg h => by have h : g = b4 := h; exfalso; omega)
    refine tk0 10 (.slice gta M.length gtc) rfl ?_
    refine tk0 11 (.bool B) rfl ?_
    refine wpAnyK_done (by kernel_rfl) ?_
    clear hS rbx1 rbx3
    refine then_normal (h9 _ _ (sk fun K10 h10 => sk fun K11 h11 => rl ?_)); clear h9 K9
    replace HB := Xhb HB m31; replace bx0 := Xbb bx0 m31; replace bx1 := Xbb bx1 m31; replace bx2 := Xbb bx2 m31; replace bx3 := Xbb bx3 m31
    refine sg (.agg #[.int .i64 X.mem, .int .i64 X.own, .slice gsa X.sh.length gsc, .int .i64 X.bu, .int .i64 X.wt, .int .i64 X.ac, .slice gqa X.q.length gqc]) (h := by have z0 := cell_box 0 (bx4.out) rfl; have z1 := cell_box 1 (bx4.out) rfl; have z2 := cell_box 2 (bx4.out) rfl; have z3 := cell_box 3 (bx4.out) rfl; have z4 := cell_box 4 (bx4.out) rfl; have z5 := cell_box 5 (bx4.out) rfl; have z6 := cell_box 6 (bx4.out) rfl; go_simp) ?_
    refine sg (.agg #[.int .i64 X.mem, .int .i64 X.own, .slice wsa X.sh.length wsc, .int .i64 X.bu, .int .i64 X.wt, .int .i64 X.ac, .slice wqa X.q.length wqc]) (h := by have z0 := cell_box 0 (bx2.out) rfl; have z1 := cell_box 1 (bx2.out) rfl; have z2 := cell_box 2 (bx2.out) rfl; have z3 := cell_box 3 (bx2.out) rfl; have z4 := cell_box 4 (bx2.out) rfl; have z5 := cell_box 5 (bx2.out) rfl; have z6 := cell_box 6 (bx2.out) rfl; go_simp) ?_
    refine sw_call (by rfl) (by kernel_rfl) (eqLine_any X.mem X.own _ _ X.sh X.bu X.wt X.ac _ _ X.q.length (f2 X.q) V31 (sg_sl GS.out.sg) (sg_sl WS.out.sg) hsz.1 (sg_sr GQ.out.sg) (sg_sr WQ.out.sg) hsz.2.1) ?_
    rintro e V32 ⟨rfl, hbl⟩
    have m32 : Mv (nob) V31 V32 := Mv.of_below hbl
    refine ⟨_, rfl, ?_⟩
    refine pt ?_
    replace WS := hide (WS.out.mv m32 (fun _ _ h => h))
    replace WQ := hide (WQ.out.mv m32 (fun _ _ h => h))
    replace WT := hide (WT.out.mv m32 (fun _ _ h => h))
    replace Wz := hide (Nat.le_trans Wz.out (m32).size)
    replace XS := hide (XS.out.mv m32 (fun _ _ h => h))
    replace XQ := hide (XQ.out.mv m32 (fun _ _ h => h))
    replace Xz := hide (Nat.le_trans Xz.out (m32).size)
    replace GS := hide (GS.out.mv m32 (fun _ _ h => h))
    replace GQ := hide (GQ.out.mv m32 (fun _ _ h => h))
    replace GT := hide (GT.out.mv m32 (fun _ _ h => h))
    replace Gz := hide (Nat.le_trans Gz.out (m32).size)
    clear hbl
    refine sg (.bool false) ?_
    refine sv (.bool false) ?_
    refine sv (.slice gta M.length gtc) ?_
    refine sv (.slice wta M.length wtc) ?_
    refine sw_call (by rfl) (by kernel_rfl) (eqMsgS_same _ _ M.length (f6 M) V32 (sg_sr GT.out.sg) (sg_sr WT.out.sg) hsz.2.2) ?_
    rintro e V33 ⟨rfl, hbl⟩
    have m33 : Mv (nob) V32 V33 := Mv.of_below hbl
    refine ⟨_, rfl, ?_⟩
    refine pt ?_
    replace WS := hide (WS.out.mv m33 (fun _ _ h => h))
    replace WQ := hide (WQ.out.mv m33 (fun _ _ h => h))
    replace WT := hide (WT.out.mv m33 (fun _ _ h => h))
    replace Wz := hide (Nat.le_trans Wz.out (m33).size)
    replace XS := hide (XS.out.mv m33 (fun _ _ h => h))
    replace XQ := hide (XQ.out.mv m33 (fun _ _ h => h))
    replace Xz := hide (Nat.le_trans Xz.out (m33).size)
    replace GS := hide (GS.out.mv m33 (fun _ _ h => h))
    replace GQ := hide (GQ.out.mv m33 (fun _ _ h => h))
    replace GT := hide (GT.out.mv m33 (fun _ _ h => h))
    replace Gz := hide (Nat.le_trans Gz.out (m33).size)
    clear hbl
    refine sg (.bool false) ?_
    refine sg (.bool false) ?_
    refine sv (.bool false) ?_
    refine sv (.bool B) ?_
    refine sv (.bool B) ?_
    refine sg (.bool false) (h := by have hd : (B != B) = false := (by simp); go_simp) ?_
    refine sg (.bool false) ?_
    refine nt (h11 _ _ (cf (wp_skip (then_normal (h10 _ _ (sk fun K12 h12 => sk fun K13 h13 => ?_)))))); clear h11 K11; clear h10 K10
    refine wp_region_but (z := 999) (S := fun w' => Mv (fun x => False) V33.drew w') (by kernel_rfl) (Mv.refl _ _) (fun hS => ?_)
    have m34 : Mv nob V33 V33.drew := Mv.drew _
    obtain ⟨V34, hN⟩ : ∃ V, V33.drew = V := ⟨_, rfl⟩
    rw [hN] at hS m34 ⊢
    clear hN
    replace WS := hide (WS.out.mv m34 (fun _ _ h => h))
    replace WQ := hide (WQ.out.mv m34 (fun _ _ h => h))
    replace WT := hide (WT.out.mv m34 (fun _ _ h => h))
    replace Wz := hide (Nat.le_trans Wz.out (m34).size)
    replace XS := hide (XS.out.mv m34 (fun _ _ h => h))
    replace XQ := hide (XQ.out.mv m34 (fun _ _ h => h))
    replace Xz := hide (Nat.le_trans Xz.out (m34).size)
    replace GS := hide (GS.out.mv m34 (fun _ _ h => h))
    replace GQ := hide (GQ.out.mv m34 (fun _ _ h => h))
    replace GT := hide (GT.out.mv m34 (fun _ _ h => h))
    replace Gz := hide (Nat.le_trans Gz.out (m34).size)
    replace bx0 := Xbn (Xbn (Xbn bx0 m32) m33) m34; replace bx3 := Xbn (Xbn (Xbn bx3 m32) m33) m34
    have rbx0 := bx0; have rbx3 := bx3
    refine tk 0 (.agg #[.int .i64 L.mem, .int .i64 L.own, .slice (some ⟨x1, 0, none⟩) L.sh.length L.sh.length, .int .i64 L.bu, .int .i64 L.wt, .int .i64 L.ac, .slice (some ⟨x2, 0, none⟩) L.q.length L.q.length]) rfl (fun w' hSw => by (try dsimp only at hSw); have z0 := cell_box 0 (hSw.box rbx3.out (fun h => h)) rfl; have z1 := cell_box 1 (hSw.box rbx3.out (fun h => h)) rfl; have z2 := cell_box 2 (hSw.box rbx3.out (fun h => h)) rfl; have z3 := cell_box 3 (hSw.box rbx3.out (fun h => h)) rfl; have z4 := cell_box 4 (hSw.box rbx3.out (fun h => h)) rfl; have z5 := cell_box 5 (hSw.box rbx3.out (fun h => h)) rfl; have z6 := cell_box 6 (hSw.box rbx3.out (fun h => h)) rfl; go_simp) ?_
    refine tk 1 (.agg #[.int .i64 L.mem, .int .i64 L.own, .slice sa L.sh.length sc, .int .i64 L.bu, .int .i64 L.wt, .int .i64 L.ac, .slice qa L.q.length qc]) rfl (fun w' hSw => by (try dsimp only at hSw); have z0 := cell_box 0 (hSw.box rbx0.out (fun h => h)) rfl; have z1 := cell_box 1 (hSw.box rbx0.out (fun h => h)) rfl; have z2 := cell_box 2 (hSw.box rbx0.out (fun h => h)) rfl; have z3 := cell_box 3 (hSw.box rbx0.out (fun h => h)) rfl; have z4 := cell_box 4 (hSw.box rbx0.out (fun h => h)) rfl; have z5 := cell_box 5 (hSw.box rbx0.out (fun h => h)) rfl; have z6 := cell_box 6 (hSw.box rbx0.out (fun h => h)) rfl; go_simp) ?_
    replace HB := Xhn (Xhn (Xhn HB m32) m33) m34
    refine kd_call (i := 2) (by kernel_rfl) rfl (by rfl) (by kernel_rfl) (toLine_rg L sa sc qa qc V34 (hs0.out.below HB.out.below) (hq0.out.below HB.out.below) hsl hql) ?_
    rintro e V35 ⟨z1, z2, rfl, ts, tq, tap, hbl⟩
    have m35 : Mv (nob) V34 V35 := Mv.of_below hbl
    replace hS := hS.step m35 (fun _ _ h => h.elim)
    refine ⟨_, rfl, fun _ => hS, ?_⟩
    refine ptk ?_
    replace WS := hide (WS.out.mv m35 (fun _ _ h => h))
    replace WQ := hide (WQ.out.mv m35 (fun _ _ h => h))
    replace WT := hide (WT.out.mv m35 (fun _ _ h => h))
    replace Wz := hide (Nat.le_trans Wz.out (m35).size)
    replace XS := hide (XS.out.mv m35 (fun _ _ h => h))
    replace XQ := hide (XQ.out.mv m35 (fun _ _ h => h))
    replace Xz := hide (Nat.le_trans Xz.out (m35).size)
    replace GS := hide (GS.out.mv m35 (fun _ _ h => h))
    replace GQ := hide (GQ.out.mv m35 (fun _ _ h => h))
    replace GT := hide (GT.out.mv m35 (fun _ _ h => h))
    replace Gz := hide (Nat.le_trans Gz.out (m35).size)
    have TS := hide ts; have TQ := hide tq
    clear ts tq tap hbl
    refine kd_call (i := 3) (by kernel_rfl) rfl (by rfl) (by kernel_rfl) (eqLine_any L.mem L.own _ _ L.sh L.bu L.wt L.ac _ _ L.q.length (f2 L.q) V35 (sg_sl XS.out.sg) (sg_sl TS.out.sg) hsl (sg_sr XQ.out.sg) (sg_sr TQ.out.sg) hql) ?_
    rintro e V36 ⟨rfl, hbl⟩
    have m36 : Mv (nob) V35 V36 := Mv.of_below hbl
    replace hS := hS.step m36 (fun _ _ h => h.elim)
    refine ⟨_, rfl, fun _ => hS, ?_⟩
    refine ptk ?_
    replace WS := hide (WS.out.mv m36 (fun _ _ h => h))
    replace WQ := hide (WQ.out.mv m36 (fun _ _ h => h))
    replace WT := hide (WT.out.mv m36 (fun _ _ h => h))
    replace Wz := hide (Nat.le_trans Wz.out (m36).size)
    replace XS := hide (XS.out.mv m36 (fun _ _ h => h))
    replace XQ := hide (XQ.out.mv m36 (fun _ _ h => h))
    replace Xz := hide (Nat.le_trans Xz.out (m36).size)
    replace GS := hide (GS.out.mv m36 (fun _ _ h => h))
    replace GQ := hide (GQ.out.mv m36 (fun _ _ h => h))
    replace GT := hide (GT.out.mv m36 (fun _ _ h => h))
    replace Gz := hide (Nat.le_trans Gz.out (m36).size)
    replace TS := hide (TS.out.mv m36 (fun _ _ h => h))
    replace TQ := hide (TQ.out.mv m36 (fun _ _ h => h))
    clear hbl
    refine tk0 4 (.bool false) rfl ?_
    refine wpAnyK_done (by kernel_rfl) ?_
    clear hS rbx0 rbx3
    refine then_normal (h13 _ _ (cf (wp_skip (then_normal (h12 _ _ (sk fun K14 h14 => rl ?_)))))); clear h13 K13; clear h12 K12
    replace bx1 := Xbn (Xbn (Xbn (Xbn (Xbn bx1 m32) m33) m34) m35) m36; replace bx2 := Xbn (Xbn (Xbn (Xbn (Xbn bx2 m32) m33) m34) m35) m36; replace bx4 := Xbn (Xbn (Xbn (Xbn (Xbn bx4 m32) m33) m34) m35) m36; replace HB := Xhn (Xhn HB m35) m36; replace bx0 := Xbn (Xbn bx0 m35) m36; replace bx3 := Xbn (Xbn bx3 m35) m36
    clear TS TQ
    refine sv (.int .i64 1) ?_
    refine nt (h14 _ _ (sk fun K15 h15 => rl ?_)); clear h14 K14
    refine sg (.agg #[.int .i64 L.mem, .int .i64 L.own, .slice (some ⟨x1, 0, none⟩) L.sh.length L.sh.length, .int .i64 L.bu, .int .i64 L.wt, .int .i64 L.ac, .slice (some ⟨x2, 0, none⟩) L.q.length L.q.length]) (h := by have z0 := cell_box 0 (bx3.out) rfl; have z1 := cell_box 1 (bx3.out) rfl; have z2 := cell_box 2 (bx3.out) rfl; have z3 := cell_box 3 (bx3.out) rfl; have z4 := cell_box 4 (bx3.out) rfl; have z5 := cell_box 5 (bx3.out) rfl; have z6 := cell_box 6 (bx3.out) rfl; go_simp) ?_
    refine sv (.int .i64 1) ?_
    refine sw_call (by rfl) (by kernel_rfl) (markLine_rg L _ _ _ _ 1 w.heap.size V36 XS.out XQ.out XA.out hsl hql (by decide) (by decide)) ?_
    rintro e V37 ⟨rfl, mm, r1, r2⟩
    have m37 : Mv (fun g => rb (.slice (some ⟨x1, 0, none⟩) L.sh.length L.sh.length) = some g ∨ rb (.slice (some ⟨x2, 0, none⟩) L.q.length L.q.length) = some g) V36 V37 := mm
    refine ⟨_, rfl, ?_⟩
    refine pt ?_
    replace HB := hide (HB.out.step m37 (fun g hg e => by have := Xl.out g (e); omega))
    replace bx0 := hide (m37.box bx0.out (fun h => by have := Xb.out _ (h); omega))
    replace bx1 := hide (m37.box bx1.out (fun h => by have := Xb.out _ (h); omega))
    replace WS := hide (WS.out.mv m37 (fun g e h => by have h1 := Wl.out g (.inl e); have h2 := Xl.out g (h); omega))
    replace WQ := hide (WQ.out.mv m37 (fun g e h => by have h1 := Wl.out g (.inr (.inl e)); have h2 := Xl.out g (h); omega))
    replace WT := hide (WT.out.mv m37 (fun g e h => by have h1 := Wl.out g (.inr (.inr e)); have h2 := Xl.out g (h); omega))
    replace Wz := hide (Nat.le_trans Wz.out (m37).size)
    replace bx2 := hide (m37.box bx2.out (fun h => by have := Xb.out _ (h); omega))
    replace Xz := hide (Nat.le_trans Xz.out (m37).size)
    replace bx3 := hide (m37.box bx3.out (fun h => by have := Xb.out _ (h); omega))
    replace GS := hide (GS.out.mv m37 (fun g e h => by have h1 := Gl.out g (.inl e); have h2 := Xl.out g (h); omega))
    replace GQ := hide (GQ.out.mv m37 (fun g e h => by have h1 := Gl.out g (.inr (.inl e)); have h2 := Xl.out g (h); omega))
    replace GT := hide (GT.out.mv m37 (fun g e h => by have h1 := Gl.out g (.inr (.inr e)); have h2 := Xl.out g (h); omega))
    replace Gz := hide (Nat.le_trans Gz.out (m37).size)
    replace bx4 := hide (m37.box bx4.out (fun h => by have := Xb.out _ (h); omega))
    clear mm r1 r2 XS XQ
    refine sv (.int .i64 (1 + (L.sh.length : Int) + 2 * (L.q.length : Int))) ?_
    refine nt (h15 _ _ (sk fun K16 h16 => sk fun K17 h17 => rl ?_)); clear h15 K15
    refine sv (.int .i64 (1 + (L.sh.length : Int) + 2 * (L.q.length : Int))) ?_
    refine sg (.bool false) (h := by have hd := hd1.out; go_simp) ?_
    refine sv (.bool false) ?_
    refine sg (.agg #[.int .i64 X.mem, .int .i64 X.own, .slice gsa X.sh.length gsc, .int .i64 X.bu, .int .i64 X.wt, .int .i64 X.ac, .slice gqa X.q.length gqc]) (h := by have z0 := cell_box 0 (bx4.out) rfl; have z1 := cell_box 1 (bx4.out) rfl; have z2 := cell_box 2 (bx4.out) rfl; have z3 := cell_box 3 (bx4.out) rfl; have z4 := cell_box 4 (bx4.out) rfl; have z5 := cell_box 5 (bx4.out) rfl; have z6 := cell_box 6 (bx4.out) rfl; go_simp) ?_
    refine sg (.agg #[.int .i64 X.mem, .int .i64 X.own, .slice wsa X.sh.length wsc, .int .i64 X.bu, .int .i64 X.wt, .int .i64 X.ac, .slice wqa X.q.length wqc]) (h := by have z0 := cell_box 0 (bx2.out) rfl; have z1 := cell_box 1 (bx2.out) rfl; have z2 := cell_box 2 (bx2.out) rfl; have z3 := cell_box 3 (bx2.out) rfl; have z4 := cell_box 4 (bx2.out) rfl; have z5 := cell_box 5 (bx2.out) rfl; have z6 := cell_box 6 (bx2.out) rfl; go_simp) ?_
    refine sw_call (by rfl) (by kernel_rfl) (eqLine_any X.mem X.own _ _ X.sh X.bu X.wt X.ac _ _ X.q.length (f2 X.q) V37 (sg_sl GS.out.sg) (sg_sl WS.out.sg) hsz.1 (sg_sr GQ.out.sg) (sg_sr WQ.out.sg) hsz.2.1) ?_
    rintro e V38 ⟨rfl, hbl⟩
    have m38 : Mv (nob) V37 V38 := Mv.of_below hbl
    refine ⟨_, rfl, ?_⟩
    refine pt ?_
    replace WS := hide (WS.out.mv m38 (fun _ _ h => h))
    replace WQ := hide (WQ.out.mv m38 (fun _ _ h => h))
    replace WT := hide (WT.out.mv m38 (fun _ _ h => h))
    replace Wz := hide (Nat.le_trans Wz.out (m38).size)
    replace Xz := hide (Nat.le_trans Xz.out (m38).size)
    replace GS := hide (GS.out.mv m38 (fun _ _ h => h))
    replace GQ := hide (GQ.out.mv m38 (fun _ _ h => h))
    replace GT := hide (GT.out.mv m38 (fun _ _ h => h))
    replace Gz := hide (Nat.le_trans Gz.out (m38).size)
    clear hbl
    refine sg (.bool false) ?_
    refine sg (.bool false) ?_
    refine sv (.bool false) ?_
    refine sv (.slice gta M.length gtc) ?_
    refine sv (.slice wta M.length wtc) ?_
    refine sw_call (by rfl) (by kernel_rfl) (eqMsgS_same _ _ M.length (f6 M) V38 (sg_sr GT.out.sg) (sg_sr WT.out.sg) hsz.2.2) ?_
    rintro e V39 ⟨rfl, hbl⟩
    have m39 : Mv (nob) V38 V39 := Mv.of_below hbl
    refine ⟨_, rfl, ?_⟩
    refine pt ?_
    replace WS := hide (WS.out.mv m39 (fun _ _ h => h))
    replace WQ := hide (WQ.out.mv m39 (fun _ _ h => h))
    replace WT := hide (WT.out.mv m39 (fun _ _ h => h))
    replace Wz := hide (Nat.le_trans Wz.out (m39).size)
    replace Xz := hide (Nat.le_trans Xz.out (m39).size)
    replace GS := hide (GS.out.mv m39 (fun _ _ h => h))
    replace GQ := hide (GQ.out.mv m39 (fun _ _ h => h))
    replace GT := hide (GT.out.mv m39 (fun _ _ h => h))
    replace Gz := hide (Nat.le_trans Gz.out (m39).size)
    clear hbl
    refine sg (.bool false) ?_
    refine sg (.bool false) ?_
    refine sv (.bool false) ?_
    refine sv (.bool B) ?_
    refine sv (.bool B) ?_
    refine sg (.bool false) (h := by have hd : (B != B) = false := (by simp); go_simp) ?_
    refine sg (.bool false) ?_
    refine nt (h17 _ _ (cf (wp_skip (then_normal (h16 _ _ (sk fun K18 h18 => rl ?_)))))); clear h17 K17; clear h16 K16
    refine sv (.int .i64 1) ?_
    refine nt (h18 _ _ (sk fun K19 h19 => rl ?_)); clear h18 K18
    replace bx4 := Xbn (Xbn bx4 m38) m39
    refine sg (.agg #[.int .i64 X.mem, .int .i64 X.own, .slice gsa X.sh.length gsc, .int .i64 X.bu, .int .i64 X.wt, .int .i64 X.ac, .slice gqa X.q.length gqc]) (h := by have z0 := cell_box 0 (bx4.out) rfl; have z1 := cell_box 1 (bx4.out) rfl; have z2 := cell_box 2 (bx4.out) rfl; have z3 := cell_box 3 (bx4.out) rfl; have z4 := cell_box 4 (bx4.out) rfl; have z5 := cell_box 5 (bx4.out) rfl; have z6 := cell_box 6 (bx4.out) rfl; go_simp) ?_
    refine sv (.int .i64 1) ?_
    refine sw_call (by rfl) (by kernel_rfl) (markLine_rg X _ _ _ _ 1 w.heap.size V39 GS.out GQ.out (fun g e => (GA.out.1 g e).1) hsz.1 hsz.2.1 (by decide) (by decide)) ?_
    rintro e V40 ⟨rfl, mm, r1, r2⟩
    have m40 : Mv (fun g => rb (.slice gsa X.sh.length gsc) = some g ∨ rb (.slice gqa X.q.length gqc) = some g) V39 V40 := mm
    refine ⟨_, rfl, ?_⟩
    refine pt ?_
    replace HB := Xhn (Xhn HB m38) m39
    replace HB := hide (HB.out.step m40 (fun g hg e => by have := Gl.out g ((e.elim .inl (fun q => .inr (.inl q)))); omega))
    replace bx0 := Xbn (Xbn bx0 m38) m39
    replace bx0 := hide (m40.box bx0.out (fun h => by have := Gb.out _ ((h.elim .inl (fun q => .inr (.inl q)))); omega))
    replace bx1 := Xbn (Xbn bx1 m38) m39
    replace bx1 := hide (m40.box bx1.out (fun h => by have := Gb.out _ ((h.elim .inl (fun q => .inr (.inl q)))); omega))
    replace WS := hide (WS.out.mv m40 (fun g e h => by have h1 := Wl.out g (.inl e); have h2 := Gl.out g ((h.elim .inl (fun q => .inr (.inl q)))); omega))
    replace WQ := hide (WQ.out.mv m40 (fun g e h => by have h1 := Wl.out g (.inr (.inl e)); have h2 := Gl.out g ((h.elim .inl (fun q => .inr (.inl q)))); omega))
    replace WT := hide (WT.out.mv m40 (fun g e h => by have h1 := Wl.out g (.inr (.inr e)); have h2 := Gl.out g ((h.elim .inl (fun q => .inr (.inl q)))); omega))
    replace Wz := hide (Nat.le_trans Wz.out (m40).size)
    replace bx2 := Xbn (Xbn bx2 m38) m39
    replace bx2 := hide (m40.box bx2.out (fun h => by have := Gb.out _ ((h.elim .inl (fun q => .inr (.inl q)))); omega))
    replace Xz := hide (Nat.le_trans Xz.out (m40).size)
    replace bx3 := Xbn (Xbn bx3 m38) m39
    replace bx3 := hide (m40.box bx3.out (fun h => by have := Gb.out _ ((h.elim .inl (fun q => .inr (.inl q)))); omega))
    replace GT := hide (GT.out.mv m40 (fun g e h => h.elim (fun q => (GA.out.1 g q).2 e) (fun q => GA.out.2 g q e)))
    replace Gz := hide (Nat.le_trans Gz.out (m40).size)
    replace bx4 := hide (m40.box bx4.out (fun h => by have := Gb.out _ ((h.elim .inl (fun q => .inr (.inl q)))); omega))
    replace GS := hide r1; replace GQ := hide r2
    clear mm r1 r2
    refine sv (.int .i64 (1 + (X.sh.length : Int) + 2 * (X.q.length : Int))) ?_
    refine nt (h19 _ _ (sk fun K20 h20 => rl ?_)); clear h19 K19
    refine sv (.slice gta M.length gtc) ?_
    refine sv (.int .i64 (1 + (X.sh.length : Int) + 2 * (X.q.length : Int))) ?_
    refine sw_call (by rfl) (by kernel_rfl) (markM_rg _ _ _ _ (1 + (X.sh.length : Int) + 2 * (X.q.length : Int)) w.heap.size V40 GT.out hsz.2.2 hk0 hk1) ?_
    rintro e V41 ⟨rfl, mm, r1⟩
    have m41 : Mv (fun g => rb (.slice gta M.length gtc) = some g) V40 V41 := mm
    refine ⟨_, rfl, ?_⟩
    refine pt ?_
    replace HB := hide (HB.out.step m41 (fun g hg e => by have := Gl.out g ((.inr (.inr e))); omega))
    replace bx0 := hide (m41.box bx0.out (fun h => by have := Gb.out _ ((.inr (.inr h))); omega))
    replace bx1 := hide (m41.box bx1.out (fun h => by have := Gb.out _ ((.inr (.inr h))); omega))
    replace WS := hide (WS.out.mv m41 (fun g e h => by have h1 := Wl.out g (.inl e); have h2 := Gl.out g ((.inr (.inr h))); omega))
    replace WQ := hide (WQ.out.mv m41 (fun g e h => by have h1 := Wl.out g (.inr (.inl e)); have h2 := Gl.out g ((.inr (.inr h))); omega))
    replace WT := hide (WT.out.mv m41 (fun g e h => by have h1 := Wl.out g (.inr (.inr e)); have h2 := Gl.out g ((.inr (.inr h))); omega))
    replace Wz := hide (Nat.le_trans Wz.out (m41).size)
    replace bx2 := hide (m41.box bx2.out (fun h => by have := Gb.out _ ((.inr (.inr h))); omega))
    replace Xz := hide (Nat.le_trans Xz.out (m41).size)
    replace bx3 := hide (m41.box bx3.out (fun h => by have := Gb.out _ ((.inr (.inr h))); omega))
    replace GS := hide (GS.out.mv m41 (fun g e h => (GA.out.1 g e).2 h))
    replace GQ := hide (GQ.out.mv m41 (fun g e h => GA.out.2 g e h))
    replace Gz := hide (Nat.le_trans Gz.out (m41).size)
    replace bx4 := hide (m41.box bx4.out (fun h => by have := Gb.out _ ((.inr (.inr h))); omega))
    replace GT := hide r1
    clear mm r1
    refine sv (.int .i64 (1 + (X.sh.length : Int) + 2 * (X.q.length : Int) + 6 * (M.length : Int))) ?_
    refine nt (h20 _ _ (sk fun K21 h21 => rl ?_)); clear h20 K20
    refine sv (.int .i64 1) ?_
    refine nt (h21 _ _ (sk fun K22 h22 => rl ?_)); clear h21 K21
    refine sg (.agg #[.int .i64 X.mem, .int .i64 X.own, .slice gsa X.sh.length gsc, .int .i64 X.bu, .int .i64 X.wt, .int .i64 X.ac, .slice gqa X.q.length gqc]) (h := by have z0 := cell_box 0 (bx4.out) rfl; have z1 := cell_box 1 (bx4.out) rfl; have z2 := cell_box 2 (bx4.out) rfl; have z3 := cell_box 3 (bx4.out) rfl; have z4 := cell_box 4 (bx4.out) rfl; have z5 := cell_box 5 (bx4.out) rfl; have z6 := cell_box 6 (bx4.out) rfl; go_simp) ?_
    refine sv (.int .i64 1) ?_
    refine sw_call (by rfl) (by kernel_rfl) (heldLine_any X _ _ _ _ 1 V41 GS.out.sg GQ.out.sg hsz.1 hsz.2.1 (by decide) (by decide)) ?_
    rintro e V42 ⟨rfl, hbl⟩
    have m42 : Mv (nob) V41 V42 := Mv.of_below hbl
    refine ⟨_, rfl, ?_⟩
    refine pt ?_
    replace WS := hide (WS.out.mv m42 (fun _ _ h => h))
    replace WQ := hide (WQ.out.mv m42 (fun _ _ h => h))
    replace WT := hide (WT.out.mv m42 (fun _ _ h => h))
    replace Wz := hide (Nat.le_trans Wz.out (m42).size)
    replace Xz := hide (Nat.le_trans Xz.out (m42).size)
    replace GS := hide (GS.out.mv m42 (fun _ _ h => h))
    replace GQ := hide (GQ.out.mv m42 (fun _ _ h => h))
    replace GT := hide (GT.out.mv m42 (fun _ _ h => h))
    replace Gz := hide (Nat.le_trans Gz.out (m42).size)
    clear hbl
    refine sv (.int .i64 (1 + (X.sh.length : Int) + 2 * (X.q.length : Int))) ?_
    refine nt (h22 _ _ (sk fun K23 h23 => sk fun K24 h24 => rl ?_)); clear h22 K22
    refine sv (.int .i64 (1 + (X.sh.length : Int) + 2 * (X.q.length : Int))) ?_
    refine sg (.bool false) (h := by have hd := hd2.out; go_simp) ?_
    refine nt (h24 _ _ (cf (wp_skip (then_normal (h23 _ _ (sk fun K25 h25 => rl ?_)))))); clear h24 K24; clear h23 K23
    refine sv (.slice gta M.length gtc) ?_
    refine sv (.int .i64 (1 + (X.sh.length : Int) + 2 * (X.q.length : Int))) ?_
    refine sw_call (by rfl) (by kernel_rfl) (heldM_any _ _ (1 + (X.sh.length : Int) + 2 * (X.q.length : Int)) V42 hsz.2.2 hk0 hk1 GT.out.sg) ?_
    rintro e V43 ⟨rfl, hbl⟩
    have m43 : Mv (nob) V42 V43 := Mv.of_below hbl
    refine ⟨_, rfl, ?_⟩
    refine pt ?_
    replace WS := hide (WS.out.mv m43 (fun _ _ h => h))
    replace WQ := hide (WQ.out.mv m43 (fun _ _ h => h))
    replace WT := hide (WT.out.mv m43 (fun _ _ h => h))
    replace Wz := hide (Nat.le_trans Wz.out (m43).size)
    replace Xz := hide (Nat.le_trans Xz.out (m43).size)
    replace GS := hide (GS.out.mv m43 (fun _ _ h => h))
    replace GQ := hide (GQ.out.mv m43 (fun _ _ h => h))
    replace GT := hide (GT.out.mv m43 (fun _ _ h => h))
    replace Gz := hide (Nat.le_trans Gz.out (m43).size)
    clear hbl
    refine sv (.int .i64 (1 + (X.sh.length : Int) + 2 * (X.q.length : Int) + 6 * (M.length : Int))) ?_
    refine nt (h25 _ _ (sk fun K26 h26 => sk fun K27 h27 => rl ?_)); clear h25 K25
    refine sv (.int .i64 (1 + (X.sh.length : Int) + 2 * (X.q.length : Int) + 6 * (M.length : Int))) ?_
    refine sg (.bool false) (h := by have hd := hd3.out; go_simp) ?_
    refine nt (h27 _ _ (cf (wp_skip (then_normal (h26 _ _ (sk fun K28 h28 => sk fun K29 h29 => rl ?_)))))); clear h27 K27; clear h26 K26
    refine sv (.int .i64 (1 + (X.sh.length : Int) + 2 * (X.q.length : Int) + 6 * (M.length : Int))) ?_
    refine sv (.int .i64 (1 + (X.sh.length : Int) + 2 * (X.q.length : Int) + 6 * (M.length : Int))) ?_
    refine sg (.bool false) ?_
    refine nt (h29 _ _ (cf (wp_skip (then_normal (h28 _ _ (sk fun K30 h30 => ?_)))))); clear h29 K29; clear h28 K28
    refine wp_region_but (z := 999) (S := fun w' => Mv (fun x => False) V43.drew w') (by kernel_rfl) (Mv.refl _ _) (fun hS => ?_)
    have m44 : Mv nob V43 V43.drew := Mv.drew _
    obtain ⟨V44, hN⟩ : ∃ V, V43.drew = V := ⟨_, rfl⟩
    rw [hN] at hS m44 ⊢
    clear hN
    replace WS := hide (WS.out.mv m44 (fun _ _ h => h))
    replace WQ := hide (WQ.out.mv m44 (fun _ _ h => h))
    replace WT := hide (WT.out.mv m44 (fun _ _ h => h))
    replace Wz := hide (Nat.le_trans Wz.out (m44).size)
    replace Xz := hide (Nat.le_trans Xz.out (m44).size)
    replace GS := hide (GS.out.mv m44 (fun _ _ h => h))
    replace GQ := hide (GQ.out.mv m44 (fun _ _ h => h))
    replace GT := hide (GT.out.mv m44 (fun _ _ h => h))
    replace Gz := hide (Nat.le_trans Gz.out (m44).size)
    replace bx0 := Xbn (Xbn (Xbn bx0 m42) m43) m44; replace bx1 := Xbn (Xbn (Xbn bx1 m42) m43) m44
    have rbx0 := bx0; have rbx1 := bx1
    refine tk 0 (.agg #[.int .i64 L.mem, .int .i64 L.own, .slice sa L.sh.length sc, .int .i64 L.bu, .int .i64 L.wt, .int .i64 L.ac, .slice qa L.q.length qc]) rfl (fun w' hSw => by (try dsimp only at hSw); have z0 := cell_box 0 (hSw.box rbx0.out (fun h => h)) rfl; have z1 := cell_box 1 (hSw.box rbx0.out (fun h => h)) rfl; have z2 := cell_box 2 (hSw.box rbx0.out (fun h => h)) rfl; have z3 := cell_box 3 (hSw.box rbx0.out (fun h => h)) rfl; have z4 := cell_box 4 (hSw.box rbx0.out (fun h => h)) rfl; have z5 := cell_box 5 (hSw.box rbx0.out (fun h => h)) rfl; have z6 := cell_box 6 (hSw.box rbx0.out (fun h => h)) rfl; go_simp) ?_
    refine tk 2 (.agg #[.int .i64 k, .int .i64 c, .int .i64 to, .int .i64 l, .int .i64 t, .int .i64 d]) rfl (fun w' hSw => by (try dsimp only at hSw); have z0 := cell_box 0 (hSw.box rbx1.out (fun h => h)) rfl; have z1 := cell_box 1 (hSw.box rbx1.out (fun h => h)) rfl; have z2 := cell_box 2 (hSw.box rbx1.out (fun h => h)) rfl; have z3 := cell_box 3 (hSw.box rbx1.out (fun h => h)) rfl; have z4 := cell_box 4 (hSw.box rbx1.out (fun h => h)) rfl; have z5 := cell_box 5 (hSw.box rbx1.out (fun h => h)) rfl; go_simp) ?_
    replace HB := Xhn (Xhn (Xhn HB m42) m43) m44; replace bx2 := Xbn (Xbn (Xbn bx2 m42) m43) m44; replace bx3 := Xbn (Xbn (Xbn bx3 m42) m43) m44; replace bx4 := Xbn (Xbn (Xbn bx4 m42) m43) m44
    refine region_states (fun G hG => ?_)
    try dsimp only
    replace hG := hide hG
    suffices hM3 : Hid (∀ (V48 : World) (b5 : Nat) (u1 : Nat) (u2 : Nat) (hsa : Option Addr) (hsc : Nat) (hqa : Option Addr) (hqc : Nat) (hta : Option Addr) (htc : Nat) (loH : Nat) (hiH : Nat), (Mv nob w V48) → (b4 < b5) → (V48.heap[b0]? = some (.cells #[.int .i64 L.mem, .int .i64 L.own, .slice sa L.sh.length sc, .int .i64 L.bu, .int .i64 L.wt, .int .i64 L.ac, .slice qa L.q.length qc] 25 (0, 0))) → (V48.heap[b1]? = some (.cells #[.int .i64 k, .int .i64 c, .int .i64 to, .int .i64 l, .int .i64 t, .int .i64 d] 27 (0, 0))) → (V48.heap[b2]? = some (.cells #[.int .i64 X.mem, .int .i64 X.own, .slice wsa X.sh.length wsc, .int .i64 X.bu, .int .i64 X.wt, .int .i64 X.ac, .slice wqa X.q.length wqc] 31 (0, 0))) → (V48.heap[b3]? = some (.cells #[.int .i64 L.mem, .int .i64 L.own, .slice (some ⟨x1, 0, none⟩) L.sh.length L.sh.length, .int .i64 L.bu, .int .i64 L.wt, .int .i64 L.ac, .slice (some ⟨x2, 0, none⟩) L.q.length L.q.length] 31 (0, 0))) → (V48.heap[b4]? = some (.cells #[.int .i64 X.mem, .int .i64 X.own, .slice gsa X.sh.length gsc, .int .i64 X.bu, .int .i64 X.wt, .int .i64 X.ac, .slice gqa X.q.length gqc] 31 (0, 0))) → (V48.heap[b5]? = some (.cells #[.int .i64 0, .int .i64 0, .slice none 0 0, .int .i64 0, .int .i64 0, .int .i64 0, .slice none 0 0] 31 (0, 0))) → (Rg V48 w.heap.size (.slice wsa X.sh.length wsc) 1 X.sh.length (gF (f1 X.sh))) → (Rg V48 w.heap.size (.slice wqa X.q.length wqc) 2 X.q.length (gF (f2 X.q))) → (Rg V48 w.heap.size (.slice wta M.length wtc) 6 M.length (gF (f6 M))) → (∀ g, (rb (.slice wsa X.sh.length wsc) = some g ∨ rb (.slice wqa X.q.length wqc) = some g ∨ rb (.slice wta M.length wtc) = some g) → g ≠ b0 ∧ g ≠ b1 ∧ g ≠ b2 ∧ g ≠ b3 ∧ g ≠ b4 ∧ g ≠ b5) → (hiW ≤ V48.heap.size) → (∀ g, (rb (.slice (some ⟨x1, 0, none⟩) L.sh.length L.sh.length) = some g ∨ rb (.slice (some ⟨x2, 0, none⟩) L.q.length L.q.length) = some g) → g ≠ b0 ∧ g ≠ b1 ∧ g ≠ b2 ∧ g ≠ b3 ∧ g ≠ b4 ∧ g ≠ b5) → (hiX ≤ V48.heap.size) → (Rg V48 w.heap.size (.slice gsa X.sh.length gsc) 1 X.sh.length (gF (mkA 1 1))) → (Rg V48 w.heap.size (.slice gqa X.q.length gqc) 2 X.q.length (gF (mkA (1 + (X.sh.length : Int)) 2))) → (Rg V48 w.heap.size (.slice gta M.length gtc) 6 M.length (gF (mkA (1 + (X.sh.length : Int) + 2 * (X.q.length : Int)) 6))) → (∀ g, (rb (.slice gsa X.sh.length gsc) = some g ∨ rb (.slice gqa X.q.length gqc) = some g ∨ rb (.slice gta M.length gtc) = some g) → g ≠ b0 ∧ g ≠ b1 ∧ g ≠ b2 ∧ g ≠ b3 ∧ g ≠ b4 ∧ g ≠ b5) → (hiG ≤ V48.heap.size) → (hiG ≤ loH) → (loH ≤ hiH) → (∀ g, (rb (.slice hsa X.sh.length hsc) = some g ∨ rb (.slice hqa X.q.length hqc) = some g ∨ rb (.slice hta M.length htc) = some g) → loH ≤ g ∧ g < hiH) → (Apt (.slice hsa X.sh.length hsc) (.slice hqa X.q.length hqc) (.slice hta M.length htc)) → (Rg V48 w.heap.size (.slice hsa X.sh.length hsc) 1 X.sh.length (gF (f1 X.sh))) → (Rg V48 w.heap.size (.slice hqa X.q.length hqc) 2 X.q.length (gF (f2 X.q))) → (Rg V48 w.heap.size (.slice hta M.length htc) 6 M.length (gF (f6 M))) → (∀ g, (rb (.slice hsa X.sh.length hsc) = some g ∨ rb (.slice hqa X.q.length hqc) = some g ∨ rb (.slice hta M.length htc) = some g) → g ≠ b0 ∧ g ≠ b1 ∧ g ≠ b2 ∧ g ≠ b3 ∧ g ≠ b4 ∧ g ≠ b5) → (hiH ≤ V48.heap.size) → (V44.heap.size ≤ b5) → Mv (fun x => False) V44 V48 → G 3 #[true, true, true, true, true, true, true, true, true, true, false, false, false] #[.agg #[.int .i64 L.mem, .int .i64 L.own, .slice sa L.sh.length sc, .int .i64 L.bu, .int .i64 L.wt, .int .i64 L.ac, .slice qa L.q.length qc], .agg #[.int .i64 k, .int .i64 c, .int .i64 to, .int .i64 l, .int .i64 t, .int .i64 d], .pointer (some ⟨b0, 0, none⟩), .pointer (some ⟨b1, 0, none⟩), .bool false, .int .i64 r, .pointer (some ⟨b2, 0, none⟩), .slice wta M.length wtc, .bool B, .pointer (some ⟨b3, 0, none⟩), .pointer (some ⟨b4, 0, none⟩), .slice gta M.length gtc, .bool B, .int .i64 (1 + (L.sh.length : Int) + 2 * (L.q.length : Int)), .int .i64 (1 + (X.sh.length : Int) + 2 * (X.q.length : Int) + 6 * (M.length : Int)), .int .i64 (1 + (X.sh.length : Int) + 2 * (X.q.length : Int) + 6 * (M.length : Int)), .pointer (some ⟨b5, 0, none⟩), undef, undef, .agg #[.int .i64 L.mem, .int .i64 L.own, .slice sa L.sh.length sc, .int .i64 L.bu, .int .i64 L.wt, .int .i64 L.ac, .slice qa L.q.length qc], .int .i64 1048576, .int .i64 r, .int .i64 r, .bool false, .tuple #[.agg #[.int .i64 X.mem, .int .i64 X.own, .slice wsa X.sh.length wsc, .int .i64 X.bu, .int .i64 X.wt, .int .i64 X.ac, .slice wqa X.q.length wqc], .slice wta M.length wtc, .bool B], .agg #[.int .i64 L.mem, .int .i64 L.own, .slice sa L.sh.length sc, .int .i64 L.bu, .int .i64 L.wt, .int .i64 L.ac, .slice qa L.q.length qc], .agg #[.int .i64 L.mem, .int .i64 L.own, .slice (some ⟨y1, 0, none⟩) L.sh.length L.sh.length, .int .i64 L.bu, .int .i64 L.wt, .int .i64 L.ac, .slice (some ⟨y2, 0, none⟩) L.q.length L.q.length], .agg #[.int .i64 k, .int .i64 c, .int .i64 to, .int .i64 l, .int .i64 t, .int .i64 d], .agg #[.int .i64 k, .int .i64 c, .int .i64 to, .int .i64 l, .int .i64 t, .int .i64 d], .tuple #[.agg #[.int .i64 X.mem, .int .i64 X.own, .slice wsa X.sh.length wsc, .int .i64 X.bu, .int .i64 X.wt, .int .i64 X.ac, .slice wqa X.q.length wqc], .slice wta M.length wtc, .bool B], .agg #[.int .i64 X.mem, .int .i64 X.own, .slice wsa X.sh.length wsc, .int .i64 X.bu, .int .i64 X.wt, .int .i64 X.ac, .slice wqa X.q.length wqc], .slice wta M.length wtc, .bool B, .agg #[.int .i64 L.mem, .int .i64 L.own, .slice sa L.sh.length sc, .int .i64 L.bu, .int .i64 L.wt, .int .i64 L.ac, .slice qa L.q.length qc], .agg #[.int .i64 L.mem, .int .i64 L.own, .slice (some ⟨x1, 0, none⟩) L.sh.length L.sh.length, .int .i64 L.bu, .int .i64 L.wt, .int .i64 L.ac, .slice (some ⟨x2, 0, none⟩) L.q.length L.q.length], .tuple #[.agg #[.int .i64 X.mem, .int .i64 X.own, .slice gsa X.sh.length gsc, .int .i64 X.bu, .int .i64 X.wt, .int .i64 X.ac, .slice gqa X.q.length gqc], .slice gta M.length gtc, .bool B], .agg #[.int .i64 L.mem, .int .i64 L.own, .slice (some ⟨x1, 0, none⟩) L.sh.length L.sh.length, .int .i64 L.bu, .int .i64 L.wt, .int .i64 L.ac, .slice (some ⟨x2, 0, none⟩) L.q.length L.q.length], .agg #[.int .i64 k, .int .i64 c, .int .i64 to, .int .i64 l, .int .i64 t, .int .i64 d], .agg #[.int .i64 k, .int .i64 c, .int .i64 to, .int .i64 l, .int .i64 t, .int .i64 d], .tuple #[.agg #[.int .i64 X.mem, .int .i64 X.own, .slice gsa X.sh.length gsc, .int .i64 X.bu, .int .i64 X.wt, .int .i64 X.ac, .slice gqa X.q.length gqc], .slice gta M.length gtc, .bool B], .agg #[.int .i64 X.mem, .int .i64 X.own, .slice gsa X.sh.length gsc, .int .i64 X.bu, .int .i64 X.wt, .int .i64 X.ac, .slice gqa X.q.length gqc], .slice gta M.length gtc, .bool B, .agg #[.int .i64 X.mem, .int .i64 X.own, .slice gsa X.sh.length gsc, .int .i64 X.bu, .int .i64 X.wt, .int .i64 X.ac, .slice gqa X.q.length gqc], .agg #[.int .i64 X.mem, .int .i64 X.own, .slice wsa X.sh.length wsc, .int .i64 X.bu, .int .i64 X.wt, .int .i64 X.ac, .slice wqa X.q.length wqc], .bool true, .bool false, .bool false, .slice gta M.length gtc, .slice wta M.length wtc, .bool true, .bool false, .bool false, .bool false, .bool B, .bool B, .bool false, .bool false, .agg #[.int .i64 L.mem, .int .i64 L.own, .slice (some ⟨x1, 0, none⟩) L.sh.length L.sh.length, .int .i64 L.bu, .int .i64 L.wt, .int .i64 L.ac, .slice (some ⟨x2, 0, none⟩) L.q.length L.q.length], .agg #[.int .i64 L.mem, .int .i64 L.own, .slice sa L.sh.length sc, .int .i64 L.bu, .int .i64 L.wt, .int .i64 L.ac, .slice qa L.q.length qc], .agg #[.int .i64 L.mem, .int .i64 L.own, .slice (some ⟨z1, 0, none⟩) L.sh.length L.sh.length, .int .i64 L.bu, .int .i64 L.wt, .int .i64 L.ac, .slice (some ⟨z2, 0, none⟩) L.q.length L.q.length], .bool true, .bool false, .agg #[.int .i64 L.mem, .int .i64 L.own, .slice (some ⟨x1, 0, none⟩) L.sh.length L.sh.length, .int .i64 L.bu, .int .i64 L.wt, .int .i64 L.ac, .slice (some ⟨x2, 0, none⟩) L.q.length L.q.length], .int .i64 1, .int .i64 (1 + (L.sh.length : Int) + 2 * (L.q.length : Int)), .int .i64 (1 + (L.sh.length : Int) + 2 * (L.q.length : Int)), .bool false, .bool false, .agg #[.int .i64 X.mem, .int .i64 X.own, .slice gsa X.sh.length gsc, .int .i64 X.bu, .int .i64 X.wt, .int .i64 X.ac, .slice gqa X.q.length gqc], .agg #[.int .i64 X.mem, .int .i64 X.own, .slice wsa X.sh.length wsc, .int .i64 X.bu, .int .i64 X.wt, .int .i64 X.ac, .slice wqa X.q.length wqc], .bool true, .bool false, .bool false, .bool false, .slice gta M.length gtc, .slice wta M.length wtc, .bool true, .bool false, .bool false, .bool false, .bool B, .bool B, .bool false, .bool false, .agg #[.int .i64 X.mem, .int .i64 X.own, .slice gsa X.sh.length gsc, .int .i64 X.bu, .int .i64 X.wt, .int .i64 X.ac, .slice gqa X.q.length gqc], .int .i64 1, .int .i64 (1 + (X.sh.length : Int) + 2 * (X.q.length : Int)), .slice gta M.length gtc, .int .i64 (1 + (X.sh.length : Int) + 2 * (X.q.length : Int)), .int .i64 (1 + (X.sh.length : Int) + 2 * (X.q.length : Int) + 6 * (M.length : Int)), .agg #[.int .i64 X.mem, .int .i64 X.own, .slice gsa X.sh.length gsc, .int .i64 X.bu, .int .i64 X.wt, .int .i64 X.ac, .slice gqa X.q.length gqc], .int .i64 1, .int .i64 (1 + (X.sh.length : Int) + 2 * (X.q.length : Int)), .int .i64 (1 + (X.sh.length : Int) + 2 * (X.q.length : Int)), .bool false, .slice gta M.length gtc, .int .i64 (1 + (X.sh.length : Int) + 2 * (X.q.length : Int)), .int .i64 (1 + (X.sh.length : Int) + 2 * (X.q.length : Int) + 6 * (M.length : Int)), .int .i64 (1 + (X.sh.length : Int) + 2 * (X.q.length : Int) + 6 * (M.length : Int)), .bool false, .int .i64 (1 + (X.sh.length : Int) + 2 * (X.q.length : Int) + 6 * (M.length : Int)), .int .i64 (1 + (X.sh.length : Int) + 2 * (X.q.length : Int) + 6 * (M.length : Int)), .bool false, .tuple #[.agg #[.int .i64 X.mem, .int .i64 X.own, .slice hsa X.sh.length hsc, .int .i64 X.bu, .int .i64 X.wt, .int .i64 X.ac, .slice hqa X.q.length hqc], .slice hta M.length htc, .bool B], .agg #[.int .i64 L.mem, .int .i64 L.own, .slice sa L.sh.length sc, .int .i64 L.bu, .int .i64 L.wt, .int .i64 L.ac, .slice qa L.q.length qc], .agg #[.int .i64 L.mem, .int .i64 L.own, .slice (some ⟨u1, 0, none⟩) L.sh.length L.sh.length, .int .i64 L.bu, .int .i64 L.wt, .int .i64 L.ac, .slice (some ⟨u2, 0, none⟩) L.q.length L.q.length], .agg #[.int .i64 k, .int .i64 c, .int .i64 to, .int .i64 l, .int .i64 t, .int .i64 d], .agg #[.int .i64 k, .int .i64 c, .int .i64 to, .int .i64 l, .int .i64 t, .int .i64 d], .tuple #[.agg #[.int .i64 X.mem, .int .i64 X.own, .slice hsa X.sh.length hsc, .int .i64 X.bu, .int .i64 X.wt, .int .i64 X.ac, .slice hqa X.q.length hqc], .slice hta M.length htc, .bool B], .agg #[.int .i64 X.mem, .int .i64 X.own, .slice hsa X.sh.length hsc, .int .i64 X.bu, .int .i64 X.wt, .int .i64 X.ac, .slice hqa X.q.length hqc], .slice hta M.length htc, .bool B, undef, undef, undef, undef, undef, undef, undef, undef, undef, undef, undef, undef, undef, undef, undef, undef, undef, undef, undef, undef, undef, undef, undef, undef, undef, undef, undef, undef] V48) by
      rw [hG.out]
      refine kd_each2 (l := [1, 9]) (by kernel_rfl) rfl ⟨?_, ?_, trivial⟩
      · refine .inl ?_
        refine ⟨_, rfl, by rfl, .inr ⟨_, _, _, by kernel_rfl, toLine_rg L sa sc qa qc V44 (hs0.out.below HB.out.below) (hq0.out.below HB.out.below) hsl hql, ?_⟩⟩
        rintro e V45 ⟨u1, u2, rfl, ts, tq, tap, hbl⟩
        have m45 : Mv (nob) V44 V45 := Mv.of_below hbl
        replace hS := hS.step m45 (fun _ _ h => h.elim)
        refine ⟨_, rfl, fun _ => hS, ?_⟩
        refine ptk ?_
        replace WS := hide (WS.out.mv m45 (fun _ _ h => h))
        replace WQ := hide (WQ.out.mv m45 (fun _ _ h => h))
        replace WT := hide (WT.out.mv m45 (fun _ _ h => h))
        replace Wz := hide (Nat.le_trans Wz.out (m45).size)
        replace Xz := hide (Nat.le_trans Xz.out (m45).size)
        replace GS := hide (GS.out.mv m45 (fun _ _ h => h))
        replace GQ := hide (GQ.out.mv m45 (fun _ _ h => h))
        replace GT := hide (GT.out.mv m45 (fun _ _ h => h))
        replace Gz := hide (Nat.le_trans Gz.out (m45).size)
        have TS := hide ts; have TQ := hide tq
        clear ts tq tap hbl
        replace HB := Xhn HB m45; replace bx0 := Xbn bx0 m45; replace bx1 := Xbn bx1 m45; replace bx2 := Xbn bx2 m45; replace bx3 := Xbn bx3 m45; replace bx4 := Xbn bx4 m45
        refine kd_each2 (l := [3, 9]) (by kernel_rfl) rfl ⟨?_, ?_, trivial⟩
        · refine .inl ?_
          refine ⟨_, rfl, by rfl, .inr ⟨_, _, _, by kernel_rfl, toMsg_any k c to l t d V45, ?_⟩⟩
          rintro e V46 ⟨rfl, hbl⟩
          have m46 : Mv (nob) V45 V46 := Mv.of_below hbl
          replace hS := hS.step m46 (fun _ _ h => h.elim)
          refine ⟨_, rfl, fun _ => hS, ?_⟩
          refine ptk ?_
          replace WS := hide (WS.out.mv m46 (fun _ _ h => h))
          replace WQ := hide (WQ.out.mv m46 (fun _ _ h => h))
          replace WT := hide (WT.out.mv m46 (fun _ _ h => h))
          replace Wz := hide (Nat.le_trans Wz.out (m46).size)
          replace Xz := hide (Nat.le_trans Xz.out (m46).size)
          replace GS := hide (GS.out.mv m46 (fun _ _ h => h))
          replace GQ := hide (GQ.out.mv m46 (fun _ _ h => h))
          replace GT := hide (GT.out.mv m46 (fun _ _ h => h))
          replace Gz := hide (Nat.le_trans Gz.out (m46).size)
          replace TS := hide (TS.out.mv m46 (fun _ _ h => h))
          replace TQ := hide (TQ.out.mv m46 (fun _ _ h => h))
          clear hbl
          replace HB := Xhn HB m46; replace bx0 := Xbn bx0 m46; replace bx1 := Xbn bx1 m46; replace bx2 := Xbn bx2 m46; replace bx3 := Xbn bx3 m46; replace bx4 := Xbn bx4 m46
          refine kd_each2 (l := [4, 9]) (by kernel_rfl) rfl ⟨?_, ?_, trivial⟩
          · refine .inl ?_
            have szV := HB.out.size
            have bz := lt_of_block bx4.out
            obtain ⟨loH, hloH⟩ : ∃ n, V46.heap.size = n := ⟨_, rfl⟩
            have pzW := Wz.out
            have pzX := Xz.out
            have pzG := Gz.out
            refine ⟨_, rfl, by rfl, .inr ⟨_, _, _, by kernel_rfl, himpl.out V46 u1 u2 (hg0.out.mv HB.out (fun _ _ h => h)) (ht0.out.mv HB.out) ((he0.out.mv HB.out (fun _ _ h => h)).up HB.out.size) TS.out.sg TQ.out.sg, ?_⟩⟩
            rintro e V47 ⟨hsa, hsc, hqa, hqc, hta, htc, rfl, rs_, rq_, rt_, rap_, hbl⟩
            have m47 : Mv (nob) V46 V47 := Mv.of_below hbl
            replace hS := hS.step m47 (fun _ _ h => h.elim)
            refine ⟨_, rfl, fun _ => hS, ?_⟩
            refine ptk ?_
            replace WS := hide (WS.out.mv m47 (fun _ _ h => h))
            replace WQ := hide (WQ.out.mv m47 (fun _ _ h => h))
            replace WT := hide (WT.out.mv m47 (fun _ _ h => h))
            replace Wz := hide (Nat.le_trans Wz.out (m47).size)
            replace Xz := hide (Nat.le_trans Xz.out (m47).size)
            replace GS := hide (GS.out.mv m47 (fun _ _ h => h))
            replace GQ := hide (GQ.out.mv m47 (fun _ _ h => h))
            replace GT := hide (GT.out.mv m47 (fun _ _ h => h))
            replace Gz := hide (Nat.le_trans Gz.out (m47).size)
            replace TS := hide (TS.out.mv m47 (fun _ _ h => h))
            replace TQ := hide (TQ.out.mv m47 (fun _ _ h => h))
            rw [hloH] at szV bz pzW pzX pzG
            obtain ⟨hiH, hhiH⟩ : ∃ n, V47.heap.size = n := ⟨_, rfl⟩
            have Hl : Hid (∀ g, (rb (.slice hsa X.sh.length hsc) = some g ∨ rb (.slice hqa X.q.length hqc) = some g ∨ rb (.slice hta M.length htc) = some g) → loH ≤ g ∧ g < hiH) := hide (by rw [← hloH, ← hhiH]; exact fun g h => h.elim (rs_.lt g) (fun h => h.elim (rq_.lt g) (rt_.lt g)))
            have Hb : Hid (∀ g, (rb (.slice hsa X.sh.length hsc) = some g ∨ rb (.slice hqa X.q.length hqc) = some g ∨ rb (.slice hta M.length htc) = some g) → g ≠ b0 ∧ g ≠ b1 ∧ g ≠ b2 ∧ g ≠ b3 ∧ g ≠ b4) := hide (fun g h => by have := Hl.out g h; exact (by omega))
            have Hz : Hid (hiH ≤ V47.heap.size) := hide (Nat.le_of_eq hhiH.symm)
            have HS := hide (rs_.base (hloH ▸ szV))
            have HQ := hide (rq_.base (hloH ▸ szV))
            have HT := hide (rt_.base (hloH ▸ szV))
            have HA := hide rap_
            have olh_3 : loH ≤ hiH := by rw [← hloH, ← hhiH]; exact hbl.size
            have olo_3 : hiG ≤ loH := by omega
            clear rap_ rs_ rq_ rt_ szV bz hloH hhiH hbl pzW pzX pzG
            refine tk0 5 (.tuple #[.agg #[.int .i64 X.mem, .int .i64 X.own, .slice hsa X.sh.length hsc, .int .i64 X.bu, .int .i64 X.wt, .int .i64 X.ac, .slice hqa X.q.length hqc], .slice hta M.length htc, .bool B]) rfl ?_
            refine tk0 6 (.agg #[.int .i64 X.mem, .int .i64 X.own, .slice hsa X.sh.length hsc, .int .i64 X.bu, .int .i64 X.wt, .int .i64 X.ac, .slice hqa X.q.length hqc]) rfl ?_
            refine tk0 7 (.slice hta M.length htc) rfl ?_
            refine tk0 8 (.bool B) rfl ?_
            replace HB := Xhn HB m47; replace bx0 := Xbn bx0 m47; replace bx1 := Xbn bx1 m47; replace bx2 := Xbn bx2 m47; replace bx3 := Xbn bx3 m47; replace bx4 := Xbn bx4 m47
            refine kd_valI (i := 9) (v := .pointer (some ⟨V47.heap.size, 0, none⟩)) (w' := V47.alloc (.cells #[.int .i64 0, .int .i64 0, .slice none 0 0, .int .i64 0, .int .i64 0, .int .i64 0, .slice none 0 0] 31)) (fun V => Mv nob V47 V ∧ V.heap[V47.heap.size]? = some (.cells #[.int .i64 0, .int .i64 0, .slice none 0 0, .int .i64 0, .int .i64 0, .int .i64 0, .slice none 0 0] 31 (0, 0))) (by kernel_rfl) rfl (by rfl) (by first | rfl | go_simp) ⟨Mv.alloc _ _, heap_alloc_new _ _⟩ (fun V hI _ => hS.step hI.1 (fun _ _ h => h.elim)) ?_
            rintro V48 ⟨m48, nx⟩
            refine ptk ?_
            obtain ⟨b5, hb5⟩ : ∃ b5, V47.heap.size = b5 := ⟨_, rfl⟩
            rw [hb5] at nx ⊢
            have or_5 := Mv.le hS hb5
            have o4_5 := Xlo bx4 hb5
            replace Wb : Hid (∀ g, (rb (.slice wsa X.sh.length wsc) = some g ∨ rb (.slice wqa X.q.length wqc) = some g ∨ rb (.slice wta M.length wtc) = some g) → g ≠ b0 ∧ g ≠ b1 ∧ g ≠ b2 ∧ g ≠ b3 ∧ g ≠ b4 ∧ g ≠ b5) := hide (fun g h => by have h1 := Wb.out g h; have h2 := Wl.out g h; have h3 := Wz.out; exact (by omega))
            replace Xb : Hid (∀ g, (rb (.slice (some ⟨x1, 0, none⟩) L.sh.length L.sh.length) = some g ∨ rb (.slice (some ⟨x2, 0, none⟩) L.q.length L.q.length) = some g) → g ≠ b0 ∧ g ≠ b1 ∧ g ≠ b2 ∧ g ≠ b3 ∧ g ≠ b4 ∧ g ≠ b5) := hide (fun g h => by have h1 := Xb.out g h; have h2 := Xl.out g h; have h3 := Xz.out; exact (by omega))
            replace Gb : Hid (∀ g, (rb (.slice gsa X.sh.length gsc) = some g ∨ rb (.slice gqa X.q.length gqc) = some g ∨ rb (.slice gta M.length gtc) = some g) → g ≠ b0 ∧ g ≠ b1 ∧ g ≠ b2 ∧ g ≠ b3 ∧ g ≠ b4 ∧ g ≠ b5) := hide (fun g h => by have h1 := Gb.out g h; have h2 := Gl.out g h; have h3 := Gz.out; exact (by omega))
            replace Hb : Hid (∀ g, (rb (.slice hsa X.sh.length hsc) = some g ∨ rb (.slice hqa X.q.length hqc) = some g ∨ rb (.slice hta M.length htc) = some g) → g ≠ b0 ∧ g ≠ b1 ∧ g ≠ b2 ∧ g ≠ b3 ∧ g ≠ b4 ∧ g ≠ b5) := hide (fun g h => by have h1 := Hb.out g h; have h2 := Hl.out g h; have h3 := Hz.out; exact (by omega))
            replace WS := hide (WS.out.mv m48 (fun _ _ h => h))
            replace WQ := hide (WQ.out.mv m48 (fun _ _ h => h))
            replace WT := hide (WT.out.mv m48 (fun _ _ h => h))
            replace Wz := hide (Nat.le_trans Wz.out (m48).size)
            replace Xz := hide (Nat.le_trans Xz.out (m48).size)
            replace GS := hide (GS.out.mv m48 (fun _ _ h => h))
            replace GQ := hide (GQ.out.mv m48 (fun _ _ h => h))
            replace GT := hide (GT.out.mv m48 (fun _ _ h => h))
            replace Gz := hide (Nat.le_trans Gz.out (m48).size)
            replace TS := hide (TS.out.mv m48 (fun _ _ h => h))
            replace TQ := hide (TQ.out.mv m48 (fun _ _ h => h))
            replace HS := hide (HS.out.mv m48 (fun _ _ h => h))
            replace HQ := hide (HQ.out.mv m48 (fun _ _ h => h))
            replace HT := hide (HT.out.mv m48 (fun _ _ h => h))
            replace Hz := hide (Nat.le_trans Hz.out (m48).size)
            have bx5 := hide nx
            clear nx
            replace hS := hS.step m48 (fun _ _ h => h.elim)
            clear hb5
            replace HB := Xhn HB m48; replace bx0 := Xbn bx0 m48; replace bx1 := Xbn bx1 m48; replace bx2 := Xbn bx2 m48; replace bx3 := Xbn bx3 m48; replace bx4 := Xbn bx4 m48
            have hMx := hM3.out V48 b5 u1 u2 hsa hsc hqa hqc hta htc loH hiH HB.out (by omega) bx0.out bx1.out bx2.out bx3.out bx4.out bx5.out WS.out WQ.out WT.out Wb.out Wz.out Xb.out Xz.out GS.out GQ.out GT.out Gb.out Gz.out (by omega) (by omega) Hl.out HA.out HS.out HQ.out HT.out Hb.out Hz.out (by omega) hS
            rw [hG.out] at hMx
            exact hMx
          · refine .inl ?_
            refine ⟨_, rfl, by rfl, .inl ⟨.pointer (some ⟨V46.heap.size, 0, none⟩), V46.alloc (.cells #[.int .i64 0, .int .i64 0, .slice none 0 0, .int .i64 0, .int .i64 0, .int .i64 0, .slice none 0 0] 31), (by first | rfl | go_simp), fun _ => hS.step (Mv.alloc _ _) (fun _ _ h => h.elim), ?_⟩⟩
            have m49 : Mv nob V46 (V46.alloc (.cells #[.int .i64 0, .int .i64 0, .slice none 0 0, .int .i64 0, .int .i64 0, .int .i64 0, .slice none 0 0] 31)) := Mv.alloc _ _
            have nx := heap_alloc_new V46 (.cells #[.int .i64 0, .int .i64 0, .slice none 0 0, .int .i64 0, .int .i64 0, .int .i64 0, .slice none 0 0] 31)
            obtain ⟨V49, hN⟩ : ∃ V, V46.alloc (.cells #[.int .i64 0, .int .i64 0, .slice none 0 0, .int .i64 0, .int .i64 0, .int .i64 0, .slice none 0 0] 31) = V := ⟨_, rfl⟩
            rw [hN] at m49 nx ⊢
            clear hN
            refine ptk ?_
            obtain ⟨b5, hb5⟩ : ∃ b5, V46.heap.size = b5 := ⟨_, rfl⟩
            rw [hb5] at nx ⊢
            have or_5 := Mv.le hS hb5
            have o4_5 := Xlo bx4 hb5
            replace Wb : Hid (∀ g, (rb (.slice wsa X.sh.length wsc) = some g ∨ rb (.slice wqa X.q.length wqc) = some g ∨ rb (.slice wta M.length wtc) = some g) → g ≠ b0 ∧ g ≠ b1 ∧ g ≠ b2 ∧ g ≠ b3 ∧ g ≠ b4 ∧ g ≠ b5) := hide (fun g h => by have h1 := Wb.out g h; have h2 := Wl.out g h; have h3 := Wz.out; exact (by omega))
            replace Xb : Hid (∀ g, (rb (.slice (some ⟨x1, 0, none⟩) L.sh.length L.sh.length) = some g ∨ rb (.slice (some ⟨x2, 0, none⟩) L.q.length L.q.length) = some g) → g ≠ b0 ∧ g ≠ b1 ∧ g ≠ b2 ∧ g ≠ b3 ∧ g ≠ b4 ∧ g ≠ b5) := hide (fun g h => by have h1 := Xb.out g h; have h2 := Xl.out g h; have h3 := Xz.out; exact (by omega))
            replace Gb : Hid (∀ g, (rb (.slice gsa X.sh.length gsc) = some g ∨ rb (.slice gqa X.q.length gqc) = some g ∨ rb (.slice gta M.length gtc) = some g) → g ≠ b0 ∧ g ≠ b1 ∧ g ≠ b2 ∧ g ≠ b3 ∧ g ≠ b4 ∧ g ≠ b5) := hide (fun g h => by have h1 := Gb.out g h; have h2 := Gl.out g h; have h3 := Gz.out; exact (by omega))
            replace WS := hide (WS.out.mv m49 (fun _ _ h => h))
            replace WQ := hide (WQ.out.mv m49 (fun _ _ h => h))
            replace WT := hide (WT.out.mv m49 (fun _ _ h => h))
            replace Wz := hide (Nat.le_trans Wz.out (m49).size)
            replace Xz := hide (Nat.le_trans Xz.out (m49).size)
            replace GS := hide (GS.out.mv m49 (fun _ _ h => h))
            replace GQ := hide (GQ.out.mv m49 (fun _ _ h => h))
            replace GT := hide (GT.out.mv m49 (fun _ _ h => h))
            replace Gz := hide (Nat.le_trans Gz.out (m49).size)
            replace TS := hide (TS.out.mv m49 (fun _ _ h => h))
            replace TQ := hide (TQ.out.mv m49 (fun _ _ h => h))
            have bx5 := hide nx
            clear nx
            replace hS := hS.step m49 (fun _ _ h => h.elim)
            clear hb5
            replace HB := Xhn HB m49; replace bx0 := Xbn bx0 m49; replace bx1 := Xbn bx1 m49; replace bx2 := Xbn bx2 m49; replace bx3 := Xbn bx3 m49; replace bx4 := Xbn bx4 m49
            have szV := HB.out.size
            have bz := lt_of_block bx5.out
            obtain ⟨loH, hloH⟩ : ∃ n, V49.heap.size = n := ⟨_, rfl⟩
            have pzW := Wz.out
            have pzX := Xz.out
            have pzG := Gz.out
            refine kd_call (i := 4) (by kernel_rfl) rfl (by rfl) (by kernel_rfl) (himpl.out V49 u1 u2 (hg0.out.mv HB.out (fun _ _ h => h)) (ht0.out.mv HB.out) ((he0.out.mv HB.out (fun _ _ h => h)).up HB.out.size) TS.out.sg TQ.out.sg) ?_
            rintro e V50 ⟨hsa, hsc, hqa, hqc, hta, htc, rfl, rs_, rq_, rt_, rap_, hbl⟩
            have m50 : Mv (nob) V49 V50 := Mv.of_below hbl
            replace hS := hS.step m50 (fun _ _ h => h.elim)
            refine ⟨_, rfl, fun _ => hS, ?_⟩
            refine ptk ?_
            replace WS := hide (WS.out.mv m50 (fun _ _ h => h))
            replace WQ := hide (WQ.out.mv m50 (fun _ _ h => h))
            replace WT := hide (WT.out.mv m50 (fun _ _ h => h))
            replace Wz := hide (Nat.le_trans Wz.out (m50).size)
            replace Xz := hide (Nat.le_trans Xz.out (m50).size)
            replace GS := hide (GS.out.mv m50 (fun _ _ h => h))
            replace GQ := hide (GQ.out.mv m50 (fun _ _ h => h))
            replace GT := hide (GT.out.mv m50 (fun _ _ h => h))
            replace Gz := hide (Nat.le_trans Gz.out (m50).size)
            replace TS := hide (TS.out.mv m50 (fun _ _ h => h))
            replace TQ := hide (TQ.out.mv m50 (fun _ _ h => h))
            rw [hloH] at szV bz pzW pzX pzG
            obtain ⟨hiH, hhiH⟩ : ∃ n, V50.heap.size = n := ⟨_, rfl⟩
            have Hl : Hid (∀ g, (rb (.slice hsa X.sh.length hsc) = some g ∨ rb (.slice hqa X.q.length hqc) = some g ∨ rb (.slice hta M.length htc) = some g) → loH ≤ g ∧ g < hiH) := hide (by rw [← hloH, ← hhiH]; exact fun g h => h.elim (rs_.lt g) (fun h => h.elim (rq_.lt g) (rt_.lt g)))
            have Hb : Hid (∀ g, (rb (.slice hsa X.sh.length hsc) = some g ∨ rb (.slice hqa X.q.length hqc) = some g ∨ rb (.slice hta M.length htc) = some g) → g ≠ b0 ∧ g ≠ b1 ∧ g ≠ b2 ∧ g ≠ b3 ∧ g ≠ b4 ∧ g ≠ b5) := hide (fun g h => by have := Hl.out g h; exact (by omega))
            have Hz : Hid (hiH ≤ V50.heap.size) := hide (Nat.le_of_eq hhiH.symm)
            have HS := hide (rs_.base (hloH ▸ szV))
            have HQ := hide (rq_.base (hloH ▸ szV))
            have HT := hide (rt_.base (hloH ▸ szV))
            have HA := hide rap_
            have olh_3 : loH ≤ hiH := by rw [← hloH, ← hhiH]; exact hbl.size
            have olo_3 : hiG ≤ loH := by omega
            clear rap_ rs_ rq_ rt_ szV bz hloH hhiH hbl pzW pzX pzG
            refine tk0 5 (.tuple #[.agg #[.int .i64 X.mem, .int .i64 X.own, .slice hsa X.sh.length hsc, .int .i64 X.bu, .int .i64 X.wt, .int .i64 X.ac, .slice hqa X.q.length hqc], .slice hta M.length htc, .bool B]) rfl ?_
            refine tk0 6 (.agg #[.int .i64 X.mem, .int .i64 X.own, .slice hsa X.sh.length hsc, .int .i64 X.bu, .int .i64 X.wt, .int .i64 X.ac, .slice hqa X.q.length hqc]) rfl ?_
            refine tk0 7 (.slice hta M.length htc) rfl ?_
            refine tk0 8 (.bool B) rfl ?_
            replace HB := Xhn HB m50; replace bx0 := Xbn bx0 m50; replace bx1 := Xbn bx1 m50; replace bx2 := Xbn bx2 m50; replace bx3 := Xbn bx3 m50; replace bx4 := Xbn bx4 m50; replace bx5 := Xbn bx5 m50
            have hMx := hM3.out V50 b5 u1 u2 hsa hsc hqa hqc hta htc loH hiH HB.out (by omega) bx0.out bx1.out bx2.out bx3.out bx4.out bx5.out WS.out WQ.out WT.out Wb.out Wz.out Xb.out Xz.out GS.out GQ.out GT.out Gb.out Gz.out (by omega) (by omega) Hl.out HA.out HS.out HQ.out HT.out Hb.out Hz.out (by omega) hS
            rw [hG.out] at hMx
            exact hMx
        · refine .inl ?_
          refine ⟨_, rfl, by rfl, .inl ⟨.pointer (some ⟨V45.heap.size, 0, none⟩), V45.alloc (.cells #[.int .i64 0, .int .i64 0, .slice none 0 0, .int .i64 0, .int .i64 0, .int .i64 0, .slice none 0 0] 31), (by first | rfl | go_simp), fun _ => hS.step (Mv.alloc _ _) (fun _ _ h => h.elim), ?_⟩⟩
          have m51 : Mv nob V45 (V45.alloc (.cells #[.int .i64 0, .int .i64 0, .slice none 0 0, .int .i64 0, .int .i64 0, .int .i64 0, .slice none 0 0] 31)) := Mv.alloc _ _
          have nx := heap_alloc_new V45 (.cells #[.int .i64 0, .int .i64 0, .slice none 0 0, .int .i64 0, .int .i64 0, .int .i64 0, .slice none 0 0] 31)
          obtain ⟨V51, hN⟩ : ∃ V, V45.alloc (.cells #[.int .i64 0, .int .i64 0, .slice none 0 0, .int .i64 0, .int .i64 0, .int .i64 0, .slice none 0 0] 31) = V := ⟨_, rfl⟩
          rw [hN] at m51 nx ⊢
          clear hN
          refine ptk ?_
          obtain ⟨b5, hb5⟩ : ∃ b5, V45.heap.size = b5 := ⟨_, rfl⟩
          rw [hb5] at nx ⊢
          have or_5 := Mv.le hS hb5
          have o4_5 := Xlo bx4 hb5
          replace Wb : Hid (∀ g, (rb (.slice wsa X.sh.length wsc) = some g ∨ rb (.slice wqa X.q.length wqc) = some g ∨ rb (.slice wta M.length wtc) = some g) → g ≠ b0 ∧ g ≠ b1 ∧ g ≠ b2 ∧ g ≠ b3 ∧ g ≠ b4 ∧ g ≠ b5) := hide (fun g h => by have h1 := Wb.out g h; have h2 := Wl.out g h; have h3 := Wz.out; exact (by omega))
          replace Xb : Hid (∀ g, (rb (.slice (some ⟨x1, 0, none⟩) L.sh.length L.sh.length) = some g ∨ rb (.slice (some ⟨x2, 0, none⟩) L.q.length L.q.length) = some g) → g ≠ b0 ∧ g ≠ b1 ∧ g ≠ b2 ∧ g ≠ b3 ∧ g ≠ b4 ∧ g ≠ b5) := hide (fun g h => by have h1 := Xb.out g h; have h2 := Xl.out g h; have h3 := Xz.out; exact (by omega))
          replace Gb : Hid (∀ g, (rb (.slice gsa X.sh.length gsc) = some g ∨ rb (.slice gqa X.q.length gqc) = some g ∨ rb (.slice gta M.length gtc) = some g) → g ≠ b0 ∧ g ≠ b1 ∧ g ≠ b2 ∧ g ≠ b3 ∧ g ≠ b4 ∧ g ≠ b5) := hide (fun g h => by have h1 := Gb.out g h; have h2 := Gl.out g h; have h3 := Gz.out; exact (by omega))
          replace WS := hide (WS.out.mv m51 (fun _ _ h => h))
          replace WQ := hide (WQ.out.mv m51 (fun _ _ h => h))
          replace WT := hide (WT.out.mv m51 (fun _ _ h => h))
          replace Wz := hide (Nat.le_trans Wz.out (m51).size)
          replace Xz := hide (Nat.le_trans Xz.out (m51).size)
          replace GS := hide (GS.out.mv m51 (fun _ _ h => h))
          replace GQ := hide (GQ.out.mv m51 (fun _ _ h => h))
          replace GT := hide (GT.out.mv m51 (fun _ _ h => h))
          replace Gz := hide (Nat.le_trans Gz.out (m51).size)
          replace TS := hide (TS.out.mv m51 (fun _ _ h => h))
          replace TQ := hide (TQ.out.mv m51 (fun _ _ h => h))
          have bx5 := hide nx
          clear nx
          replace hS := hS.step m51 (fun _ _ h => h.elim)
          clear hb5
          refine kd_call (i := 3) (by kernel_rfl) rfl (by rfl) (by kernel_rfl) (toMsg_any k c to l t d V51) ?_
          rintro e V52 ⟨rfl, hbl⟩
          have m52 : Mv (nob) V51 V52 := Mv.of_below hbl
          replace hS := hS.step m52 (fun _ _ h => h.elim)
          refine ⟨_, rfl, fun _ => hS, ?_⟩
          refine ptk ?_
          replace WS := hide (WS.out.mv m52 (fun _ _ h => h))
          replace WQ := hide (WQ.out.mv m52 (fun _ _ h => h))
          replace WT := hide (WT.out.mv m52 (fun _ _ h => h))
          replace Wz := hide (Nat.le_trans Wz.out (m52).size)
          replace Xz := hide (Nat.le_trans Xz.out (m52).size)
          replace GS := hide (GS.out.mv m52 (fun _ _ h => h))
          replace GQ := hide (GQ.out.mv m52 (fun _ _ h => h))
          replace GT := hide (GT.out.mv m52 (fun _ _ h => h))
          replace Gz := hide (Nat.le_trans Gz.out (m52).size)
          replace TS := hide (TS.out.mv m52 (fun _ _ h => h))
          replace TQ := hide (TQ.out.mv m52 (fun _ _ h => h))
          clear hbl
          replace HB := Xhn (Xhn HB m51) m52; replace bx0 := Xbn (Xbn bx0 m51) m52; replace bx1 := Xbn (Xbn bx1 m51) m52; replace bx2 := Xbn (Xbn bx2 m51) m52; replace bx3 := Xbn (Xbn bx3 m51) m52; replace bx4 := Xbn (Xbn bx4 m51) m52; replace bx5 := Xbn bx5 m52
          have szV := HB.out.size
          have bz := lt_of_block bx5.out
          obtain ⟨loH, hloH⟩ : ∃ n, V52.heap.size = n := ⟨_, rfl⟩
          have pzW := Wz.out
          have pzX := Xz.out
          have pzG := Gz.out
          refine kd_call (i := 4) (by kernel_rfl) rfl (by rfl) (by kernel_rfl) (himpl.out V52 u1 u2 (hg0.out.mv HB.out (fun _ _ h => h)) (ht0.out.mv HB.out) ((he0.out.mv HB.out (fun _ _ h => h)).up HB.out.size) TS.out.sg TQ.out.sg) ?_
          rintro e V53 ⟨hsa, hsc, hqa, hqc, hta, htc, rfl, rs_, rq_, rt_, rap_, hbl⟩
          have m53 : Mv (nob) V52 V53 := Mv.of_below hbl
          replace hS := hS.step m53 (fun _ _ h => h.elim)
          refine ⟨_, rfl, fun _ => hS, ?_⟩
          refine ptk ?_
          replace WS := hide (WS.out.mv m53 (fun _ _ h => h))
          replace WQ := hide (WQ.out.mv m53 (fun _ _ h => h))
          replace WT := hide (WT.out.mv m53 (fun _ _ h => h))
          replace Wz := hide (Nat.le_trans Wz.out (m53).size)
          replace Xz := hide (Nat.le_trans Xz.out (m53).size)
          replace GS := hide (GS.out.mv m53 (fun _ _ h => h))
          replace GQ := hide (GQ.out.mv m53 (fun _ _ h => h))
          replace GT := hide (GT.out.mv m53 (fun _ _ h => h))
          replace Gz := hide (Nat.le_trans Gz.out (m53).size)
          replace TS := hide (TS.out.mv m53 (fun _ _ h => h))
          replace TQ := hide (TQ.out.mv m53 (fun _ _ h => h))
          rw [hloH] at szV bz pzW pzX pzG
          obtain ⟨hiH, hhiH⟩ : ∃ n, V53.heap.size = n := ⟨_, rfl⟩
          have Hl : Hid (∀ g, (rb (.slice hsa X.sh.length hsc) = some g ∨ rb (.slice hqa X.q.length hqc) = some g ∨ rb (.slice hta M.length htc) = some g) → loH ≤ g ∧ g < hiH) := hide (by rw [← hloH, ← hhiH]; exact fun g h => h.elim (rs_.lt g) (fun h => h.elim (rq_.lt g) (rt_.lt g)))
          have Hb : Hid (∀ g, (rb (.slice hsa X.sh.length hsc) = some g ∨ rb (.slice hqa X.q.length hqc) = some g ∨ rb (.slice hta M.length htc) = some g) → g ≠ b0 ∧ g ≠ b1 ∧ g ≠ b2 ∧ g ≠ b3 ∧ g ≠ b4 ∧ g ≠ b5) := hide (fun g h => by have := Hl.out g h; exact (by omega))
          have Hz : Hid (hiH ≤ V53.heap.size) := hide (Nat.le_of_eq hhiH.symm)
          have HS := hide (rs_.base (hloH ▸ szV))
          have HQ := hide (rq_.base (hloH ▸ szV))
          have HT := hide (rt_.base (hloH ▸ szV))
          have HA := hide rap_
          have olh_3 : loH ≤ hiH := by rw [← hloH, ← hhiH]; exact hbl.size
          have olo_3 : hiG ≤ loH := by omega
          clear rap_ rs_ rq_ rt_ szV bz hloH hhiH hbl pzW pzX pzG
          refine tk0 5 (.tuple #[.agg #[.int .i64 X.mem, .int .i64 X.own, .slice hsa X.sh.length hsc, .int .i64 X.bu, .int .i64 X.wt, .int .i64 X.ac, .slice hqa X.q.length hqc], .slice hta M.length htc, .bool B]) rfl ?_
          refine tk0 6 (.agg #[.int .i64 X.mem, .int .i64 X.own, .slice hsa X.sh.length hsc, .int .i64 X.bu, .int .i64 X.wt, .int .i64 X.ac, .slice hqa X.q.length hqc]) rfl ?_
          refine tk0 7 (.slice hta M.length htc) rfl ?_
          refine tk0 8 (.bool B) rfl ?_
          replace HB := Xhn HB m53; replace bx0 := Xbn bx0 m53; replace bx1 := Xbn bx1 m53; replace bx2 := Xbn bx2 m53; replace bx3 := Xbn bx3 m53; replace bx4 := Xbn bx4 m53; replace bx5 := Xbn bx5 m53
          have hMx := hM3.out V53 b5 u1 u2 hsa hsc hqa hqc hta htc loH hiH HB.out (by omega) bx0.out bx1.out bx2.out bx3.out bx4.out bx5.out WS.out WQ.out WT.out Wb.out Wz.out Xb.out Xz.out GS.out GQ.out GT.out Gb.out Gz.out (by omega) (by omega) Hl.out HA.out HS.out HQ.out HT.out Hb.out Hz.out (by omega) hS
          rw [hG.out] at hMx
          exact hMx
      · refine .inl ?_
        refine ⟨_, rfl, by rfl, .inl ⟨.pointer (some ⟨V44.heap.size, 0, none⟩), V44.alloc (.cells #[.int .i64 0, .int .i64 0, .slice none 0 0, .int .i64 0, .int .i64 0, .int .i64 0, .slice none 0 0] 31), (by first | rfl | go_simp), fun _ => hS.step (Mv.alloc _ _) (fun _ _ h => h.elim), ?_⟩⟩
        have m54 : Mv nob V44 (V44.alloc (.cells #[.int .i64 0, .int .i64 0, .slice none 0 0, .int .i64 0, .int .i64 0, .int .i64 0, .slice none 0 0] 31)) := Mv.alloc _ _
        have nx := heap_alloc_new V44 (.cells #[.int .i64 0, .int .i64 0, .slice none 0 0, .int .i64 0, .int .i64 0, .int .i64 0, .slice none 0 0] 31)
        obtain ⟨V54, hN⟩ : ∃ V, V44.alloc (.cells #[.int .i64 0, .int .i64 0, .slice none 0 0, .int .i64 0, .int .i64 0, .int .i64 0, .slice none 0 0] 31) = V := ⟨_, rfl⟩
        rw [hN] at m54 nx ⊢
        clear hN
        refine ptk ?_
        obtain ⟨b5, hb5⟩ : ∃ b5, V44.heap.size = b5 := ⟨_, rfl⟩
        rw [hb5] at nx ⊢
        have or_5 := Mv.le hS hb5
        have o4_5 := Xlo bx4 hb5
        replace Wb : Hid (∀ g, (rb (.slice wsa X.sh.length wsc) = some g ∨ rb (.slice wqa X.q.length wqc) = some g ∨ rb (.slice wta M.length wtc) = some g) → g ≠ b0 ∧ g ≠ b1 ∧ g ≠ b2 ∧ g ≠ b3 ∧ g ≠ b4 ∧ g ≠ b5) := hide (fun g h => by have h1 := Wb.out g h; have h2 := Wl.out g h; have h3 := Wz.out; exact (by omega))
        replace Xb : Hid (∀ g, (rb (.slice (some ⟨x1, 0, none⟩) L.sh.length L.sh.length) = some g ∨ rb (.slice (some ⟨x2, 0, none⟩) L.q.length L.q.length) = some g) → g ≠ b0 ∧ g ≠ b1 ∧ g ≠ b2 ∧ g ≠ b3 ∧ g ≠ b4 ∧ g ≠ b5) := hide (fun g h => by have h1 := Xb.out g h; have h2 := Xl.out g h; have h3 := Xz.out; exact (by omega))
        replace Gb : Hid (∀ g, (rb (.slice gsa X.sh.length gsc) = some g ∨ rb (.slice gqa X.q.length gqc) = some g ∨ rb (.slice gta M.length gtc) = some g) → g ≠ b0 ∧ g ≠ b1 ∧ g ≠ b2 ∧ g ≠ b3 ∧ g ≠ b4 ∧ g ≠ b5) := hide (fun g h => by have h1 := Gb.out g h; have h2 := Gl.out g h; have h3 := Gz.out; exact (by omega))
        replace WS := hide (WS.out.mv m54 (fun _ _ h => h))
        replace WQ := hide (WQ.out.mv m54 (fun _ _ h => h))
        replace WT := hide (WT.out.mv m54 (fun _ _ h => h))
        replace Wz := hide (Nat.le_trans Wz.out (m54).size)
        replace Xz := hide (Nat.le_trans Xz.out (m54).size)
        replace GS := hide (GS.out.mv m54 (fun _ _ h => h))
        replace GQ := hide (GQ.out.mv m54 (fun _ _ h => h))
        replace GT := hide (GT.out.mv m54 (fun _ _ h => h))
        replace Gz := hide (Nat.le_trans Gz.out (m54).size)
        have bx5 := hide nx
        clear nx
        replace hS := hS.step m54 (fun _ _ h => h.elim)
        clear hb5
        replace HB := Xhn HB m54
        refine kd_call (i := 1) (by kernel_rfl) rfl (by rfl) (by kernel_rfl) (toLine_rg L sa sc qa qc V54 (hs0.out.below HB.out.below) (hq0.out.below HB.out.below) hsl hql) ?_
        rintro e V55 ⟨u1, u2, rfl, ts, tq, tap, hbl⟩
        have m55 : Mv (nob) V54 V55 := Mv.of_below hbl
        replace hS := hS.step m55 (fun _ _ h => h.elim)
        refine ⟨_, rfl, fun _ => hS, ?_⟩
        refine ptk ?_
        replace WS := hide (WS.out.mv m55 (fun _ _ h => h))
        replace WQ := hide (WQ.out.mv m55 (fun _ _ h => h))
        replace WT := hide (WT.out.mv m55 (fun _ _ h => h))
        replace Wz := hide (Nat.le_trans Wz.out (m55).size)
        replace Xz := hide (Nat.le_trans Xz.out (m55).size)
        replace GS := hide (GS.out.mv m55 (fun _ _ h => h))
        replace GQ := hide (GQ.out.mv m55 (fun _ _ h => h))
        replace GT := hide (GT.out.mv m55 (fun _ _ h => h))
        replace Gz := hide (Nat.le_trans Gz.out (m55).size)
        have TS := hide ts; have TQ := hide tq
        clear ts tq tap hbl
        refine kd_call (i := 3) (by kernel_rfl) rfl (by rfl) (by kernel_rfl) (toMsg_any k c to l t d V55) ?_
        rintro e V56 ⟨rfl, hbl⟩
        have m56 : Mv (nob) V55 V56 := Mv.of_below hbl
        replace hS := hS.step m56 (fun _ _ h => h.elim)
        refine ⟨_, rfl, fun _ => hS, ?_⟩
        refine ptk ?_
        replace WS := hide (WS.out.mv m56 (fun _ _ h => h))
        replace WQ := hide (WQ.out.mv m56 (fun _ _ h => h))
        replace WT := hide (WT.out.mv m56 (fun _ _ h => h))
        replace Wz := hide (Nat.le_trans Wz.out (m56).size)
        replace Xz := hide (Nat.le_trans Xz.out (m56).size)
        replace GS := hide (GS.out.mv m56 (fun _ _ h => h))
        replace GQ := hide (GQ.out.mv m56 (fun _ _ h => h))
        replace GT := hide (GT.out.mv m56 (fun _ _ h => h))
        replace Gz := hide (Nat.le_trans Gz.out (m56).size)
        replace TS := hide (TS.out.mv m56 (fun _ _ h => h))
        replace TQ := hide (TQ.out.mv m56 (fun _ _ h => h))
        clear hbl
        replace bx0 := Xbn (Xbn (Xbn bx0 m54) m55) m56; replace bx1 := Xbn (Xbn (Xbn bx1 m54) m55) m56; replace bx2 := Xbn (Xbn (Xbn bx2 m54) m55) m56; replace bx3 := Xbn (Xbn (Xbn bx3 m54) m55) m56; replace bx4 := Xbn (Xbn (Xbn bx4 m54) m55) m56; replace HB := Xhn (Xhn HB m55) m56; replace bx5 := Xbn (Xbn bx5 m55) m56
        have szV := HB.out.size
        have bz := lt_of_block bx5.out
        obtain ⟨loH, hloH⟩ : ∃ n, V56.heap.size = n := ⟨_, rfl⟩
        have pzW := Wz.out
        have pzX := Xz.out
        have pzG := Gz.out
        refine kd_call (i := 4) (by kernel_rfl) rfl (by rfl) (by kernel_rfl) (himpl.out V56 u1 u2 (hg0.out.mv HB.out (fun _ _ h => h)) (ht0.out.mv HB.out) ((he0.out.mv HB.out (fun _ _ h => h)).up HB.out.size) TS.out.sg TQ.out.sg) ?_
        rintro e V57 ⟨hsa, hsc, hqa, hqc, hta, htc, rfl, rs_, rq_, rt_, rap_, hbl⟩
        have m57 : Mv (nob) V56 V57 := Mv.of_below hbl
        replace hS := hS.step m57 (fun _ _ h => h.elim)
        refine ⟨_, rfl, fun _ => hS, ?_⟩
        refine ptk ?_
        replace WS := hide (WS.out.mv m57 (fun _ _ h => h))
        replace WQ := hide (WQ.out.mv m57 (fun _ _ h => h))
        replace WT := hide (WT.out.mv m57 (fun _ _ h => h))
        replace Wz := hide (Nat.le_trans Wz.out (m57).size)
        replace Xz := hide (Nat.le_trans Xz.out (m57).size)
        replace GS := hide (GS.out.mv m57 (fun _ _ h => h))
        replace GQ := hide (GQ.out.mv m57 (fun _ _ h => h))
        replace GT := hide (GT.out.mv m57 (fun _ _ h => h))
        replace Gz := hide (Nat.le_trans Gz.out (m57).size)
        replace TS := hide (TS.out.mv m57 (fun _ _ h => h))
        replace TQ := hide (TQ.out.mv m57 (fun _ _ h => h))
        rw [hloH] at szV bz pzW pzX pzG
        obtain ⟨hiH, hhiH⟩ : ∃ n, V57.heap.size = n := ⟨_, rfl⟩
        have Hl : Hid (∀ g, (rb (.slice hsa X.sh.length hsc) = some g ∨ rb (.slice hqa X.q.length hqc) = some g ∨ rb (.slice hta M.length htc) = some g) → loH ≤ g ∧ g < hiH) := hide (by rw [← hloH, ← hhiH]; exact fun g h => h.elim (rs_.lt g) (fun h => h.elim (rq_.lt g) (rt_.lt g)))
        have Hb : Hid (∀ g, (rb (.slice hsa X.sh.length hsc) = some g ∨ rb (.slice hqa X.q.length hqc) = some g ∨ rb (.slice hta M.length htc) = some g) → g ≠ b0 ∧ g ≠ b1 ∧ g ≠ b2 ∧ g ≠ b3 ∧ g ≠ b4 ∧ g ≠ b5) := hide (fun g h => by have := Hl.out g h; exact (by omega))
        have Hz : Hid (hiH ≤ V57.heap.size) := hide (Nat.le_of_eq hhiH.symm)
        have HS := hide (rs_.base (hloH ▸ szV))
        have HQ := hide (rq_.base (hloH ▸ szV))
        have HT := hide (rt_.base (hloH ▸ szV))
        have HA := hide rap_
        have olh_3 : loH ≤ hiH := by rw [← hloH, ← hhiH]; exact hbl.size
        have olo_3 : hiG ≤ loH := by omega
        clear rap_ rs_ rq_ rt_ szV bz hloH hhiH hbl pzW pzX pzG
        refine tk0 5 (.tuple #[.agg #[.int .i64 X.mem, .int .i64 X.own, .slice hsa X.sh.length hsc, .int .i64 X.bu, .int .i64 X.wt, .int .i64 X.ac, .slice hqa X.q.length hqc], .slice hta M.length htc, .bool B]) rfl ?_
        refine tk0 6 (.agg #[.int .i64 X.mem, .int .i64 X.own, .slice hsa X.sh.length hsc, .int .i64 X.bu, .int .i64 X.wt, .int .i64 X.ac, .slice hqa X.q.length hqc]) rfl ?_
        refine tk0 7 (.slice hta M.length htc) rfl ?_
        refine tk0 8 (.bool B) rfl ?_
        replace HB := Xhn HB m57; replace bx0 := Xbn bx0 m57; replace bx1 := Xbn bx1 m57; replace bx2 := Xbn bx2 m57; replace bx3 := Xbn bx3 m57; replace bx4 := Xbn bx4 m57; replace bx5 := Xbn bx5 m57
        have hMx := hM3.out V57 b5 u1 u2 hsa hsc hqa hqc hta htc loH hiH HB.out (by omega) bx0.out bx1.out bx2.out bx3.out bx4.out bx5.out WS.out WQ.out WT.out Wb.out Wz.out Xb.out Xz.out GS.out GQ.out GT.out Gb.out Gz.out (by omega) (by omega) Hl.out HA.out HS.out HQ.out HT.out Hb.out Hz.out (by omega) hS
        rw [hG.out] at hMx
        exact hMx
    refine hide ?_
    intro V48 b5 u1 u2 hsa hsc hqa hqc hta htc loH hiH HB o4_5 bx0 bx1 bx2 bx3 bx4 bx5 WS WQ WT Wb Wz Xb Xz GS GQ GT Gb Gz olo_3 olh_3 Hl HA HS HQ HT Hb Hz or_5 hS
    replace HB := hide HB; replace bx0 := hide bx0; replace bx1 := hide bx1; replace bx2 := hide bx2; replace bx3 := hide bx3; replace bx4 := hide bx4; replace bx5 := hide bx5; replace WS := hide WS; replace WQ := hide WQ; replace WT := hide WT; replace Wb := hide Wb; replace Wz := hide Wz; replace Xb := hide Xb; replace Xz := hide Xz; replace GS := hide GS; replace GQ := hide GQ; replace GT := hide GT; replace Gb := hide Gb; replace Gz := hide Gz; replace Hl := hide Hl; replace HA := hide HA; replace HS := hide HS; replace HQ := hide HQ; replace HT := hide HT; replace Hb := hide Hb; replace Hz := hide Hz
    rw [hG.out]; clear hG
    refine kd_skipI (i := 10) (w' := ((((((V48.setCell ⟨b5, 0, none⟩ (.int .i64 X.mem)).setCell ⟨b5, 1, none⟩ (.int .i64 X.own)).setCell ⟨b5, 2, none⟩ (.slice hsa X.sh.length hsc)).setCell ⟨b5, 3, none⟩ (.int .i64 X.bu)).setCell ⟨b5, 4, none⟩ (.int .i64 X.wt)).setCell ⟨b5, 5, none⟩ (.int .i64 X.ac)).setCell ⟨b5, 6, none⟩ (.slice hqa X.q.length hqc)) (fun V => Mv (fun g => g = b5) V48 V ∧ V.heap[b5]? = some (.cells #[.int .i64 X.mem, .int .i64 X.own, .slice hsa X.sh.length hsc, .int .i64 X.bu, .int .i64 X.wt, .int .i64 X.ac, .slice hqa X.q.length hqc] 31 (0, 0))) (by kernel_rfl) rfl (by rfl) (by have fr := fun i => frozen_of_row _ _ i _ _ bx5.out; have z0 := cell_box 0 bx5.out rfl; have z1 := cell_box 1 bx5.out rfl; have z2 := cell_box 2 bx5.out rfl; have z3 := cell_box 3 bx5.out rfl; have z4 := cell_box 4 bx5.out rfl; have z5 := cell_box 5 bx5.out rfl; have z6 := cell_box 6 bx5.out rfl; go_simp) ⟨Mv.set (Mv.set (Mv.set (Mv.set (Mv.set (Mv.set (Mv.set (Mv.refl _ _) _ _) _ _) _ _) _ _) _ _) _ _) _ _, (heap_setCell_same _ _ 6 _ _ _ (heap_setCell_same _ _ 5 _ _ _ (heap_setCell_same _ _ 4 _ _ _ (heap_setCell_same _ _ 3 _ _ _ (heap_setCell_same _ _ 2 _ _ _ (heap_setCell_same _ _ 1 _ _ _ (heap_setCell_same _ _ 0 _ _ _ (bx5.out)))))))).trans rfl⟩ (fun V hI _ => hS.step hI.1 (fun g hg h => by have h : g = b5 := h; exfalso; omega)) ?_
    rintro V58 ⟨m58, nxV58⟩
    refine ptk ?_
    replace WS := hide (WS.out.mv m58 (fun g e h => by have h : g = b5 := h; have := Wb.out g (.inl e); omega))
    replace WQ := hide (WQ.out.mv m58 (fun g e h => by have h : g = b5 := h; have := Wb.out g (.inr (.inl e)); omega))
    replace WT := hide (WT.out.mv m58 (fun g e h => by have h : g = b5 := h; have := Wb.out g (.inr (.inr e)); omega))
    replace Wz := hide (Nat.le_trans Wz.out (m58).size)
    replace Xz := hide (Nat.le_trans Xz.out (m58).size)
    replace GS := hide (GS.out.mv m58 (fun g e h => by have h : g = b5 := h; have := Gb.out g (.inl e); omega))
    replace GQ := hide (GQ.out.mv m58 (fun g e h => by have h : g = b5 := h; have := Gb.out g (.inr (.inl e)); omega))
    replace GT := hide (GT.out.mv m58 (fun g e h => by have h : g = b5 := h; have := Gb.out g (.inr (.inr e)); omega))
    replace Gz := hide (Nat.le_trans Gz.out (m58).size)
    replace HS := hide (HS.out.mv m58 (fun g e h => by have h : g = b5 := h; have := Hb.out g (.inl e); omega))
    replace HQ := hide (HQ.out.mv m58 (fun g e h => by have h : g = b5 := h; have := Hb.out g (.inr (.inl e)); omega))
    replace HT := hide (HT.out.mv m58 (fun g e h => by have h : g = b5 := h; have := Hb.out g (.inr (.inr e)); omega))
    replace Hz := hide (Nat.le_trans Hz.out (m58).size)
    replace bx5 := hide nxV58
    clear nxV58
    replace hS := hS.step m58 (fun g hg h => by have h : g = b5 := h; exfalso; omega)
    refine tk0 11 (.slice hta M.length htc) rfl ?_
    refine tk0 12 (.bool B) rfl ?_
    refine wpAnyK_done (by kernel_rfl) ?_
    clear hS rbx0 rbx1
    refine then_normal (h30 _ _ (sk fun K31 h31 => sk fun K32 h32 => rl ?_)); clear h30 K30
    replace HB := Xhb HB m58; replace bx0 := Xbb bx0 m58; replace bx1 := Xbb bx1 m58; replace bx2 := Xbb bx2 m58; replace bx3 := Xbb bx3 m58; replace bx4 := Xbb bx4 m58
    refine sg (.agg #[.int .i64 X.mem, .int .i64 X.own, .slice hsa X.sh.length hsc, .int .i64 X.bu, .int .i64 X.wt, .int .i64 X.ac, .slice hqa X.q.length hqc]) (h := by have z0 := cell_box 0 (bx5.out) rfl; have z1 := cell_box 1 (bx5.out) rfl; have z2 := cell_box 2 (bx5.out) rfl; have z3 := cell_box 3 (bx5.out) rfl; have z4 := cell_box 4 (bx5.out) rfl; have z5 := cell_box 5 (bx5.out) rfl; have z6 := cell_box 6 (bx5.out) rfl; go_simp) ?_
    refine sg (.agg #[.int .i64 X.mem, .int .i64 X.own, .slice wsa X.sh.length wsc, .int .i64 X.bu, .int .i64 X.wt, .int .i64 X.ac, .slice wqa X.q.length wqc]) (h := by have z0 := cell_box 0 (bx2.out) rfl; have z1 := cell_box 1 (bx2.out) rfl; have z2 := cell_box 2 (bx2.out) rfl; have z3 := cell_box 3 (bx2.out) rfl; have z4 := cell_box 4 (bx2.out) rfl; have z5 := cell_box 5 (bx2.out) rfl; have z6 := cell_box 6 (bx2.out) rfl; go_simp) ?_
    refine sw_call (by rfl) (by kernel_rfl) (eqLine_any X.mem X.own _ _ X.sh X.bu X.wt X.ac _ _ X.q.length (f2 X.q) V58 (sg_sl HS.out.sg) (sg_sl WS.out.sg) hsz.1 (sg_sr HQ.out.sg) (sg_sr WQ.out.sg) hsz.2.1) ?_
    rintro e V59 ⟨rfl, hbl⟩
    have m59 : Mv (nob) V58 V59 := Mv.of_below hbl
    refine ⟨_, rfl, ?_⟩
    refine pt ?_
    replace WS := hide (WS.out.mv m59 (fun _ _ h => h))
    replace WQ := hide (WQ.out.mv m59 (fun _ _ h => h))
    replace WT := hide (WT.out.mv m59 (fun _ _ h => h))
    replace Wz := hide (Nat.le_trans Wz.out (m59).size)
    replace Xz := hide (Nat.le_trans Xz.out (m59).size)
    replace GS := hide (GS.out.mv m59 (fun _ _ h => h))
    replace GQ := hide (GQ.out.mv m59 (fun _ _ h => h))
    replace GT := hide (GT.out.mv m59 (fun _ _ h => h))
    replace Gz := hide (Nat.le_trans Gz.out (m59).size)
    replace HS := hide (HS.out.mv m59 (fun _ _ h => h))
    replace HQ := hide (HQ.out.mv m59 (fun _ _ h => h))
    replace HT := hide (HT.out.mv m59 (fun _ _ h => h))
    replace Hz := hide (Nat.le_trans Hz.out (m59).size)
    clear hbl
    refine sg (.bool false) ?_
    refine sv (.bool false) ?_
    refine sv (.slice hta M.length htc) ?_
    refine sv (.slice wta M.length wtc) ?_
    refine sw_call (by rfl) (by kernel_rfl) (eqMsgS_same _ _ M.length (f6 M) V59 (sg_sr HT.out.sg) (sg_sr WT.out.sg) hsz.2.2) ?_
    rintro e V60 ⟨rfl, hbl⟩
    have m60 : Mv (nob) V59 V60 := Mv.of_below hbl
    refine ⟨_, rfl, ?_⟩
    refine pt ?_
    replace WS := hide (WS.out.mv m60 (fun _ _ h => h))
    replace WQ := hide (WQ.out.mv m60 (fun _ _ h => h))
    replace WT := hide (WT.out.mv m60 (fun _ _ h => h))
    replace Wz := hide (Nat.le_trans Wz.out (m60).size)
    replace Xz := hide (Nat.le_trans Xz.out (m60).size)
    replace GS := hide (GS.out.mv m60 (fun _ _ h => h))
    replace GQ := hide (GQ.out.mv m60 (fun _ _ h => h))
    replace GT := hide (GT.out.mv m60 (fun _ _ h => h))
    replace Gz := hide (Nat.le_trans Gz.out (m60).size)
    replace HS := hide (HS.out.mv m60 (fun _ _ h => h))
    replace HQ := hide (HQ.out.mv m60 (fun _ _ h => h))
    replace HT := hide (HT.out.mv m60 (fun _ _ h => h))
    replace Hz := hide (Nat.le_trans Hz.out (m60).size)
    clear hbl
    refine sg (.bool false) ?_
    refine sg (.bool false) ?_
    refine sv (.bool false) ?_
    refine sv (.bool B) ?_
    refine sv (.bool B) ?_
    refine sg (.bool false) (h := by have hd : (B != B) = false := (by simp); go_simp) ?_
    refine sg (.bool false) ?_
    refine nt (h32 _ _ (cf (wp_skip (then_normal (h31 _ _ (sk fun K33 h33 => rl ?_)))))); clear h32 K32; clear h31 K31
    refine sv (.int .i64 1) ?_
    refine nt (h33 _ _ (sk fun K34 h34 => rl ?_)); clear h33 K33
    replace bx4 := Xbn (Xbn bx4 m59) m60
    refine sg (.agg #[.int .i64 X.mem, .int .i64 X.own, .slice gsa X.sh.length gsc, .int .i64 X.bu, .int .i64 X.wt, .int .i64 X.ac, .slice gqa X.q.length gqc]) (h := by have z0 := cell_box 0 (bx4.out) rfl; have z1 := cell_box 1 (bx4.out) rfl; have z2 := cell_box 2 (bx4.out) rfl; have z3 := cell_box 3 (bx4.out) rfl; have z4 := cell_box 4 (bx4.out) rfl; have z5 := cell_box 5 (bx4.out) rfl; have z6 := cell_box 6 (bx4.out) rfl; go_simp) ?_
    refine sv (.int .i64 1) ?_
    refine sw_call (by rfl) (by kernel_rfl) (heldLine_any X _ _ _ _ 1 V60 GS.out.sg GQ.out.sg hsz.1 hsz.2.1 (by decide) (by decide)) ?_
    rintro e V61 ⟨rfl, hbl⟩
    have m61 : Mv (nob) V60 V61 := Mv.of_below hbl
    refine ⟨_, rfl, ?_⟩
    refine pt ?_
    replace WS := hide (WS.out.mv m61 (fun _ _ h => h))
    replace WQ := hide (WQ.out.mv m61 (fun _ _ h => h))
    replace WT := hide (WT.out.mv m61 (fun _ _ h => h))
    replace Wz := hide (Nat.le_trans Wz.out (m61).size)
    replace Xz := hide (Nat.le_trans Xz.out (m61).size)
    replace GS := hide (GS.out.mv m61 (fun _ _ h => h))
    replace GQ := hide (GQ.out.mv m61 (fun _ _ h => h))
    replace GT := hide (GT.out.mv m61 (fun _ _ h => h))
    replace Gz := hide (Nat.le_trans Gz.out (m61).size)
    replace HS := hide (HS.out.mv m61 (fun _ _ h => h))
    replace HQ := hide (HQ.out.mv m61 (fun _ _ h => h))
    replace HT := hide (HT.out.mv m61 (fun _ _ h => h))
    replace Hz := hide (Nat.le_trans Hz.out (m61).size)
    clear hbl
    refine sv (.int .i64 (1 + (X.sh.length : Int) + 2 * (X.q.length : Int))) ?_
    refine nt (h34 _ _ (sk fun K35 h35 => sk fun K36 h36 => rl ?_)); clear h34 K34
    refine sv (.int .i64 (1 + (X.sh.length : Int) + 2 * (X.q.length : Int))) ?_
    refine sg (.bool false) (h := by have hd := hd2.out; go_simp) ?_
    refine nt (h36 _ _ (cf (wp_skip (then_normal (h35 _ _ (sk fun K37 h37 => rl ?_)))))); clear h36 K36; clear h35 K35
    refine sv (.slice gta M.length gtc) ?_
    refine sv (.int .i64 (1 + (X.sh.length : Int) + 2 * (X.q.length : Int))) ?_
    refine sw_call (by rfl) (by kernel_rfl) (heldM_any _ _ (1 + (X.sh.length : Int) + 2 * (X.q.length : Int)) V61 hsz.2.2 hk0 hk1 GT.out.sg) ?_
    rintro e V62 ⟨rfl, hbl⟩
    have m62 : Mv (nob) V61 V62 := Mv.of_below hbl
    refine ⟨_, rfl, ?_⟩
    refine pt ?_
    replace WS := hide (WS.out.mv m62 (fun _ _ h => h))
    replace WQ := hide (WQ.out.mv m62 (fun _ _ h => h))
    replace WT := hide (WT.out.mv m62 (fun _ _ h => h))
    replace Wz := hide (Nat.le_trans Wz.out (m62).size)
    replace Xz := hide (Nat.le_trans Xz.out (m62).size)
    replace GS := hide (GS.out.mv m62 (fun _ _ h => h))
    replace GQ := hide (GQ.out.mv m62 (fun _ _ h => h))
    replace GT := hide (GT.out.mv m62 (fun _ _ h => h))
    replace Gz := hide (Nat.le_trans Gz.out (m62).size)
    replace HS := hide (HS.out.mv m62 (fun _ _ h => h))
    replace HQ := hide (HQ.out.mv m62 (fun _ _ h => h))
    replace HT := hide (HT.out.mv m62 (fun _ _ h => h))
    replace Hz := hide (Nat.le_trans Hz.out (m62).size)
    clear hbl
    refine sv (.int .i64 (1 + (X.sh.length : Int) + 2 * (X.q.length : Int) + 6 * (M.length : Int))) ?_
    refine nt (h37 _ _ (sk fun K38 h38 => sk fun K39 h39 => rl ?_)); clear h37 K37
    refine sv (.int .i64 (1 + (X.sh.length : Int) + 2 * (X.q.length : Int) + 6 * (M.length : Int))) ?_
    refine sg (.bool false) (h := by have hd := hd3.out; go_simp) ?_
    refine nt (h39 _ _ (cf (wp_skip (then_normal (h38 _ _ (sk fun K40 h40 => sk fun K41 h41 => rl ?_)))))); clear h39 K39; clear h38 K38
    refine sv (.int .i64 (1 + (X.sh.length : Int) + 2 * (X.q.length : Int) + 6 * (M.length : Int))) ?_
    refine sv (.int .i64 (1 + (X.sh.length : Int) + 2 * (X.q.length : Int) + 6 * (M.length : Int))) ?_
    refine sg (.bool false) ?_
    refine nt (h41 _ _ (cf (wp_skip (then_normal (h40 _ _ (sk fun K42 h42 => rl ?_)))))); clear h41 K41; clear h40 K40
    refine sv (.bool true) ?_
    refine nt (h42 _ _ (wp_ret ?_)); clear h42 K42
    replace HB := Xhn (Xhn (Xhn (Xhn HB m59) m60) m61) m62; replace bx0 := Xbn (Xbn (Xbn (Xbn bx0 m59) m60) m61) m62; replace bx1 := Xbn (Xbn (Xbn (Xbn bx1 m59) m60) m61) m62; replace bx2 := Xbn (Xbn (Xbn (Xbn bx2 m59) m60) m61) m62; replace bx3 := Xbn (Xbn (Xbn (Xbn bx3 m59) m60) m61) m62; replace bx5 := Xbn (Xbn (Xbn (Xbn bx5 m59) m60) m61) m62
    replace bx4 := Xbn (Xbn bx4 m61) m62
    exact bodyPost_ret (v := .bool true) (by simp [results, Tryz.results3, go_sem]) rfl ⟨rfl, HB.out.below⟩

end Go.Proofs.YtlalldlbgnlbjaaGreatDoor
