/- HmW -/
import Derived.Test.YtlalldlbgnlbjaaGreatDoorYomeGot37
import Derived.Test.YtlalldlbgnlbjaaGreatDoorYomeGot38
/- a home lets a request wait (written by mkHmW.py) -/
namespace Go.Proofs.YtlalldlbgnlbjaaGreatDoor
open Go.RowKit
set_option linter.unusedVariables false
set_option linter.unusedSimpArgs false

theorem f2_snoc (q : List (Int × Int)) (c t : Int) (j i : Nat) (hj : j < q.length + 1) (hi : i < 2) : snG 2 q.length (gF (f2 q)) [.int .i64 c, .int .i64 t] j i = gF (f2 (q ++ [(c, t)])) j i := by
  unfold snG
  by_cases h : j < q.length
  · simp only [if_pos h, gF, f2]
    rw [getD_app_l h]
  · obtain rfl : j = q.length := by omega
    simp only [if_neg h, gF, f2]
    rw [getD_app_r, Nat.sub_self, Nat.zero_mul, Nat.zero_add]
    match i, hi with
    | 0, _ => rfl
    | 1, _ => rfl
theorem add_req (W : World) (base : Nat) (v : Value) (q : List (Int × Int)) (c t : Int) (ty : TypeId) (b : Nat) (cp : Nat) (hc : W.heap[b]? = some (.cells #[.int .i64 c, .int .i64 t] 71 (0, 0))) (hr : Rg W base v 2 q.length (gF (f2 q))) (hn : q.length ≤ 1048576) (hb : base ≤ W.heap.size) :
    ∃ g off k' w', (Builtin.append_ #[29, 29] ty #[v, .slice (some ⟨b, 0, none⟩) 1 cp]).run Tryz.prog W = .ok (.slice (some ⟨g, off, none⟩) (q.length + 1) k') w' ∧ W.grownBy w' (rb v) ∧ Rg w' base (.slice (some ⟨g, off, none⟩) (q.length + 1) k') 2 (q.length + 1) (gF (f2 (q ++ [(c, t)]))) ∧ (rb v = some g ∨ W.heap.size ≤ g) := by
  obtain ⟨i0, hi, hz0, hz1, hz2⟩ := info_parts infoReq
  obtain ⟨g, off, k', w', h1, h2, h3, h4, h5⟩ := append_rg W base v 2 q.length 1 16 (gF (f2 q)) 29 ty 71 i0 (.agg #[.int .i64 0, .int .i64 0]) Tryz.underlying29 hi hz0 hz1 hz2 rfl (by decide) ⟨b, 0, none⟩ cp [.int .i64 c, .int .i64 t] rfl (fun j u hu => by
    rw [addrN, Nat.zero_add, cell_of_row _ _ j _ _ _ hc]
    rw [← hu]; simp) (fun u hu => by simp at hu; rcases hu with rfl | rfl <;> rfl) (by decide) hr (by unfold maxLen; omega) (by omega) hb
  exact ⟨g, off, k', w', h1, h2, h3.congr (by decide) (fun j hj i hi => f2_snoc q c t j i hj hi), h4⟩
theorem HAp.queue {hb N : Nat} {sv qv qv' tv : Value} (h : HAp hb sv qv tv) (hN : hb < N) (hs : ∀ g, rb sv = some g → g < N) (ht : ∀ g, rb tv = some g → g < N) (hn : ∀ g, rb qv' = some g → rb qv = some g ∨ N ≤ g) : HAp hb sv qv' tv := by
  refine ⟨⟨h.1.1, fun e => ?_, h.1.2.2⟩, fun g e => ⟨fun e2 => ?_, (h.2.1 g e).2⟩, fun g e e2 => ?_⟩
  · rcases hn _ e with q | q
    · exact h.1.2.1 q
    · omega
  · rcases hn _ e2 with q | q
    · exact (h.2.1 g e).1 q
    · have := hs g e; omega
  · rcases hn _ e with q | q
    · exact h.2.2 g q e2
    · have := ht g e2; omega

set_option maxRecDepth 20000 in
set_option maxHeartbeats 2000000 in
theorem wcl_any (b3 : Nat) (x y c t : Int) (w : World) (hb : w.heap[b3]? = some (.cells #[.int .i64 c, .int .i64 t] 71 (0, 0))) :
    Calls Tryz.prog 100 #[.agg #[.int .i64 x, .int .i64 y], .pointer (some ⟨b3, 0, none⟩)] w (fun e w' => e = .returned (.bool (x == c)) ∧ Below w.heap.size w w') := by
  have hb0 := hide hb; clear hb
  have HB : Hid (Mv nob w w) := hide (Mv.refl _ _)
  go_enter Tryz.func100, Tryz.ntmps100
  refine sk fun K1 h1 => rl ?_
  refine sbp #[.int .i64 x, .int .i64 y] 71 fun V1 b0 hb0 m1 bx0 => ?_
  have o_0 : w.heap.size ≤ b0 := by omega
  clear hb0
  refine sv (.bool false) ?_
  refine nt (h1 _ _ (sk fun K2 h2 => rl ?_)); clear h1 K1
  refine sv (.pointer (some ⟨b0, 0, none⟩)) ?_
  refine sl 0 bx0 ?_
  refine sv (.pointer (some ⟨b3, 0, none⟩)) ?_
  replace HB := Xhn HB m1
  refine sg (.int .i64 c) (h := by have z0 := cell_box 0 (HB.out.box hb0.out (fun h => h)) rfl; go_simp) ?_
  refine sg (.bool (x == c)) ?_
  refine sv (.bool (x == c)) ?_
  refine nt (h2 _ _ (wp_ret ?_)); clear h2 K2
  exact bodyPost_ret (v := .bool (x == c)) (by simp [results, Tryz.results100, go_sem]) rfl ⟨rfl, HB.out.below⟩

theorem any_no {Q : List (Int × Int)} {c : Int} {j : Nat} (h : ∀ i, i < j → ¬ (Q.getD i (0, 0)).1 = c) (hj : Q.length ≤ j) : (Q.any fun r => r.1 == c) = false := by
  rw [Bool.eq_false_iff]
  intro e
  obtain ⟨r, hr, hc⟩ := List.any_eq_true.1 e
  obtain ⟨i, hi, e2⟩ := List.getElem_of_mem hr
  refine h i (by omega) ?_
  rw [List.getD_eq_getElem?_getD, List.getElem?_eq_getElem hi, Option.getD_some, e2]
  simpa using hc
theorem any_yes {Q : List (Int × Int)} {c : Int} {j : Nat} (hj : j < Q.length) (h : (Q.getD j (0, 0)).1 = c) : (Q.any fun r => r.1 == c) = true := by
  refine List.any_eq_true.2 ⟨Q[j], List.getElem_mem hj, ?_⟩
  rw [List.getD_eq_getElem?_getD, List.getElem?_eq_getElem hj, Option.getD_some] at h
  simpa using h
set_option maxRecDepth 20000 in
set_option maxHeartbeats 2000000 in
theorem idx_any (b3 : Nat) (c t : Int) (qa : Option Addr) (qc : Nat) (Q : List (Int × Int)) (w : World) (hs : Sg w (.slice qa Q.length qc) 2 Q.length (gF (f2 Q))) (hn : Q.length ≤ 1048576) (hb : w.heap[b3]? = some (.cells #[.int .i64 c, .int .i64 t] 71 (0, 0))) :
    Calls Tryz.prog 106 #[.slice qa Q.length qc, .func (.func 100) #[] #[.pointer (some ⟨b3, 0, none⟩)]] w (fun e w' => ∃ k : Int, e = .returned (.int .i64 k) ∧ decide (0 ≤ k) = (Q.any fun r => r.1 == c) ∧ Below w.heap.size w w') := by
  have hb0 := hide hb; have hs0 := hide hs; clear hb hs
  have HB : Hid (Mv nob w w) := hide (Mv.refl _ _)
  go_enter Tryz.func106, Tryz.ntmps106
  refine sk fun K1 h1 => rl ?_
  refine sv (.int .i64 0) ?_
  refine nt (h1 _ _ (sk fun K2 h2 => sk fun K3 h3 => rl ?_)); clear h1 K1
  refine sv (.slice qa Q.length qc) ?_
  refine sg (.int .i64 (Q.length : Int)) ?_
  refine sv (.int .i64 0) ?_
  refine nt (h3 _ _ (wp_block ?_)); clear h3 K3
  refine wp_loop_ghost (fun m a' w' => ∃ (j : Nat) (u5 : Value) (u9 : Value) (u10 : Value) (u11 : Value) (u12 : Value) (u13 : Value) (u14 : Value) (u15 : Value) (u16 : Value) (u18 : Value), m = Q.length - j + 1 ∧ a' = ⟨#[.slice qa Q.length qc, .func (.func 100) #[] #[.pointer (some ⟨b3, 0, none⟩)], undef, undef, .int .i64 0, u5, .slice qa Q.length qc, .int .i64 (Q.length : Int), .int .i64 (j : Int), u9, u10, u11, u12, u13, u14, u15, u16, undef, u18], []⟩ ∧ (Mv nob w w') ∧ ((∀ i, i < j → ¬ (Q.getD i (0, 0)).1 = c) ∧ j ≤ Q.length)) (Q.length - 0 + 1) ⟨0, _, _, _, _, _, _, _, _, _, _, rfl, rfl, (HB.out), (⟨fun i hi => absurd hi (Nat.not_lt_zero i), Nat.zero_le _⟩)⟩ (fun m a' VL1 hI => ?_)
  obtain ⟨j, u5, u9, u10, u11, u12, u13, u14, u15, u16, u18, rfl, rfl, i_HB, i_NO⟩ := hI
  clear HB
  have HB := hide i_HB
  clear i_HB
  have NO := hide i_NO
  clear i_NO
  refine sk fun K4 h4 => rl ?_
  by_cases hlt : j < Q.length
  · refine sg (.bool true) (h := by have hd : decide (j < Q.length) = true := (by simp; omega); have hd2 : decide ((j : Int) < (Q.length : Int)) = true := (by simp; omega); go_simp) ?_
    refine nt (h4 _ _ (sk fun K5 h5 => ct (wp_skip (then_normal (h5 _ _ (sk fun K6 h6 => wp_block (sk fun K7 h7 => rl ?_))))))); clear h4 K4; clear h5 K5
    refine sv (.int .i64 (j : Int)) ?_
    refine sv (.int .i64 (j : Int)) ?_
    refine nt (h7 _ _ (sk fun K8 h8 => rl ?_)); clear h7 K7
    obtain ⟨x, hx⟩ : ∃ x, (Q.getD j (0, 0)).1 = x := ⟨_, rfl⟩
    obtain ⟨y, hy⟩ : ∃ y, (Q.getD j (0, 0)).2 = y := ⟨_, rfl⟩
    obtain ⟨ad0, cp0, e0, hcell⟩ := hs0.out.below HB.out.below
    obtain ⟨g0, o0, e1, hcell⟩ := hcell (by omega)
    obtain rfl : qa = some ⟨g0, o0, none⟩ := by rw [← e1]; simp only [Value.slice.injEq] at e0; exact e0.1
    have z0 : VL1.cell? ⟨g0, o0 + j * 2, none⟩ = some (.int .i64 x) := by have := hcell j hlt 0 (by decide); rw [Nat.add_zero] at this; rw [← hx]; exact this
    have z1 : VL1.cell? ⟨g0, o0 + j * 2 + 1, none⟩ = some (.int .i64 y) := by have := hcell j hlt 1 (by decide); rw [← hy]; exact this
    clear hcell e0 e1
    refine sv (.func (.func 100) #[] #[.pointer (some ⟨b3, 0, none⟩)]) ?_
    refine sv (.slice (some ⟨g0, o0, none⟩) Q.length qc) ?_
    refine sv (.int .i64 (j : Int)) ?_
    refine sg (.pointer (some ⟨g0, o0 + j * 2, none⟩)) (h := by have h1 : (j : Int) < (Q.length : Int) := (by omega); go_simp) ?_
    refine sg (.agg #[.int .i64 x, .int .i64 y]) (h := by have y0 := z0; have y1 := z1; go_simp) ?_
    refine sw_call (by rfl) (by first | rfl | (go_simp; done)) (wcl_any b3 x y c t VL1 (HB.out.box hb0.out (fun h => h))) ?_
    rintro e V1 ⟨rfl, hbl⟩
    have m1 : Mv (nob) VL1 V1 := Mv.of_below hbl
    refine ⟨_, rfl, ?_⟩
    refine pt ?_
    clear hbl
    by_cases hc : x = c
    · have hxc : (x == c) = true := by simpa using hc
      rw [hxc]
      refine nt (h8 _ _ (ct (sk fun K9 h9 => rl ?_))); clear h8 K8
      refine sv (.int .i64 (j : Int)) ?_
      refine sv (.int .i64 (j : Int)) ?_
      refine nt (h9 _ _ (wp_ret (inb_ret (then_ret (then_ret (inb_ret (then_ret ?_))))))); clear h9 K9; clear h6 K6; clear h2 K2
      replace HB := Xhn HB m1
      exact bodyPost_ret (v := .int .i64 (j : Int)) (by simp [results, Tryz.results106, go_sem]) rfl ⟨(j : Int), rfl, (by rw [any_yes hlt (hx.trans hc)]; simp), HB.out.below⟩
    · have hxc : (x == c) = false := by simpa using hc
      rw [hxc]
      refine nt (h8 _ _ (cf (wp_skip (inb_norm (then_normal (h6 _ _ (rl ?_))))))); clear h8 K8; clear h6 K6
      refine sg (.int .i64 ((j + 1 : Nat) : Int)) (h := by have hw : IntKind.i64.wrap ((j : Int) + 1) = ((j + 1 : Nat) : Int) := (by rw [i64wrap (by omega)]; omega); go_simp) ?_
      refine sv (.int .i64 ((j + 1 : Nat) : Int)) ?_
      refine wpList_nil (then_normal ?_)
      replace HB := Xhn HB m1
      have EN : (∀ i, i < j + 1 → ¬ (Q.getD i (0, 0)).1 = c) ∧ j + 1 ≤ Q.length := ⟨fun i hi => by by_cases e : i = j; (subst e; rw [hx]; exact hc); exact NO.out.1 i (by omega), hlt⟩
      exact ⟨(Q.length - (j + 1) + 1), (by omega), (j + 1), _, _, _, _, _, _, _, _, _, _, rfl, rfl, (HB.out), (EN)⟩
  · have NOj := NO.out.2
    refine sg (.bool false) (h := by have hd : decide (j < Q.length) = false := (by simp; omega); have hd2 : decide ((j : Int) < (Q.length : Int)) = false := (by simp; omega); go_simp) ?_
    refine nt (h4 _ _ (sk fun K10 h10 => cf (wp_exit (then_exit (then_exit (inb_here rfl (then_normal (h2 _ _ (sk fun K11 h11 => rl ?_))))))))); clear h4 K4; clear h10 K10; clear h2 K2
    refine sv (.int .i64 (-1)) ?_
    refine nt (h11 _ _ (wp_ret ?_)); clear h11 K11
    exact bodyPost_ret (v := .int .i64 (-1)) (by simp [results, Tryz.results106, go_sem]) rfl ⟨-1, rfl, (by rw [any_no NO.out.1 (by have := NO.out.2; omega)]; rfl), HB.out.below⟩

set_option maxRecDepth 20000 in
set_option maxHeartbeats 2000000 in
theorem cont_any (b3 : Nat) (c t : Int) (qa : Option Addr) (qc : Nat) (Q : List (Int × Int)) (w : World) (hs : Sg w (.slice qa Q.length qc) 2 Q.length (gF (f2 Q))) (hn : Q.length ≤ 1048576) (hb : w.heap[b3]? = some (.cells #[.int .i64 c, .int .i64 t] 71 (0, 0))) :
    Calls Tryz.prog 101 #[.slice qa Q.length qc, .func (.func 100) #[] #[.pointer (some ⟨b3, 0, none⟩)]] w (fun e w' => e = .returned (.bool (Q.any fun r => r.1 == c)) ∧ Below w.heap.size w w') := by
  have hb0 := hide hb; have hs0 := hide hs; clear hb hs
  have HB : Hid (Mv nob w w) := hide (Mv.refl _ _)
  go_enter Tryz.func101, Tryz.ntmps101
  refine sk fun K1 h1 => rl ?_
  refine sv (.bool false) ?_
  refine nt (h1 _ _ (sk fun K2 h2 => rl ?_)); clear h1 K1
  refine sv (.slice qa Q.length qc) ?_
  refine sv (.func (.func 100) #[] #[.pointer (some ⟨b3, 0, none⟩)]) ?_
  refine sw_call (by rfl) (by first | rfl | (go_simp; done)) (idx_any b3 c t qa qc Q w (hs0.out.below HB.out.below) hn (HB.out.box hb0.out (fun h => h))) ?_
  rintro e V1 ⟨k, rfl, hk, hbl⟩
  have m1 : Mv (nob) w V1 := Mv.of_below hbl
  refine ⟨_, rfl, ?_⟩
  refine pt ?_
  clear hbl
  obtain ⟨A, hA⟩ : ∃ A, (Q.any fun r => r.1 == c) = A := ⟨_, rfl⟩
  rw [hA] at hk
  have hk := hide hk
  refine sg (.bool A) (h := by have hd : decide (0 ≤ k) = A := hk.out; have hd2 : decide (k ≥ 0) = A := hk.out; go_simp) ?_
  refine sv (.bool A) ?_
  refine nt (h2 _ _ (wp_ret ?_)); clear h2 K2
  replace HB := Xhn HB m1
  exact bodyPost_ret (v := .bool A) (by simp [results, Tryz.results101, go_sem]) rfl ⟨by rw [hA], HB.out.below⟩

set_option maxRecDepth 20000 in
set_option maxHeartbeats 2000000 in
theorem wait_busy (E : Nat → Addr) (base hb : Nat) (L : Hm.Ln) (line : Int) (ms : List Hm.Mg) (sa : Option Addr) (sc : Nat) (qa : Option Addr) (qc : Nat) (ta : Option Addr) (tc : Nat) (w : World) (c t : Int) (h : Hr E w base hb L line ms sa sc qa qc ta tc) (hf : L.q.length < 10) (hbc : L.bu = c) :
    Calls Tryz.prog 88 #[.pointer (some ⟨hb, 0, none⟩), .agg #[.int .i64 c, .int .i64 t]] w (HPost E w base hb (.slice sa L.sh.length sc) (.slice qa L.q.length qc) (.slice ta ms.length tc) L line ms (rfV c (E 3))) := by
  have HB : Hid (Mv (Hb hb (.slice sa L.sh.length sc) (.slice qa L.q.length qc) (.slice ta ms.length tc)) w w) := hide (Mv.refl _ _)
  have hlo := h.lo
  have hb4 := h.b4
  have hlt := lt_of_block h.bx
  have AP := h.ap
  have FR : ∀ g, Hb hb (.slice sa L.sh.length sc) (.slice qa L.q.length qc) (.slice ta ms.length tc) g → Hb hb (.slice sa L.sh.length sc) (.slice qa L.q.length qc) (.slice ta ms.length tc) g ∨ w.heap.size ≤ g := fun g h => .inl h
  have bx0 := hide h.bx; have RS := hide h.rs; have RQ := hide h.rq; have RT := hide h.rt; have GL := hide h.gl; clear h
  have NB : Hid (∀ g, (rb (.slice sa L.sh.length sc) = some g ∨ rb (.slice qa L.q.length qc) = some g ∨ rb (.slice ta ms.length tc) = some g) → g ≠ hb) := hide (fun g h => HAp.ne AP h)
  go_enter Tryz.func88, Tryz.ntmps88
  refine sk fun K1 h1 => rl ?_
  refine sbp #[.int .i64 c, .int .i64 t] 71 fun V1 b1 hb1 m1 bx1 => ?_
  have o0_1 := Xlo bx0 hb1
  have og_1 : w.heap.size ≤ b1 := Xhs HB hb1
  replace NB : Hid (∀ g, (rb (.slice sa L.sh.length sc) = some g ∨ rb (.slice qa L.q.length qc) = some g ∨ rb (.slice ta ms.length tc) = some g) → g ≠ hb ∧ g ≠ b1) := hide (fun g h => by have h1 := NB.out g h; have h2 := rows_lt RS.out RQ.out RT.out g h; exact (by omega))
  replace RS := hide (RS.out.mv m1 (fun _ _ h => h))
  replace RQ := hide (RQ.out.mv m1 (fun _ _ h => h))
  replace RT := hide (RT.out.mv m1 (fun _ _ h => h))
  replace GL := hide (GL.out.mv m1 (fun _ _ h => h))
  clear hb1
  refine sv (.nilIface) ?_
  refine nt (h1 _ _ (sk fun K2 h2 => sk fun K3 h3 => rl ?_)); clear h1 K1
  refine sv (.pointer (some ⟨hb, 0, none⟩)) ?_
  refine sg (.pointer (some ⟨hb, 0, none⟩)) ?_
  refine sv (.pointer (some ⟨hb, 0, none⟩)) ?_
  refine sv (.pointer (some ⟨hb, 6, none⟩)) ?_
  replace bx0 := Xbn bx0 m1
  refine sl 6 bx0 ?_
  refine sg (.int .i64 (L.q.length : Int)) ?_
  refine sg (.bool false) (h := by have hd : decide (10 ≤ L.q.length) = false := (by simp; omega); have hd2 : decide ((10 : Int) ≤ (L.q.length : Int)) = false := (by simp; omega); go_simp) ?_
  refine nt (h3 _ _ (cf (wp_skip (then_normal (h2 _ _ (sk fun K4 h4 => rl ?_)))))); clear h3 K3; clear h2 K2
  refine sg (.func (.func 100) #[] #[.pointer (some ⟨b1, 0, none⟩)]) ?_
  refine sv (.func (.func 100) #[] #[.pointer (some ⟨b1, 0, none⟩)]) ?_
  refine nt (h4 _ _ (sk fun K5 h5 => sk fun K6 h6 => ?_)); clear h4 K4
  have hbv : Hid ((L.bu == c) = true) := hide (by simpa using hbc)
  clear hbc
  refine wp_region_but (z := 999) (S := fun w' => Mv (nob) V1.drew w') (by kernel_rfl) (Mv.refl _ _) (fun hS => ?_)
  have m2 : Mv nob V1 V1.drew := Mv.drew _
  obtain ⟨V2, hN⟩ : ∃ V, V1.drew = V := ⟨_, rfl⟩
  rw [hN] at hS m2 ⊢
  clear hN
  replace RS := hide (RS.out.mv m2 (fun _ _ h => h))
  replace RQ := hide (RQ.out.mv m2 (fun _ _ h => h))
  replace RT := hide (RT.out.mv m2 (fun _ _ h => h))
  replace GL := hide (GL.out.mv m2 (fun _ _ h => h))
  replace bx0 := Xbn bx0 m2; replace bx1 := Xbn bx1 m2
  have rbx0 := bx0; have rbx1 := bx1
  refine tk0 0 (.pointer (some ⟨hb, 0, none⟩)) rfl ?_
  refine tk0 1 (.pointer (some ⟨hb, 0, none⟩)) rfl ?_
  refine tk0 2 (.pointer (some ⟨hb, 0, none⟩)) rfl ?_
  refine tk0 3 (.pointer (some ⟨hb, 3, none⟩)) rfl ?_
  refine tk 4 (.int .i64 L.bu) rfl (fun w' hSw => by (try dsimp only at hSw); have z0 := cell_box 3 (hSw.box rbx0.out (fun h => h)) rfl; go_simp) ?_
  refine tk0 5 (.pointer (some ⟨b1, 0, none⟩)) rfl ?_
  refine tk 6 (.int .i64 c) rfl (fun w' hSw => by (try dsimp only at hSw); have z0 := cell_box 0 (hSw.box rbx1.out (fun h => h)) rfl; go_simp) ?_
  refine tk 7 (.bool true) rfl (fun w' hSw => by (try dsimp only at hSw); have hd := hbv.out; go_simp) ?_
  refine tk0 8 (.bool true) rfl ?_
  refine tu 9 rfl ?_
  refine tu 10 rfl ?_
  refine tu 11 rfl ?_
  refine tu 12 rfl ?_
  refine tu 13 rfl ?_
  refine tu 14 rfl ?_
  refine tu 15 rfl ?_
  refine tk0 16 (.bool true) rfl ?_
  refine wpAnyK_done (by kernel_rfl) ?_
  clear hS rbx0 rbx1
  refine then_normal (h6 _ _ (ct (sk fun K7 h7 => rl ?_))); clear h6 K6
  refine sv (.pointer (some ⟨b1, 0, none⟩)) ?_
  refine sl 0 bx1 ?_
  refine sg (erV (E 3)) (h := by have z0 := GL.out.twice; go_simp) ?_
  refine sv (.agg #[.int .i64 c, erV (E 3)]) ?_
  refine sg (.iface 89 (.agg #[.int .i64 c, erV (E 3)])) ?_
  refine sv (.iface 89 (.agg #[.int .i64 c, erV (E 3)])) ?_
  refine nt (h7 _ _ (wp_ret (then_ret ?_))); clear h7 K7; clear h5 K5
  replace HB := Xhn (Xhn HB m1) m2
  exact bodyPost_ret (v := rfV c (E 3)) (by simp [results, Tryz.results88, go_sem]) rfl ⟨_, _, _, _, _, _, rfl, ⟨bx0.out, RS.out, RQ.out, RT.out, AP, hlo, GL.out, hb4⟩, FR, HB.out⟩

set_option maxRecDepth 20000 in
set_option maxHeartbeats 2000000 in
theorem wait_twice (E : Nat → Addr) (base hb : Nat) (L : Hm.Ln) (line : Int) (ms : List Hm.Mg) (sa : Option Addr) (sc : Nat) (qa : Option Addr) (qc : Nat) (ta : Option Addr) (tc : Nat) (w : World) (c t : Int) (h : Hr E w base hb L line ms sa sc qa qc ta tc) (hf : L.q.length < 10) (hbc : ¬ L.bu = c) (han : (L.q.any fun r => r.1 == c) = true) :
    Calls Tryz.prog 88 #[.pointer (some ⟨hb, 0, none⟩), .agg #[.int .i64 c, .int .i64 t]] w (HPost E w base hb (.slice sa L.sh.length sc) (.slice qa L.q.length qc) (.slice ta ms.length tc) L line ms (rfV c (E 3))) := by
  have HB : Hid (Mv (Hb hb (.slice sa L.sh.length sc) (.slice qa L.q.length qc) (.slice ta ms.length tc)) w w) := hide (Mv.refl _ _)
  have hlo := h.lo
  have hb4 := h.b4
  have hlt := lt_of_block h.bx
  have AP := h.ap
  have FR : ∀ g, Hb hb (.slice sa L.sh.length sc) (.slice qa L.q.length qc) (.slice ta ms.length tc) g → Hb hb (.slice sa L.sh.length sc) (.slice qa L.q.length qc) (.slice ta ms.length tc) g ∨ w.heap.size ≤ g := fun g h => .inl h
  have bx0 := hide h.bx; have RS := hide h.rs; have RQ := hide h.rq; have RT := hide h.rt; have GL := hide h.gl; clear h
  have NB : Hid (∀ g, (rb (.slice sa L.sh.length sc) = some g ∨ rb (.slice qa L.q.length qc) = some g ∨ rb (.slice ta ms.length tc) = some g) → g ≠ hb) := hide (fun g h => HAp.ne AP h)
  go_enter Tryz.func88, Tryz.ntmps88
  refine sk fun K1 h1 => rl ?_
  refine sbp #[.int .i64 c, .int .i64 t] 71 fun V1 b1 hb1 m1 bx1 => ?_
  have o0_1 := Xlo bx0 hb1
  have og_1 : w.heap.size ≤ b1 := Xhs HB hb1
  replace NB : Hid (∀ g, (rb (.slice sa L.sh.length sc) = some g ∨ rb (.slice qa L.q.length qc) = some g ∨ rb (.slice ta ms.length tc) = some g) → g ≠ hb ∧ g ≠ b1) := hide (fun g h => by have h1 := NB.out g h; have h2 := rows_lt RS.out RQ.out RT.out g h; exact (by omega))
  replace RS := hide (RS.out.mv m1 (fun _ _ h => h))
  replace RQ := hide (RQ.out.mv m1 (fun _ _ h => h))
  replace RT := hide (RT.out.mv m1 (fun _ _ h => h))
  replace GL := hide (GL.out.mv m1 (fun _ _ h => h))
  clear hb1
  refine sv (.nilIface) ?_
  refine nt (h1 _ _ (sk fun K2 h2 => sk fun K3 h3 => rl ?_)); clear h1 K1
  refine sv (.pointer (some ⟨hb, 0, none⟩)) ?_
  refine sg (.pointer (some ⟨hb, 0, none⟩)) ?_
  refine sv (.pointer (some ⟨hb, 0, none⟩)) ?_
  refine sv (.pointer (some ⟨hb, 6, none⟩)) ?_
  replace bx0 := Xbn bx0 m1
  refine sl 6 bx0 ?_
  refine sg (.int .i64 (L.q.length : Int)) ?_
  refine sg (.bool false) (h := by have hd : decide (10 ≤ L.q.length) = false := (by simp; omega); have hd2 : decide ((10 : Int) ≤ (L.q.length : Int)) = false := (by simp; omega); go_simp) ?_
  refine nt (h3 _ _ (cf (wp_skip (then_normal (h2 _ _ (sk fun K4 h4 => rl ?_)))))); clear h3 K3; clear h2 K2
  refine sg (.func (.func 100) #[] #[.pointer (some ⟨b1, 0, none⟩)]) ?_
  refine sv (.func (.func 100) #[] #[.pointer (some ⟨b1, 0, none⟩)]) ?_
  refine nt (h4 _ _ (sk fun K5 h5 => sk fun K6 h6 => ?_)); clear h4 K4
  have hbv : Hid ((L.bu == c) = false) := hide (by simpa using hbc)
  clear hbc
  refine wp_region_but (z := 999) (S := fun w' => Mv (nob) V1.drew w') (by kernel_rfl) (Mv.refl _ _) (fun hS => ?_)
  have m2 : Mv nob V1 V1.drew := Mv.drew _
  obtain ⟨V2, hN⟩ : ∃ V, V1.drew = V := ⟨_, rfl⟩
  rw [hN] at hS m2 ⊢
  clear hN
  replace RS := hide (RS.out.mv m2 (fun _ _ h => h))
  replace RQ := hide (RQ.out.mv m2 (fun _ _ h => h))
  replace RT := hide (RT.out.mv m2 (fun _ _ h => h))
  replace GL := hide (GL.out.mv m2 (fun _ _ h => h))
  replace bx0 := Xbn bx0 m2; replace bx1 := Xbn bx1 m2
  have rbx0 := bx0; have rbx1 := bx1
  refine tk0 0 (.pointer (some ⟨hb, 0, none⟩)) rfl ?_
  refine tk0 1 (.pointer (some ⟨hb, 0, none⟩)) rfl ?_
  refine tk0 2 (.pointer (some ⟨hb, 0, none⟩)) rfl ?_
  refine tk0 3 (.pointer (some ⟨hb, 3, none⟩)) rfl ?_
  refine tk 4 (.int .i64 L.bu) rfl (fun w' hSw => by (try dsimp only at hSw); have z0 := cell_box 3 (hSw.box rbx0.out (fun h => h)) rfl; go_simp) ?_
  refine tk0 5 (.pointer (some ⟨b1, 0, none⟩)) rfl ?_
  refine tk 6 (.int .i64 c) rfl (fun w' hSw => by (try dsimp only at hSw); have z0 := cell_box 0 (hSw.box rbx1.out (fun h => h)) rfl; go_simp) ?_
  refine tk 7 (.bool false) rfl (fun w' hSw => by (try dsimp only at hSw); have hd := hbv.out; go_simp) ?_
  refine tk0 8 (.bool false) rfl ?_
  refine tk0 9 (.pointer (some ⟨hb, 0, none⟩)) rfl ?_
  refine tk0 10 (.pointer (some ⟨hb, 0, none⟩)) rfl ?_
  refine tk0 11 (.pointer (some ⟨hb, 0, none⟩)) rfl ?_
  refine tk0 12 (.pointer (some ⟨hb, 6, none⟩)) rfl ?_
  refine tk 13 (.slice qa L.q.length qc) rfl (fun w' hSw => by (try dsimp only at hSw); have z0 := cell_box 6 (hSw.box rbx0.out (fun h => h)) rfl; go_simp) ?_
  refine tk0 14 (.func (.func 100) #[] #[.pointer (some ⟨b1, 0, none⟩)]) rfl ?_
  refine kd_call (i := 15) (by kernel_rfl) rfl (by rfl) (by first | rfl | (go_simp; done)) (cont_any b1 c t qa qc L.q V2 RQ.out.sg (by omega) bx1.out) ?_
  rintro e V3 ⟨rfl, hbl⟩
  have m3 : Mv (nob) V2 V3 := Mv.of_below hbl
  replace hS := hS.step m3 (fun _ _ h => h.elim)
  refine ⟨_, rfl, fun _ => hS, ?_⟩
  refine ptk ?_
  replace RS := hide (RS.out.mv m3 (fun _ _ h => h))
  replace RQ := hide (RQ.out.mv m3 (fun _ _ h => h))
  replace RT := hide (RT.out.mv m3 (fun _ _ h => h))
  replace GL := hide (GL.out.mv m3 (fun _ _ h => h))
  clear hbl
  rw [han]
  refine tk0 16 (.bool true) rfl ?_
  refine wpAnyK_done (by kernel_rfl) ?_
  clear hS rbx0 rbx1
  refine then_normal (h6 _ _ (ct (sk fun K7 h7 => rl ?_))); clear h6 K6
  refine sv (.pointer (some ⟨b1, 0, none⟩)) ?_
  replace bx1 := Xbn bx1 m3
  refine sl 0 bx1 ?_
  refine sg (erV (E 3)) (h := by have z0 := GL.out.twice; go_simp) ?_
  refine sv (.agg #[.int .i64 c, erV (E 3)]) ?_
  refine sg (.iface 89 (.agg #[.int .i64 c, erV (E 3)])) ?_
  refine sv (.iface 89 (.agg #[.int .i64 c, erV (E 3)])) ?_
  refine nt (h7 _ _ (wp_ret (then_ret ?_))); clear h7 K7; clear h5 K5
  replace HB := Xhn (Xhn (Xhn HB m1) m2) m3; replace bx0 := Xbn bx0 m3
  exact bodyPost_ret (v := rfV c (E 3)) (by simp [results, Tryz.results88, go_sem]) rfl ⟨_, _, _, _, _, _, rfl, ⟨bx0.out, RS.out, RQ.out, RT.out, AP, hlo, GL.out, hb4⟩, FR, HB.out⟩

set_option maxRecDepth 20000 in
set_option maxHeartbeats 2000000 in
theorem wait_yes (E : Nat → Addr) (base hb : Nat) (L : Hm.Ln) (line : Int) (ms : List Hm.Mg) (sa : Option Addr) (sc : Nat) (qa : Option Addr) (qc : Nat) (ta : Option Addr) (tc : Nat) (w : World) (c t : Int) (h : Hr E w base hb L line ms sa sc qa qc ta tc) (hf : L.q.length < 10) (hbc : ¬ L.bu = c) (han : (L.q.any fun r => r.1 == c) = false) :
    Calls Tryz.prog 88 #[.pointer (some ⟨hb, 0, none⟩), .agg #[.int .i64 c, .int .i64 t]] w (HPost E w base hb (.slice sa L.sh.length sc) (.slice qa L.q.length qc) (.slice ta ms.length tc) { L with q := L.q ++ [(c, t)] } line ms .nilIface) := by
  have HB : Hid (Mv (Hb hb (.slice sa L.sh.length sc) (.slice qa L.q.length qc) (.slice ta ms.length tc)) w w) := hide (Mv.refl _ _)
  have hlo := h.lo
  have hb4 := h.b4
  have hlt := lt_of_block h.bx
  have AP := h.ap
  have FR : ∀ g, Hb hb (.slice sa L.sh.length sc) (.slice qa L.q.length qc) (.slice ta ms.length tc) g → Hb hb (.slice sa L.sh.length sc) (.slice qa L.q.length qc) (.slice ta ms.length tc) g ∨ w.heap.size ≤ g := fun g h => .inl h
  have bx0 := hide h.bx; have RS := hide h.rs; have RQ := hide h.rq; have RT := hide h.rt; have GL := hide h.gl; clear h
  have NB : Hid (∀ g, (rb (.slice sa L.sh.length sc) = some g ∨ rb (.slice qa L.q.length qc) = some g ∨ rb (.slice ta ms.length tc) = some g) → g ≠ hb) := hide (fun g h => HAp.ne AP h)
  go_enter Tryz.func88, Tryz.ntmps88
  refine sk fun K1 h1 => rl ?_
  refine sbp #[.int .i64 c, .int .i64 t] 71 fun V1 b1 hb1 m1 bx1 => ?_
  have o0_1 := Xlo bx0 hb1
  have og_1 : w.heap.size ≤ b1 := Xhs HB hb1
  replace NB : Hid (∀ g, (rb (.slice sa L.sh.length sc) = some g ∨ rb (.slice qa L.q.length qc) = some g ∨ rb (.slice ta ms.length tc) = some g) → g ≠ hb ∧ g ≠ b1) := hide (fun g h => by have h1 := NB.out g h; have h2 := rows_lt RS.out RQ.out RT.out g h; exact (by omega))
  replace RS := hide (RS.out.mv m1 (fun _ _ h => h))
  replace RQ := hide (RQ.out.mv m1 (fun _ _ h => h))
  replace RT := hide (RT.out.mv m1 (fun _ _ h => h))
  replace GL := hide (GL.out.mv m1 (fun _ _ h => h))
  clear hb1
  refine sv (.nilIface) ?_
  refine nt (h1 _ _ (sk fun K2 h2 => sk fun K3 h3 => rl ?_)); clear h1 K1
  refine sv (.pointer (some ⟨hb, 0, none⟩)) ?_
  refine sg (.pointer (some ⟨hb, 0, none⟩)) ?_
  refine sv (.pointer (some ⟨hb, 0, none⟩)) ?_
  refine sv (.pointer (some ⟨hb, 6, none⟩)) ?_
  replace bx0 := Xbn bx0 m1
  refine sl 6 bx0 ?_
  refine sg (.int .i64 (L.q.length : Int)) ?_
  refine sg (.bool false) (h := by have hd : decide (10 ≤ L.q.length) = false := (by simp; omega); have hd2 : decide ((10 : Int) ≤ (L.q.length : Int)) = false := (by simp; omega); go_simp) ?_
  refine nt (h3 _ _ (cf (wp_skip (then_normal (h2 _ _ (sk fun K4 h4 => rl ?_)))))); clear h3 K3; clear h2 K2
  refine sg (.func (.func 100) #[] #[.pointer (some ⟨b1, 0, none⟩)]) ?_
  refine sv (.func (.func 100) #[] #[.pointer (some ⟨b1, 0, none⟩)]) ?_
  refine nt (h4 _ _ (sk fun K5 h5 => sk fun K6 h6 => ?_)); clear h4 K4
  have hbv : Hid ((L.bu == c) = false) := hide (by simpa using hbc)
  clear hbc
  refine wp_region_but (z := 999) (S := fun w' => Mv (nob) V1.drew w') (by kernel_rfl) (Mv.refl _ _) (fun hS => ?_)
  have m2 : Mv nob V1 V1.drew := Mv.drew _
  obtain ⟨V2, hN⟩ : ∃ V, V1.drew = V := ⟨_, rfl⟩
  rw [hN] at hS m2 ⊢
  clear hN
  replace RS := hide (RS.out.mv m2 (fun _ _ h => h))
  replace RQ := hide (RQ.out.mv m2 (fun _ _ h => h))
  replace RT := hide (RT.out.mv m2 (fun _ _ h => h))
  replace GL := hide (GL.out.mv m2 (fun _ _ h => h))
  replace bx0 := Xbn bx0 m2; replace bx1 := Xbn bx1 m2
  have rbx0 := bx0; have rbx1 := bx1
  refine tk0 0 (.pointer (some ⟨hb, 0, none⟩)) rfl ?_
  refine tk0 1 (.pointer (some ⟨hb, 0, none⟩)) rfl ?_
  refine tk0 2 (.pointer (some ⟨hb, 0, none⟩)) rfl ?_
  refine tk0 3 (.pointer (some ⟨hb, 3, none⟩)) rfl ?_
  refine tk 4 (.int .i64 L.bu) rfl (fun w' hSw => by (try dsimp only at hSw); have z0 := cell_box 3 (hSw.box rbx0.out (fun h => h)) rfl; go_simp) ?_
  refine tk0 5 (.pointer (some ⟨b1, 0, none⟩)) rfl ?_
  refine tk 6 (.int .i64 c) rfl (fun w' hSw => by (try dsimp only at hSw); have z0 := cell_box 0 (hSw.box rbx1.out (fun h => h)) rfl; go_simp) ?_
  refine tk 7 (.bool false) rfl (fun w' hSw => by (try dsimp only at hSw); have hd := hbv.out; go_simp) ?_
  refine tk0 8 (.bool false) rfl ?_
  refine tk0 9 (.pointer (some ⟨hb, 0, none⟩)) rfl ?_
  refine tk0 10 (.pointer (some ⟨hb, 0, none⟩)) rfl ?_
  refine tk0 11 (.pointer (some ⟨hb, 0, none⟩)) rfl ?_
  refine tk0 12 (.pointer (some ⟨hb, 6, none⟩)) rfl ?_
  refine tk 13 (.slice qa L.q.length qc) rfl (fun w' hSw => by (try dsimp only at hSw); have z0 := cell_box 6 (hSw.box rbx0.out (fun h => h)) rfl; go_simp) ?_
  refine tk0 14 (.func (.func 100) #[] #[.pointer (some ⟨b1, 0, none⟩)]) rfl ?_
  refine kd_call (i := 15) (by kernel_rfl) rfl (by rfl) (by first | rfl | (go_simp; done)) (cont_any b1 c t qa qc L.q V2 RQ.out.sg (by omega) bx1.out) ?_
  rintro e V3 ⟨rfl, hbl⟩
  have m3 : Mv (nob) V2 V3 := Mv.of_below hbl
  replace hS := hS.step m3 (fun _ _ h => h.elim)
  refine ⟨_, rfl, fun _ => hS, ?_⟩
  refine ptk ?_
  replace RS := hide (RS.out.mv m3 (fun _ _ h => h))
  replace RQ := hide (RQ.out.mv m3 (fun _ _ h => h))
  replace RT := hide (RT.out.mv m3 (fun _ _ h => h))
  replace GL := hide (GL.out.mv m3 (fun _ _ h => h))
  clear hbl
  rw [han]
  refine tk0 16 (.bool false) rfl ?_
  refine wpAnyK_done (by kernel_rfl) ?_
  clear hS rbx0 rbx1
  refine then_normal (h6 _ _ (cf (wp_skip (then_normal (h5 _ _ (sk fun K7 h7 => ?_)))))); clear h6 K6; clear h5 K5
  replace HB := Xhn (Xhn (Xhn HB m1) m2) m3; replace bx0 := Xbn bx0 m3; replace bx1 := Xbn bx1 m3
  have nbT := fun g e => NB.out g (.inr (.inl e))
  refine wp_region_but (z := 12) (S := fun w' => Mv (fun x => rb (.slice qa L.q.length qc) = some x) V3.drew w') (by kernel_rfl) (Mv.refl _ _) (fun hS => ?_)
  have m4 : Mv nob V3 V3.drew := Mv.drew _
  obtain ⟨V4, hN⟩ : ∃ V, V3.drew = V := ⟨_, rfl⟩
  rw [hN] at hS m4 ⊢
  clear hN
  replace RS := hide (RS.out.mv m4 (fun _ _ h => h))
  replace RQ := hide (RQ.out.mv m4 (fun _ _ h => h))
  replace RT := hide (RT.out.mv m4 (fun _ _ h => h))
  replace GL := hide (GL.out.mv m4 (fun _ _ h => h))
  replace bx0 := Xbn bx0 m4; replace bx1 := Xbn bx1 m4
  have rbx0 := bx0; have rbx1 := bx1
  refine tk0 0 (.pointer (some ⟨hb, 0, none⟩)) rfl ?_
  refine tk0 1 (.pointer (some ⟨hb, 0, none⟩)) rfl ?_
  refine tk0 2 (.pointer (some ⟨hb, 0, none⟩)) rfl ?_
  refine tk0 3 (.pointer (some ⟨hb, 0, none⟩)) rfl ?_
  refine tk0 4 (.pointer (some ⟨hb, 6, none⟩)) rfl ?_
  refine tk 5 (.slice qa L.q.length qc) rfl (fun w' hSw => by (try dsimp only at hSw); have z0 := cell_box 6 (hSw.box rbx0.out (fun h => by have := nbT _ h; omega)) rfl; go_simp) ?_
  refine tk 6 (.agg #[.int .i64 c, .int .i64 t]) rfl (fun w' hSw => by (try dsimp only at hSw); have z0 := cell_box 0 (hSw.box rbx1.out (fun h => by have := nbT _ h; omega)) rfl; have z1 := cell_box 1 (hSw.box rbx1.out (fun h => by have := nbT _ h; omega)) rfl; go_simp) ?_
  replace HB := Xhn HB m4
  refine kd_valI (i := 7) (v := .slice (some ⟨V4.heap.size, 0, none⟩) 1 1) (w' := V4.alloc (.cells #[.int .i64 c, .int .i64 t] 71)) (fun V => Mv nob V4 V ∧ V.heap[V4.heap.size]? = some (.cells #[.int .i64 c, .int .i64 t] 71 (0, 0))) (by kernel_rfl) rfl (by rfl) (by first | rfl | go_simp) ⟨Mv.alloc _ _, heap_alloc_new _ _⟩ (fun V hI _ => hS.step hI.1 (fun _ _ h => h.elim)) ?_
  rintro V5 ⟨m5, nx⟩
  refine ptk ?_
  obtain ⟨b2, hb2⟩ : ∃ b2, V4.heap.size = b2 := ⟨_, rfl⟩
  rw [hb2] at nx ⊢
  have o1_2 := Xlo bx1 hb2
  have og_2 : w.heap.size ≤ b2 := Xhs HB hb2
  replace NB : Hid (∀ g, (rb (.slice sa L.sh.length sc) = some g ∨ rb (.slice qa L.q.length qc) = some g ∨ rb (.slice ta ms.length tc) = some g) → g ≠ hb ∧ g ≠ b1 ∧ g ≠ b2) := hide (fun g h => by have h1 := NB.out g h; have h2 := rows_lt RS.out RQ.out RT.out g h; exact (by omega))
  replace RS := hide (RS.out.mv m5 (fun _ _ h => h))
  replace RQ := hide (RQ.out.mv m5 (fun _ _ h => h))
  replace RT := hide (RT.out.mv m5 (fun _ _ h => h))
  replace GL := hide (GL.out.mv m5 (fun _ _ h => h))
  have bx2 := hide nx
  clear nx
  replace hS := hS.step m5 (fun _ _ h => h.elim)
  clear hb2
  refine wpAnyK_re (S' := fun w' => Mv (fun x => rb (.slice qa L.q.length qc) = some x) V5 w') (fun w' h => hS.step h (fun _ _ h => h)) ?_
  replace hS : Mv (fun x => rb (.slice qa L.q.length qc) = some x) V5 V5 := Mv.refl _ _
  replace bx0 := Xbn bx0 m5; replace bx1 := Xbn bx1 m5
  have rbx0 := bx0; have rbx1 := bx1; have rbx2 := bx2
  have szT := lt_of_block bx2.out
  replace HB := Xhn HB m5
  have szB := HB.out.size
  have hlo2 : base ≤ V5.heap.size := by omega
  have nbQ2 := fun g e => NB.out g (.inr (.inl e))
  have hs1 := fun g e => (RS.out.lt g e).2
  have ht1 := fun g e => (RT.out.lt g e).2
  have hbz := lt_of_block bx0.out
  have hne := NB.out
  have h4b : ∀ g, rb (.slice qa L.q.length qc) = some g → 7 ≤ g := fun g e => Nat.le_trans hb4 (RQ.out.lt g e).1
  obtain ⟨gx, ox, kx, V6, hrun, hgr, hrg, hbl⟩ := add_req V5 base (.slice qa L.q.length qc) L.q c t 29 b2 1 bx2.out RQ.out (by omega) hlo2
  have m6 : Mv (fun x => rb (.slice qa L.q.length qc) = some x) V5 V6 := Mv.of_grown hgr
  replace hS := hS.step m6 (fun _ _ h => h)
  refine kd_valW (i := 8) (by kernel_rfl) rfl (by rfl) (run_append_op _ _ 29 (by rfl) (by rfl) (by rfl) hrun) (fun _ => hS) ?_
  refine ptk ?_
  replace HB := hide (HB.out.step m6 (fun g hg e => (FR g (.inr (.inr (.inl e)))).resolve_right (by omega)))
  replace bx0 := hide (m6.box bx0.out (fun h => by have := nbQ2 _ h; omega))
  replace RS := hide (RS.out.mv m6 (fun g e h => (AP.2.1 g e).1 h))
  replace RT := hide (RT.out.mv m6 (fun g e h => AP.2.2 g h e))
  replace GL := hide (GL.out.mv m6 (fun g hg h => by have := h4b g h; omega))
  replace bx1 := hide (m6.box bx1.out (fun h => by have := nbQ2 _ h; omega))
  replace bx2 := hide (m6.box bx2.out (fun h => by have := nbQ2 _ h; omega))
  replace RQ := hide hrg
  have hnb : ∀ g, rb (.slice (some ⟨gx, ox, none⟩) (L.q.length + 1) kx) = some g → rb (.slice qa L.q.length qc) = some g ∨ V5.heap.size ≤ g := fun g e => by have e2 : gx = g := rb_blk e; subst e2; exact hbl
  replace NB : Hid (∀ g, (rb (.slice sa L.sh.length sc) = some g ∨ rb (.slice (some ⟨gx, ox, none⟩) (L.q.length + 1) kx) = some g ∨ rb (.slice ta ms.length tc) = some g) → g ≠ hb ∧ g ≠ b1 ∧ g ≠ b2) := hide (fun g h => h.elim (fun h => hne g (.inl h)) (fun h => h.elim (fun h => (hnb g h).elim (fun q => hne g (.inr (.inl q))) (fun q => by omega)) (fun h => hne g (.inr (.inr h)))))
  replace AP := AP.queue hbz hs1 ht1 hnb
  replace FR := fun g (h : Hb hb (.slice sa L.sh.length sc) (.slice (some ⟨gx, ox, none⟩) (L.q.length + 1) kx) (.slice ta ms.length tc) g) => h.elim (fun e => FR g (.inl e)) (fun h => h.elim (fun e => FR g (.inr (.inl e))) (fun h => h.elim (fun e => (hnb g e).elim (fun q => FR g (.inr (.inr (.inl q)))) (fun q => .inr (Nat.le_trans szB q))) (fun e => FR g (.inr (.inr (.inr e))))))
  clear hrun hgr hrg hbl hnb hs1 ht1 hbz hne h4b nbQ2 szT szB hlo2
  refine kd_val (i := 9) (v := .pointer (some ⟨hb, 0, none⟩)) (by kernel_rfl) rfl (by rfl) (by go_simp) hS ?_
  refine ptk ?_
  refine kd_val (i := 10) (v := .pointer (some ⟨hb, 0, none⟩)) (by kernel_rfl) rfl (by rfl) (by go_simp) hS ?_
  refine ptk ?_
  refine tk0 11 (.pointer (some ⟨hb, 6, none⟩)) rfl ?_
  refine kd_skipI (i := 12) (w' := V6.setCell ⟨hb, 6, none⟩ (.slice (some ⟨gx, ox, none⟩) (L.q.length + 1) kx)) (fun V => Mv (fun g => g = hb) V6 V ∧ V.heap[hb]? = some (.cells #[.int .i64 L.mem, .int .i64 L.own, .slice sa L.sh.length sc, .int .i64 L.bu, .int .i64 L.wt, .int .i64 L.ac, .slice (some ⟨gx, ox, none⟩) (L.q.length + 1) kx, .int .i64 line, .slice ta ms.length tc] 87 (0, 0))) (by kernel_rfl) rfl (by rfl) (by have fr := fun i => frozen_of_row _ _ i _ _ bx0.out; have z0 := cell_box 6 bx0.out rfl; go_simp) ⟨Mv.set (Mv.refl _ _) _ _, (heap_setCell_same _ _ 6 _ _ _ (bx0.out)).trans rfl⟩ (fun _ _ h => absurd rfl h) ?_
  rintro V7 ⟨m7, nxV7⟩
  refine ptk ?_
  replace HB := hide (HB.out.step m7 (fun g hg e => .inl e))
  replace RS := hide (RS.out.mv m7 (fun g e h => by have h : g = hb := h; have := NB.out g (.inl e); omega))
  replace RQ := hide (RQ.out.mv m7 (fun g e h => by have h : g = hb := h; have := NB.out g (.inr (.inl e)); omega))
  replace RT := hide (RT.out.mv m7 (fun g e h => by have h : g = hb := h; have := NB.out g (.inr (.inr e)); omega))
  replace GL := hide (GL.out.mv m7 (fun g hg h => by have h : g = hb := h; omega))
  replace bx0 := hide nxV7
  clear nxV7
  refine wpAnyK_done (by kernel_rfl) ?_
  clear hS rbx0 rbx1 rbx2
  refine then_normal (h7 _ _ (sk fun K8 h8 => rl ?_)); clear h7 K7
  replace bx1 := Xbb bx1 m7; replace bx2 := Xbb bx2 m7
  have hl : L.q.length + 1 = (L.q ++ [(c, t)]).length := by simp
  rw [hl] at bx0 RQ AP FR
  refine sv (.nilIface) ?_
  refine nt (h8 _ _ (wp_ret ?_)); clear h8 K8
  exact bodyPost_ret (v := .nilIface) (by simp [results, Tryz.results88, go_sem]) rfl ⟨_, _, _, _, _, _, rfl, ⟨bx0.out, RS.out, RQ.out, RT.out, AP, hlo, GL.out, hb4⟩, FR, HB.out⟩

end Go.Proofs.YtlalldlbgnlbjaaGreatDoor
