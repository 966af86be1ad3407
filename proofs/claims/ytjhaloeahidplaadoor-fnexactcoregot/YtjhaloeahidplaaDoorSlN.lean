/- impl.coreGot, the literal that calls it, moved with it (written by mkSlM.py) -/
import Derived.Test.YtjhaloeahidplaaDoorSlM
namespace Go.Proofs.YtjhaloeahidplaaDoor
open Go.RowKit
set_option linter.unusedVariables false
set_option linter.unusedSimpArgs false

/-- a right message from the home -/
def rtM (mk mf mt ml mw md : Int) : Bool := okB mk mf mt ml mw md && eqB mf 0
theorem rtM_cases {mk mf mt ml mw md : Int} (h : rtM mk mf mt ml mw md = true) : mf = 0 ∧ (1 ≤ mt ∧ mt ≤ 5) ∧ (0 ≤ ml ∧ ml ≤ 3) ∧ (0 ≤ md ∧ md ≤ 1000000) ∧
    ((mk = 4 ∧ mw = 0 ∧ md = 0) ∨ (mk = 5 ∧ (mw = 1 ∨ mw = 2) ∧ md = 0) ∨ (mk = 8 ∧ (mw = 1 ∨ mw = 2)) ∨ (mk = 9 ∧ mw = 0 ∧ md = 0)) := by
  simp only [rtM, Bool.and_eq_true, okB, eqB, beq_iff_eq] at h
  obtain ⟨⟨⟨⟨⟨h1, h2⟩, h3⟩, h4⟩, h5⟩, rfl⟩ := h
  rw [inB_iff] at h1 h2
  rcases kinds h1.1 h1.2 with rfl | rfl | rfl | rfl | rfl | rfl | rfl | rfl | rfl <;> simp [endsB, homeB, wantOkB, wantB, dataOkB, dataB, eqB, inB] at h3 h4 h5 ⊢ <;> omega

theorem got_ok {s : Sl4} {mk mf mt ml mw md : Int} (h : okS s) (hq : rtM mk mf mt ml mw md = true) : okS (gotM mk mw md s).1 := by
  obtain ⟨_, _, _, hd, hk⟩ := rtM_cases hq
  obtain ⟨h0, hs⟩ := cases_of h
  rcases hk with ⟨rfl, rfl, rfl⟩ | ⟨rfl, rfl | rfl, rfl⟩ | ⟨rfl, rfl | rfl⟩ | ⟨rfl, rfl, rfl⟩ <;> rcases hs with rfl | rfl | ⟨v, rfl⟩ | ⟨d, rfl⟩ | ⟨d, v, rfl⟩ | ⟨d, rfl⟩ | ⟨d, rfl⟩ <;> first | exact h | exact ok0 | exact slB_of (by simp at h0; simp [gotM]; omega) (by simp [gotM])

set_option maxHeartbeats 1000000 in
theorem coreGot_4 (s : Sl4) (mf mt ml mw md : Int) (w : World) (h : okS s) : Calls Tryd.prog 101 #[stV s, .agg (six 4 mf mt ml mw md)] w fun e w' => e = .returned (mvOf (gotM 4 mw md s)) ∧ Below w.heap.size w w' := by
  obtain ⟨t, y, hs⟩ := stV_form s
  have H : Hid (okS s) := hide h
  have hct := fun w => inv_any s w H.out
  have he : gotM 4 mw md s = gotM 4 0 0 s := by simp [gotM]
  rw [he]
  obtain ⟨t', y', hr⟩ := mvOf_form (gotM 4 0 0 s)
  simp only [hr, hs] at hct ⊢
  generalize (gotM 4 0 0 s).2.1 = k at hct ⊢
  generalize (gotM 4 0 0 s).2.2.1 = dd at hct ⊢
  generalize (gotM 4 0 0 s).2.2.2 = c at hct ⊢
  clear hr he hs h
  have HB0 := hide (((Below.refl w.heap.size w).alloc (Nat.le_refl _) (.cells (six 4 mf mt ml mw md) 25)).alloc (by simp) (.cells #[.nilIface, .int .i64 0, .int .i64 0, .int .i64 0] 104))
  go_enter Tryd.func101, Tryd.ntmps101
  go_wp2_with fail
  refine (hct _).mono ?_
  rintro e w1 ⟨rfl, hb1⟩
  obtain ⟨a1, c1, f1⟩ := two4 (w := w) hb1 (by simp)
  have HB1 := hide (HB0.out.trans (hb1.mono HB0.out.size))
  clear hb1 hct
  go_wp2
  refine bodyPost_ret (v := .agg #[.iface t' y', .int .i64 k, .int .i64 dd, .int .i64 c]) (by simp [results, Tryd.results101, go_sem, c1]) rfl ⟨rfl, ?_⟩
  exact below_put4 HB1.out (Nat.le_succ _) _ _ _ _

set_option maxHeartbeats 1000000 in
theorem coreGot_5 (s : Sl4) (mf mt ml mw md : Int) (w : World) (h : okS s) : Calls Tryd.prog 101 #[stV s, .agg (six 5 mf mt ml mw md)] w fun e w' => e = .returned (mvOf (gotM 5 mw md s)) ∧ Below w.heap.size w w' := by
  obtain ⟨t, y, hs⟩ := stV_form s
  have H : Hid (okS s) := hide h
  have hct := fun w => fet_any s mw w H.out
  have he : gotM 5 mw md s = gotM 5 mw 0 s := by simp [gotM]
  rw [he]
  obtain ⟨t', y', hr⟩ := mvOf_form (gotM 5 mw 0 s)
  simp only [hr, hs] at hct ⊢
  generalize (gotM 5 mw 0 s).2.1 = k at hct ⊢
  generalize (gotM 5 mw 0 s).2.2.1 = dd at hct ⊢
  generalize (gotM 5 mw 0 s).2.2.2 = c at hct ⊢
  clear hr he hs h
  have HB0 := hide (((Below.refl w.heap.size w).alloc (Nat.le_refl _) (.cells (six 5 mf mt ml mw md) 25)).alloc (by simp) (.cells #[.nilIface, .int .i64 0, .int .i64 0, .int .i64 0] 104))
  go_enter Tryd.func101, Tryd.ntmps101
  go_wp2_with fail
  refine (hct _).mono ?_
  rintro e w1 ⟨rfl, hb1⟩
  obtain ⟨a1, c1, f1⟩ := two4 (w := w) hb1 (by simp)
  have HB1 := hide (HB0.out.trans (hb1.mono HB0.out.size))
  clear hb1 hct
  go_wp2
  refine bodyPost_ret (v := .agg #[.iface t' y', .int .i64 k, .int .i64 dd, .int .i64 c]) (by simp [results, Tryd.results101, go_sem, c1]) rfl ⟨rfl, ?_⟩
  exact below_put4 HB1.out (Nat.le_succ _) _ _ _ _

set_option maxHeartbeats 1000000 in
theorem coreGot_8 (s : Sl4) (mf mt ml mw md : Int) (w : World) (h : okS s) (hw : mw = 1 ∨ mw = 2) : Calls Tryd.prog 101 #[stV s, .agg (six 8 mf mt ml mw md)] w fun e w' => e = .returned (mvOf (gotM 8 mw md s)) ∧ Below w.heap.size w w' := by
  obtain ⟨t, y, hs⟩ := stV_form s
  have H : Hid (okS s) := hide h
  have hct := fun w => gr_any s mf mt ml mw md w H.out hw
  have he : gotM 8 mw md s = gotM 8 mw md s := by simp [gotM]
  rw [he]
  obtain ⟨t', y', hr⟩ := mvOf_form (gotM 8 mw md s)
  simp only [hr, hs] at hct ⊢
  generalize (gotM 8 mw md s).2.1 = k at hct ⊢
  generalize (gotM 8 mw md s).2.2.1 = dd at hct ⊢
  generalize (gotM 8 mw md s).2.2.2 = c at hct ⊢
  clear hr he hs h hw
  have HB0 := hide (((Below.refl w.heap.size w).alloc (Nat.le_refl _) (.cells (six 8 mf mt ml mw md) 25)).alloc (by simp) (.cells #[.nilIface, .int .i64 0, .int .i64 0, .int .i64 0] 104))
  go_enter Tryd.func101, Tryd.ntmps101
  go_wp2_with fail
  refine (hct _).mono ?_
  rintro e w1 ⟨rfl, hb1⟩
  obtain ⟨a1, c1, f1⟩ := two4 (w := w) hb1 (by simp)
  have HB1 := hide (HB0.out.trans (hb1.mono HB0.out.size))
  clear hb1 hct
  go_wp2
  refine bodyPost_ret (v := .agg #[.iface t' y', .int .i64 k, .int .i64 dd, .int .i64 c]) (by simp [results, Tryd.results101, go_sem, c1]) rfl ⟨rfl, ?_⟩
  exact below_put4 HB1.out (Nat.le_succ _) _ _ _ _

set_option maxHeartbeats 1000000 in
theorem coreGot_9 (s : Sl4) (mf mt ml mw md : Int) (w : World) (h : okS s) : Calls Tryd.prog 101 #[stV s, .agg (six 9 mf mt ml mw md)] w fun e w' => e = .returned (mvOf (gotM 9 mw md s)) ∧ Below w.heap.size w w' := by
  obtain ⟨t, y, hs⟩ := stV_form s
  have H : Hid (okS s) := hide h
  have hct := fun w => put_any s w H.out
  have he : gotM 9 mw md s = gotM 9 0 0 s := by simp [gotM]
  rw [he]
  obtain ⟨t', y', hr⟩ := mvOf_form (gotM 9 0 0 s)
  simp only [hr, hs] at hct ⊢
  generalize (gotM 9 0 0 s).2.1 = k at hct ⊢
  generalize (gotM 9 0 0 s).2.2.1 = dd at hct ⊢
  generalize (gotM 9 0 0 s).2.2.2 = c at hct ⊢
  clear hr he hs h
  have HB0 := hide (((Below.refl w.heap.size w).alloc (Nat.le_refl _) (.cells (six 9 mf mt ml mw md) 25)).alloc (by simp) (.cells #[.nilIface, .int .i64 0, .int .i64 0, .int .i64 0] 104))
  go_enter Tryd.func101, Tryd.ntmps101
  go_wp2_with fail
  refine (hct _).mono ?_
  rintro e w1 ⟨rfl, hb1⟩
  obtain ⟨a1, c1, f1⟩ := two4 (w := w) hb1 (by simp)
  have HB1 := hide (HB0.out.trans (hb1.mono HB0.out.size))
  clear hb1 hct
  go_wp2
  refine bodyPost_ret (v := .agg #[.iface t' y', .int .i64 k, .int .i64 dd, .int .i64 c]) (by simp [results, Tryd.results101, go_sem, c1]) rfl ⟨rfl, ?_⟩
  exact below_put4 HB1.out (Nat.le_succ _) _ _ _ _

theorem coreGot_any (s : Sl4) (mk mf mt ml mw md : Int) (w : World) (h : okS s) (hq : rtM mk mf mt ml mw md = true) : Calls Tryd.prog 101 #[stV s, .agg (six mk mf mt ml mw md)] w fun e w' => e = .returned (mvOf (gotM mk mw md s)) ∧ Below w.heap.size w w' := by
  obtain ⟨_, _, _, hd, hk⟩ := rtM_cases hq
  rcases hk with ⟨rfl, _, _⟩ | ⟨rfl, _, _⟩ | ⟨rfl, hw⟩ | ⟨rfl, _, _⟩
  · exact coreGot_4 s mf mt ml mw md w h
  · exact coreGot_5 s mf mt ml mw md w h
  · exact coreGot_8 s mf mt ml mw md w h hw
  · exact coreGot_9 s mf mt ml mw md w h

/-- six cells of a box -/
def Box6 (w : World) (B : Nat) (a b c d e f : Int) : Prop := w.cell? ⟨B, 0, none⟩ = some (.int .i64 a) ∧ w.cell? ⟨B, 1, none⟩ = some (.int .i64 b) ∧ w.cell? ⟨B, 2, none⟩ = some (.int .i64 c) ∧ w.cell? ⟨B, 3, none⟩ = some (.int .i64 d) ∧ w.cell? ⟨B, 4, none⟩ = some (.int .i64 e) ∧ w.cell? ⟨B, 5, none⟩ = some (.int .i64 f)
theorem Box6.next {w w' : World} {B : Nat} {a b c d e f : Int} (h : Box6 w B a b c d e f) (hb : Below w.heap.size w w') : Box6 w' B a b c d e f :=
  ⟨keepc hb h.1, keepc hb h.2.1, keepc hb h.2.2.1, keepc hb h.2.2.2.1, keepc hb h.2.2.2.2.1, keepc hb h.2.2.2.2.2⟩

set_option maxHeartbeats 1000000 in
theorem get_lit (s : Sl4) (mk mf mt ml mw md : Int) (B : Nat) (w : World) (h : okS s) (hq : rtM mk mf mt ml mw md = true) (hx : Box6 w B mk mf mt ml mw md) : Calls Tryd.prog 100 #[stV s, .pointer (some ⟨B, 0, none⟩)] w fun e w' => e = .returned (mvOf (gotM mk mw md s)) ∧ Below w.heap.size w w' := by
  obtain ⟨t, y, hs⟩ := stV_form s
  obtain ⟨t', y', hr⟩ := mvOf_form (gotM mk mw md s)
  have hc := fun w => coreGot_any s mk mf mt ml mw md w h hq
  clear h hq
  have h0 : B < w.heap.size := World.block_lt_of_cell? w _ hx.1
  have hx' := hx.next (((Below.refl w.heap.size w).alloc (Nat.le_refl _) (.cells #[.nilIface, .int .i64 0, .int .i64 0, .int .i64 0] 104)))
  obtain ⟨x0, x1, x2, x3, x4, x5⟩ := id hx
  obtain ⟨y0, y1, y2, y3, y4, y5⟩ := id hx'
  clear hx hx'
  rw [hs]
  simp only [hs, hr] at hc ⊢
  generalize (gotM mk mw md s).2.1 = k at hc ⊢
  generalize (gotM mk mw md s).2.2.1 = dd at hc ⊢
  generalize (gotM mk mw md s).2.2.2 = c at hc ⊢
  clear hs hr
  go_enter Tryd.func100, Tryd.ntmps100
  go_wp2_with fail
  refine (hc _).mono ?_
  rintro e w1 ⟨rfl, hb1⟩
  have hc1 := fun i => hb1.cell (p := ⟨w.heap.size, i, none⟩) (by simp <;> omega)
  have hf1 := fun i => hb1.frozen (p := ⟨w.heap.size, i, none⟩) (by simp <;> omega)
  have HB1 := hide hb1
  clear hb1 hc x0 x1 x2 x3 x4 x5 y0 y1 y2 y3 y4 y5
  go_wp2
  refine bodyPost_ret (v := .agg #[.iface t' y', .int .i64 k, .int .i64 dd, .int .i64 c]) (by simp [results, Tryd.results100, go_sem, hc1]) rfl ⟨rfl, ?_⟩
  exact below_put4 (((Below.refl _ _).alloc (Nat.le_refl _) _).trans (HB1.out.mono (by simp))) (Nat.le_refl _) _ _ _ _

set_option maxHeartbeats 1000000 in
theorem moved_get_no (s : Sl4) (fm : Bool) (B : Nat) (mk mf mt ml mw md : Int) (w : World) (h : slB s.1 s.2.1 s.2.2.1 s.2.2.2 = false) : Calls Tryd.prog 87 #[slOf s, .bool fm, .func (.func 100) #[] #[.pointer (some ⟨B, 0, none⟩)]] w fun e w' => e = .returned (mvOf ((0, 0, 0, 0), 0, 0, 1)) ∧ Below w.heap.size w w' := by
  have HB0 := hide (((Below.refl w.heap.size w).alloc (Nat.le_refl _) (.cells #[.int .i64 s.1, .int .i64 s.2.1, .int .i64 s.2.2.1, .int .i64 s.2.2.2] 33)).alloc (by simp) (.cells #[.nilIface, .int .i64 0, .int .i64 0, .int .i64 0] 104))
  go_enter Tryd.func87, Tryd.ntmps87
  go_wp2_with fail
  refine (implSlotOk_any _ _ _ _ _).mono ?_
  rintro e w1 ⟨rfl, hb1⟩
  obtain ⟨a1, c1, f1⟩ := two4 (w := w) hb1 (by simp)
  have HB1 := hide (HB0.out.trans (hb1.mono HB0.out.size))
  clear hb1
  rw [h]
  go_wp2
  refine bodyPost_ret (v := mvOf ((0, 0, 0, 0), 0, 0, 1)) (by simp [results, Tryd.results87, go_sem, mvOf, stV, c1]) rfl ⟨rfl, ?_⟩
  exact below_put4 HB1.out (Nat.le_succ _) _ _ _ _

set_option maxHeartbeats 1000000 in
theorem moved_get_fm (s : Sl4) (B : Nat) (mk mf mt ml mw md : Int) (w : World) (h : slB s.1 s.2.1 s.2.2.1 s.2.2.2 = true) : Calls Tryd.prog 87 #[slOf s, .bool false, .func (.func 100) #[] #[.pointer (some ⟨B, 0, none⟩)]] w fun e w' => e = .returned (mvOf (s, 0, 0, 2)) ∧ Below w.heap.size w w' := by
  obtain ⟨t, y, hs⟩ := stV_form s
  rw [show mvOf (s, 0, 0, 2) = .agg #[.iface t y, .int .i64 0, .int .i64 0, .int .i64 2] by rw [mvOf, hs]]
  have H : Hid (okS s) := hide h
  have HB0 := hide (((Below.refl w.heap.size w).alloc (Nat.le_refl _) (.cells #[.int .i64 s.1, .int .i64 s.2.1, .int .i64 s.2.2.1, .int .i64 s.2.2.2] 33)).alloc (by simp) (.cells #[.nilIface, .int .i64 0, .int .i64 0, .int .i64 0] 104))
  go_enter Tryd.func87, Tryd.ntmps87
  go_wp2_with fail
  refine (implSlotOk_any _ _ _ _ _).mono ?_
  rintro e w1 ⟨rfl, hb1⟩
  obtain ⟨a1, c1, f1⟩ := two4 (w := w) hb1 (by simp)
  have HB1 := hide (HB0.out.trans (hb1.mono HB0.out.size))
  have hz : w.heap.size + 1 < w1.heap.size := by have := hb1.size; simp at this; omega
  clear hb1
  rw [h]
  go_wp2_with fail
  refine (stateOf_any s _ H.out).mono ?_
  rintro e w2 ⟨rfl, hb2⟩
  obtain ⟨a2, c2, f2⟩ := two4 (w := w) hb2 hz
  have HB2 := hide (HB1.out.trans (hb2.mono HB1.out.size))
  clear hb2 h
  rw [hs]
  clear hs
  go_wp2
  refine bodyPost_ret (v := .agg #[.iface t y, .int .i64 0, .int .i64 0, .int .i64 2]) (by simp [results, Tryd.results87, go_sem, c1, c2]) rfl ⟨rfl, ?_⟩
  exact below_put4 HB2.out (Nat.le_succ _) _ _ _ _

set_option maxHeartbeats 1000000 in
theorem moved_get_do (s : Sl4) (B : Nat) (mk mf mt ml mw md : Int) (w : World) (hx : Box6 w B mk mf mt ml mw md) (hq : rtM mk mf mt ml mw md = true) (h : slB s.1 s.2.1 s.2.2.1 s.2.2.2 = true) : Calls Tryd.prog 87 #[slOf s, .bool true, .func (.func 100) #[] #[.pointer (some ⟨B, 0, none⟩)]] w fun e w' => e = .returned (mvOf (gotM mk mw md s)) ∧ Below w.heap.size w w' := by
  obtain ⟨t', y', hr⟩ := mvOf_form (gotM mk mw md s)
  have H : Hid (okS s) := hide h
  have hct := fun w => get_lit s mk mf mt ml mw md B w H.out hq
  simp only [hr] at hct ⊢
  generalize (gotM mk mw md s).2.1 = k at hct ⊢
  generalize (gotM mk mw md s).2.2.1 = dd at hct ⊢
  generalize (gotM mk mw md s).2.2.2 = c at hct ⊢
  clear hr
  have HB0 := hide (((Below.refl w.heap.size w).alloc (Nat.le_refl _) (.cells #[.int .i64 s.1, .int .i64 s.2.1, .int .i64 s.2.2.1, .int .i64 s.2.2.2] 33)).alloc (by simp) (.cells #[.nilIface, .int .i64 0, .int .i64 0, .int .i64 0] 104))
  go_enter Tryd.func87, Tryd.ntmps87
  go_wp2_with fail
  refine (implSlotOk_any _ _ _ _ _).mono ?_
  rintro e w1 ⟨rfl, hb1⟩
  obtain ⟨a1, c1, f1⟩ := two4 (w := w) hb1 (by simp)
  have HB1 := hide (HB0.out.trans (hb1.mono HB0.out.size))
  have hz : w.heap.size + 1 < w1.heap.size := by have := hb1.size; simp at this; omega
  clear hb1
  rw [h]
  go_wp2_with fail
  refine (stateOf_any s _ H.out).mono ?_
  rintro e w2 ⟨rfl, hb2⟩
  obtain ⟨a2, c2, f2⟩ := two4 (w := w) hb2 hz
  have HB2 := hide (HB1.out.trans (hb2.mono HB1.out.size))
  have hz2 : w.heap.size + 1 < w2.heap.size := by have := hb2.size; omega
  clear hb2 h
  go_wp2_with fail
  refine (hct _ (hx.next HB2.out)).mono ?_
  rintro e w3 ⟨rfl, hb3⟩
  obtain ⟨a3, c3, f3⟩ := two4 (w := w) hb3 hz2
  have HB3 := hide (HB2.out.trans (hb3.mono HB2.out.size))
  clear hb3
  clear hct
  go_wp2
  refine bodyPost_ret (v := .agg #[.iface t' y', .int .i64 k, .int .i64 dd, .int .i64 c]) (by simp [results, Tryd.results87, go_sem, c1, c2, c3]) rfl ⟨rfl, ?_⟩
  exact below_put4 HB3.out (Nat.le_succ _) _ _ _ _


theorem moved_get (s : Sl4) (fm : Bool) (B : Nat) (mk mf mt ml mw md : Int) (w : World) (hx : Box6 w B mk mf mt ml mw md) (hq : fm = true → rtM mk mf mt ml mw md = true) : Calls Tryd.prog 87 #[slOf s, .bool fm, .func (.func 100) #[] #[.pointer (some ⟨B, 0, none⟩)]] w fun e w' => e = .returned (mvOf (mvd s fm (gotM mk mw md s))) ∧ Below w.heap.size w w' := by
  cases h : slB s.1 s.2.1 s.2.2.1 s.2.2.2 with
  | false => rw [mvd_no h]; exact moved_get_no s fm B mk mf mt ml mw md w h
  | true =>
    cases fm with
    | false => rw [mvd_fm h]; exact moved_get_fm s B mk mf mt ml mw md w h
    | true => rw [mvd_do h]; exact moved_get_do s B mk mf mt ml mw md w hx (hq rfl) h

end Go.Proofs.YtjhaloeahidplaaDoor
