/- impl.CoreGot by its results (written by mkSlM.py) -/
import Derived.Test.YtjhaloeahidplaaDoorSlI
import Derived.Test.YtjhaloeahidplaaDoorMsgD
import Derived.Deep.RegionWith
import Derived.Deep.Heap
namespace Go.Proofs.YtjhaloeahidplaaDoor
open Go.RowKit
set_option linter.unusedVariables false
set_option linter.unusedSimpArgs false

/-- what a right message from the home makes of a right slot -/
def gotM (mk mw md : Int) (s : Sl4) : MR :=
  if mk = 4 then (if s.1 = 2 then (s, 0, 0, 4) else if s.1 = 1 then ((0, 0, s.2.2.1, s.2.2.2), 6, 0, 0) else (s, 6, 0, 0))
  else if mk = 5 then (if s.1 = 3 then (s, 7, s.2.1, 0) else if s.1 = 2 then (if mw = 1 then ((1, s.2.1, 0, 0), 7, s.2.1, 0) else ((0, 0, 0, 0), 7, s.2.1, 0)) else (s, 0, 0, 4))
  else if mk = 8 then (if s.2.2.1 = mw then (if mw = 1 then ((1, md, 0, 0), 0, 0, 0) else ((2, s.2.2.2, 0, 0), 0, 0, 0)) else (s, 0, 0, 4))
  else if s.1 = 3 then ((0, 0, 0, 0), 0, 0, 0) else (s, 0, 0, 4)

theorem inv_any (s : Sl4) (w : World) (h : okS s) : Calls Tryd.prog 145 #[stV s] w fun e w' => e = .returned (mvOf (gotM 4 0 0 s)) ∧ Below w.heap.size w w' := by
  obtain ⟨_, hs⟩ := cases_of h
  rcases hs with rfl | rfl | ⟨v, rfl⟩ | ⟨d, rfl⟩ | ⟨d, v, rfl⟩ | ⟨d, rfl⟩ | ⟨d, rfl⟩
  · exact inv_I _ _ _
  · exact inv_I _ _ _
  · exact inv_I _ _ _
  · exact inv_S _ _ _ _
  · exact inv_S _ _ _ _
  · exact inv_O _ _
  · exact inv_L _ _
theorem fet_any (s : Sl4) (mw : Int) (w : World) (h : okS s) : Calls Tryd.prog 146 #[stV s, .int .i64 mw] w fun e w' => e = .returned (mvOf (gotM 5 mw 0 s)) ∧ Below w.heap.size w w' := by
  obtain ⟨_, hs⟩ := cases_of h
  rcases hs with rfl | rfl | ⟨v, rfl⟩ | ⟨d, rfl⟩ | ⟨d, v, rfl⟩ | ⟨d, rfl⟩ | ⟨d, rfl⟩
  · exact fet_I _ _ _ _
  · exact fet_I _ _ _ _
  · exact fet_I _ _ _ _
  · exact fet_S _ _ _ _ _
  · exact fet_S _ _ _ _ _
  · by_cases hw : mw = 1
    · subst hw; exact fet_O1 _ _
    · rw [show gotM 5 mw 0 (2, d, 0, 0) = ((0, 0, 0, 0), 7, d, 0) by simp [gotM, hw]]
      exact fet_O2 _ _ (by simp [hw]) _
  · exact fet_L _ _ _
theorem put_any (s : Sl4) (w : World) (h : okS s) : Calls Tryd.prog 148 #[stV s] w fun e w' => e = .returned (mvOf (gotM 9 0 0 s)) ∧ Below w.heap.size w w' := by
  obtain ⟨_, hs⟩ := cases_of h
  rcases hs with rfl | rfl | ⟨v, rfl⟩ | ⟨d, rfl⟩ | ⟨d, v, rfl⟩ | ⟨d, rfl⟩ | ⟨d, rfl⟩
  · exact put_I _ _ _
  · exact put_I _ _ _
  · exact put_I _ _ _
  · exact put_S _ _ _ _
  · exact put_S _ _ _ _
  · exact put_O _ _
  · exact put_L _ _

set_option maxHeartbeats 1000000 in
theorem gr_In (wt v mk mf mt ml mw md : Int) (hn : (wt != mw) = true) (w : World) : Calls Tryd.prog 147 #[vI wt v, .agg (six mk mf mt ml mw md)] w fun e w' => e = .returned (mvV (vI wt v) 0 0 4) ∧ Below w.heap.size w w' := by
  have hm := meth_I0
  have hn' := nil_I0
  have HB0 := hide (((Below.refl w.heap.size w).alloc (Nat.le_refl _) (.cells (six mk mf mt ml mw md) 25)).alloc (by simp) (.cells #[.nilIface, .int .i64 0, .int .i64 0, .int .i64 0] 104))
  go_enter Tryd.func147, Tryd.ntmps147
  go_wp2_with fail
  refine (slot_I wt v _).mono ?_
  rintro e w1 ⟨rfl, hb1⟩
  obtain ⟨a1, c1, f1⟩ := two4 (w := w) hb1 (by simp)
  have HB1 := hide (HB0.out.trans (hb1.mono HB0.out.size))
  have hz : w.heap.size + 1 < w1.heap.size := by have := hb1.size; simp at this; omega
  have HB1x := hide (HB1.out.alloc HB1.out.size (.cells #[.int .i64 0, .int .i64 0, .int .i64 wt, .int .i64 v] 33))
  have hx : Below w1.heap.size w1 (w1.alloc (.cells #[.int .i64 0, .int .i64 0, .int .i64 wt, .int .i64 v] 33)) := (Below.refl _ _).alloc (Nat.le_refl _) _
  obtain ⟨a2, c2, f2⟩ := two4 (w := w) hx hz
  clear hb1 hx
  go_wp2_with fail
  refine (refused_any _ _ _).mono ?_
  rintro e w3 ⟨rfl, hb3⟩
  obtain ⟨a3, c3, f3⟩ := two4 (w := w) hb3 (by simp; omega)
  have HB3 := hide (HB1x.out.trans (hb3.mono HB1x.out.size))
  clear hb3
  go_wp2
  refine bodyPost_ret (v := mvV (vI wt v) 0 0 4) (by simp [results, Tryd.results147, go_sem, c3, c2, c1]) rfl ⟨rfl, ?_⟩
  exact below_put4 HB3.out (Nat.le_succ _) _ _ _ _

set_option maxHeartbeats 1000000 in
theorem gr_Ir (wt v mk mf mt ml md : Int) (he : wt = 1) (w : World) : Calls Tryd.prog 147 #[vI wt v, .agg (six mk mf mt ml 1 md)] w fun e w' => e = .returned (mvV (vS md 0 0) 0 0 0) ∧ Below w.heap.size w w' := by
  subst he
  have hm := meth_I0
  have hn' := nil_I0
  have HB0 := hide (((Below.refl w.heap.size w).alloc (Nat.le_refl _) (.cells (six mk mf mt ml 1 md) 25)).alloc (by simp) (.cells #[.nilIface, .int .i64 0, .int .i64 0, .int .i64 0] 104))
  go_enter Tryd.func147, Tryd.ntmps147
  go_wp2_with fail
  refine (slot_I 1 v _).mono ?_
  rintro e w1 ⟨rfl, hb1⟩
  obtain ⟨a1, c1, f1⟩ := two4 (w := w) hb1 (by simp)
  have HB1 := hide (HB0.out.trans (hb1.mono HB0.out.size))
  have hz : w.heap.size + 1 < w1.heap.size := by have := hb1.size; simp at this; omega
  have HB1x := hide (HB1.out.alloc HB1.out.size (.cells #[.int .i64 0, .int .i64 0, .int .i64 1, .int .i64 v] 33))
  have hx : Below w1.heap.size w1 (w1.alloc (.cells #[.int .i64 0, .int .i64 0, .int .i64 1, .int .i64 v] 33)) := (Below.refl _ _).alloc (Nat.le_refl _) _
  obtain ⟨a2, c2, f2⟩ := two4 (w := w) hx hz
  clear hb1 hx
  have hr : ∀ (v0 v1 v2 v3 : Value) (o : Obj) i, (((((w1.setCell ⟨w.heap.size + 1, 0, none⟩ v0).setCell ⟨w.heap.size + 1, 1, none⟩ v1).setCell ⟨w.heap.size + 1, 2, none⟩ v2).setCell ⟨w.heap.size + 1, 3, none⟩ v3).alloc o).cell? ⟨w.heap.size + 1, i, none⟩ = ((((w1.setCell ⟨w.heap.size + 1, 0, none⟩ v0).setCell ⟨w.heap.size + 1, 1, none⟩ v1).setCell ⟨w.heap.size + 1, 2, none⟩ v2).setCell ⟨w.heap.size + 1, 3, none⟩ v3).cell? ⟨w.heap.size + 1, i, none⟩ :=
    fun v0 v1 v2 v3 o i => ((Below.refl _ _).alloc (Nat.le_refl _) o).cell (p := ⟨w.heap.size + 1, i, none⟩) (by simpa [Go.Deep.nblk_setCell] using hz)
  go_wp2
  refine bodyPost_ret (v := mvV (vS md 0 0) 0 0 0) (by simp [results, Tryd.results147, go_sem, hr, c2, c1]) rfl ⟨rfl, ?_⟩
  exact (below_put4 HB1.out (Nat.le_succ _) _ _ _ _).alloc (by simp; omega) _

set_option maxHeartbeats 1000000 in
theorem gr_Iw (wt v mk mf mt ml md : Int) (he : wt = 2) (w : World) : Calls Tryd.prog 147 #[vI wt v, .agg (six mk mf mt ml 2 md)] w fun e w' => e = .returned (mvV (vO v) 0 0 0) ∧ Below w.heap.size w w' := by
  subst he
  have hm := meth_I0
  have hn' := nil_I0
  have HB0 := hide (((Below.refl w.heap.size w).alloc (Nat.le_refl _) (.cells (six mk mf mt ml 2 md) 25)).alloc (by simp) (.cells #[.nilIface, .int .i64 0, .int .i64 0, .int .i64 0] 104))
  go_enter Tryd.func147, Tryd.ntmps147
  go_wp2_with fail
  refine (slot_I 2 v _).mono ?_
  rintro e w1 ⟨rfl, hb1⟩
  obtain ⟨a1, c1, f1⟩ := two4 (w := w) hb1 (by simp)
  have HB1 := hide (HB0.out.trans (hb1.mono HB0.out.size))
  have hz : w.heap.size + 1 < w1.heap.size := by have := hb1.size; simp at this; omega
  have HB1x := hide (HB1.out.alloc HB1.out.size (.cells #[.int .i64 0, .int .i64 0, .int .i64 2, .int .i64 v] 33))
  have hx : Below w1.heap.size w1 (w1.alloc (.cells #[.int .i64 0, .int .i64 0, .int .i64 2, .int .i64 v] 33)) := (Below.refl _ _).alloc (Nat.le_refl _) _
  obtain ⟨a2, c2, f2⟩ := two4 (w := w) hx hz
  clear hb1 hx
  have hr : ∀ (v0 v1 v2 v3 : Value) (o : Obj) i, (((((w1.setCell ⟨w.heap.size + 1, 0, none⟩ v0).setCell ⟨w.heap.size + 1, 1, none⟩ v1).setCell ⟨w.heap.size + 1, 2, none⟩ v2).setCell ⟨w.heap.size + 1, 3, none⟩ v3).alloc o).cell? ⟨w.heap.size + 1, i, none⟩ = ((((w1.setCell ⟨w.heap.size + 1, 0, none⟩ v0).setCell ⟨w.heap.size + 1, 1, none⟩ v1).setCell ⟨w.heap.size + 1, 2, none⟩ v2).setCell ⟨w.heap.size + 1, 3, none⟩ v3).cell? ⟨w.heap.size + 1, i, none⟩ :=
    fun v0 v1 v2 v3 o i => ((Below.refl _ _).alloc (Nat.le_refl _) o).cell (p := ⟨w.heap.size + 1, i, none⟩) (by simpa [Go.Deep.nblk_setCell] using hz)
  go_wp2
  refine bodyPost_ret (v := mvV (vO v) 0 0 0) (by simp [results, Tryd.results147, go_sem, hr, c2, c1]) rfl ⟨rfl, ?_⟩
  exact (below_put4 HB1.out (Nat.le_succ _) _ _ _ _).alloc (by simp; omega) _

set_option maxHeartbeats 1000000 in
theorem gr_Sn (d wt v mk mf mt ml mw md : Int) (hn : (wt != mw) = true) (w : World) : Calls Tryd.prog 147 #[vS d wt v, .agg (six mk mf mt ml mw md)] w fun e w' => e = .returned (mvV (vS d wt v) 0 0 4) ∧ Below w.heap.size w w' := by
  have hm := meth_S0
  have hn' := nil_S0
  have HB0 := hide (((Below.refl w.heap.size w).alloc (Nat.le_refl _) (.cells (six mk mf mt ml mw md) 25)).alloc (by simp) (.cells #[.nilIface, .int .i64 0, .int .i64 0, .int .i64 0] 104))
  go_enter Tryd.func147, Tryd.ntmps147
  go_wp2_with fail
  refine (slot_S d wt v _).mono ?_
  rintro e w1 ⟨rfl, hb1⟩
  obtain ⟨a1, c1, f1⟩ := two4 (w := w) hb1 (by simp)
  have HB1 := hide (HB0.out.trans (hb1.mono HB0.out.size))
  have hz : w.heap.size + 1 < w1.heap.size := by have := hb1.size; simp at this; omega
  have HB1x := hide (HB1.out.alloc HB1.out.size (.cells #[.int .i64 1, .int .i64 d, .int .i64 wt, .int .i64 v] 33))
  have hx : Below w1.heap.size w1 (w1.alloc (.cells #[.int .i64 1, .int .i64 d, .int .i64 wt, .int .i64 v] 33)) := (Below.refl _ _).alloc (Nat.le_refl _) _
  obtain ⟨a2, c2, f2⟩ := two4 (w := w) hx hz
  clear hb1 hx
  go_wp2_with fail
  refine (refused_any _ _ _).mono ?_
  rintro e w3 ⟨rfl, hb3⟩
  obtain ⟨a3, c3, f3⟩ := two4 (w := w) hb3 (by simp; omega)
  have HB3 := hide (HB1x.out.trans (hb3.mono HB1x.out.size))
  clear hb3
  go_wp2
  refine bodyPost_ret (v := mvV (vS d wt v) 0 0 4) (by simp [results, Tryd.results147, go_sem, c3, c2, c1]) rfl ⟨rfl, ?_⟩
  exact below_put4 HB3.out (Nat.le_succ _) _ _ _ _

set_option maxHeartbeats 1000000 in
theorem gr_Sr (d wt v mk mf mt ml md : Int) (he : wt = 1) (w : World) : Calls Tryd.prog 147 #[vS d wt v, .agg (six mk mf mt ml 1 md)] w fun e w' => e = .returned (mvV (vS md 0 0) 0 0 0) ∧ Below w.heap.size w w' := by
  subst he
  have hm := meth_S0
  have hn' := nil_S0
  have HB0 := hide (((Below.refl w.heap.size w).alloc (Nat.le_refl _) (.cells (six mk mf mt ml 1 md) 25)).alloc (by simp) (.cells #[.nilIface, .int .i64 0, .int .i64 0, .int .i64 0] 104))
  go_enter Tryd.func147, Tryd.ntmps147
  go_wp2_with fail
  refine (slot_S d 1 v _).mono ?_
  rintro e w1 ⟨rfl, hb1⟩
  obtain ⟨a1, c1, f1⟩ := two4 (w := w) hb1 (by simp)
  have HB1 := hide (HB0.out.trans (hb1.mono HB0.out.size))
  have hz : w.heap.size + 1 < w1.heap.size := by have := hb1.size; simp at this; omega
  have HB1x := hide (HB1.out.alloc HB1.out.size (.cells #[.int .i64 1, .int .i64 d, .int .i64 1, .int .i64 v] 33))
  have hx : Below w1.heap.size w1 (w1.alloc (.cells #[.int .i64 1, .int .i64 d, .int .i64 1, .int .i64 v] 33)) := (Below.refl _ _).alloc (Nat.le_refl _) _
  obtain ⟨a2, c2, f2⟩ := two4 (w := w) hx hz
  clear hb1 hx
  have hr : ∀ (v0 v1 v2 v3 : Value) (o : Obj) i, (((((w1.setCell ⟨w.heap.size + 1, 0, none⟩ v0).setCell ⟨w.heap.size + 1, 1, none⟩ v1).setCell ⟨w.heap.size + 1, 2, none⟩ v2).setCell ⟨w.heap.size + 1, 3, none⟩ v3).alloc o).cell? ⟨w.heap.size + 1, i, none⟩ = ((((w1.setCell ⟨w.heap.size + 1, 0, none⟩ v0).setCell ⟨w.heap.size + 1, 1, none⟩ v1).setCell ⟨w.heap.size + 1, 2, none⟩ v2).setCell ⟨w.heap.size + 1, 3, none⟩ v3).cell? ⟨w.heap.size + 1, i, none⟩ :=
    fun v0 v1 v2 v3 o i => ((Below.refl _ _).alloc (Nat.le_refl _) o).cell (p := ⟨w.heap.size + 1, i, none⟩) (by simpa [Go.Deep.nblk_setCell] using hz)
  go_wp2
  refine bodyPost_ret (v := mvV (vS md 0 0) 0 0 0) (by simp [results, Tryd.results147, go_sem, hr, c2, c1]) rfl ⟨rfl, ?_⟩
  exact (below_put4 HB1.out (Nat.le_succ _) _ _ _ _).alloc (by simp; omega) _

set_option maxHeartbeats 1000000 in
theorem gr_Sw (d wt v mk mf mt ml md : Int) (he : wt = 2) (w : World) : Calls Tryd.prog 147 #[vS d wt v, .agg (six mk mf mt ml 2 md)] w fun e w' => e = .returned (mvV (vO v) 0 0 0) ∧ Below w.heap.size w w' := by
  subst he
  have hm := meth_S0
  have hn' := nil_S0
  have HB0 := hide (((Below.refl w.heap.size w).alloc (Nat.le_refl _) (.cells (six mk mf mt ml 2 md) 25)).alloc (by simp) (.cells #[.nilIface, .int .i64 0, .int .i64 0, .int .i64 0] 104))
  go_enter Tryd.func147, Tryd.ntmps147
  go_wp2_with fail
  refine (slot_S d 2 v _).mono ?_
  rintro e w1 ⟨rfl, hb1⟩
  obtain ⟨a1, c1, f1⟩ := two4 (w := w) hb1 (by simp)
  have HB1 := hide (HB0.out.trans (hb1.mono HB0.out.size))
  have hz : w.heap.size + 1 < w1.heap.size := by have := hb1.size; simp at this; omega
  have HB1x := hide (HB1.out.alloc HB1.out.size (.cells #[.int .i64 1, .int .i64 d, .int .i64 2, .int .i64 v] 33))
  have hx : Below w1.heap.size w1 (w1.alloc (.cells #[.int .i64 1, .int .i64 d, .int .i64 2, .int .i64 v] 33)) := (Below.refl _ _).alloc (Nat.le_refl _) _
  obtain ⟨a2, c2, f2⟩ := two4 (w := w) hx hz
  clear hb1 hx
  have hr : ∀ (v0 v1 v2 v3 : Value) (o : Obj) i, (((((w1.setCell ⟨w.heap.size + 1, 0, none⟩ v0).setCell ⟨w.heap.size + 1, 1, none⟩ v1).setCell ⟨w.heap.size + 1, 2, none⟩ v2).setCell ⟨w.heap.size + 1, 3, none⟩ v3).alloc o).cell? ⟨w.heap.size + 1, i, none⟩ = ((((w1.setCell ⟨w.heap.size + 1, 0, none⟩ v0).setCell ⟨w.heap.size + 1, 1, none⟩ v1).setCell ⟨w.heap.size + 1, 2, none⟩ v2).setCell ⟨w.heap.size + 1, 3, none⟩ v3).cell? ⟨w.heap.size + 1, i, none⟩ :=
    fun v0 v1 v2 v3 o i => ((Below.refl _ _).alloc (Nat.le_refl _) o).cell (p := ⟨w.heap.size + 1, i, none⟩) (by simpa [Go.Deep.nblk_setCell] using hz)
  go_wp2
  refine bodyPost_ret (v := mvV (vO v) 0 0 0) (by simp [results, Tryd.results147, go_sem, hr, c2, c1]) rfl ⟨rfl, ?_⟩
  exact (below_put4 HB1.out (Nat.le_succ _) _ _ _ _).alloc (by simp; omega) _

set_option maxHeartbeats 1000000 in
theorem gr_On (d mk mf mt ml mw md : Int) (hn : (0 != mw) = true) (w : World) : Calls Tryd.prog 147 #[vO d, .agg (six mk mf mt ml mw md)] w fun e w' => e = .returned (mvV (vO d) 0 0 4) ∧ Below w.heap.size w w' := by
  have hm := meth_O0
  have hn' := nil_O0
  have HB0 := hide (((Below.refl w.heap.size w).alloc (Nat.le_refl _) (.cells (six mk mf mt ml mw md) 25)).alloc (by simp) (.cells #[.nilIface, .int .i64 0, .int .i64 0, .int .i64 0] 104))
  go_enter Tryd.func147, Tryd.ntmps147
  go_wp2_with fail
  refine (slot_O d _).mono ?_
  rintro e w1 ⟨rfl, hb1⟩
  obtain ⟨a1, c1, f1⟩ := two4 (w := w) hb1 (by simp)
  have HB1 := hide (HB0.out.trans (hb1.mono HB0.out.size))
  have hz : w.heap.size + 1 < w1.heap.size := by have := hb1.size; simp at this; omega
  have HB1x := hide (HB1.out.alloc HB1.out.size (.cells #[.int .i64 2, .int .i64 d, .int .i64 0, .int .i64 0] 33))
  have hx : Below w1.heap.size w1 (w1.alloc (.cells #[.int .i64 2, .int .i64 d, .int .i64 0, .int .i64 0] 33)) := (Below.refl _ _).alloc (Nat.le_refl _) _
  obtain ⟨a2, c2, f2⟩ := two4 (w := w) hx hz
  clear hb1 hx
  go_wp2_with fail
  refine (refused_any _ _ _).mono ?_
  rintro e w3 ⟨rfl, hb3⟩
  obtain ⟨a3, c3, f3⟩ := two4 (w := w) hb3 (by simp; omega)
  have HB3 := hide (HB1x.out.trans (hb3.mono HB1x.out.size))
  clear hb3
  go_wp2
  refine bodyPost_ret (v := mvV (vO d) 0 0 4) (by simp [results, Tryd.results147, go_sem, c3, c2, c1]) rfl ⟨rfl, ?_⟩
  exact below_put4 HB3.out (Nat.le_succ _) _ _ _ _

set_option maxHeartbeats 1000000 in
theorem gr_Ln (d mk mf mt ml mw md : Int) (hn : (0 != mw) = true) (w : World) : Calls Tryd.prog 147 #[vL d, .agg (six mk mf mt ml mw md)] w fun e w' => e = .returned (mvV (vL d) 0 0 4) ∧ Below w.heap.size w w' := by
  have hm := meth_L0
  have hn' := nil_L0
  have HB0 := hide (((Below.refl w.heap.size w).alloc (Nat.le_refl _) (.cells (six mk mf mt ml mw md) 25)).alloc (by simp) (.cells #[.nilIface, .int .i64 0, .int .i64 0, .int .i64 0] 104))
  go_enter Tryd.func147, Tryd.ntmps147
  go_wp2_with fail
  refine (slot_L d _).mono ?_
  rintro e w1 ⟨rfl, hb1⟩
  obtain ⟨a1, c1, f1⟩ := two4 (w := w) hb1 (by simp)
  have HB1 := hide (HB0.out.trans (hb1.mono HB0.out.size))
  have hz : w.heap.size + 1 < w1.heap.size := by have := hb1.size; simp at this; omega
  have HB1x := hide (HB1.out.alloc HB1.out.size (.cells #[.int .i64 3, .int .i64 d, .int .i64 0, .int .i64 0] 33))
  have hx : Below w1.heap.size w1 (w1.alloc (.cells #[.int .i64 3, .int .i64 d, .int .i64 0, .int .i64 0] 33)) := (Below.refl _ _).alloc (Nat.le_refl _) _
  obtain ⟨a2, c2, f2⟩ := two4 (w := w) hx hz
  clear hb1 hx
  go_wp2_with fail
  refine (refused_any _ _ _).mono ?_
  rintro e w3 ⟨rfl, hb3⟩
  obtain ⟨a3, c3, f3⟩ := two4 (w := w) hb3 (by simp; omega)
  have HB3 := hide (HB1x.out.trans (hb3.mono HB1x.out.size))
  clear hb3
  go_wp2
  refine bodyPost_ret (v := mvV (vL d) 0 0 4) (by simp [results, Tryd.results147, go_sem, c3, c2, c1]) rfl ⟨rfl, ?_⟩
  exact below_put4 HB3.out (Nat.le_succ _) _ _ _ _

theorem gr_any (s : Sl4) (mf mt ml mw md : Int) (w : World) (h : okS s) (hw : mw = 1 ∨ mw = 2) : Calls Tryd.prog 147 #[stV s, .agg (six 8 mf mt ml mw md)] w fun e w' => e = .returned (mvOf (gotM 8 mw md s)) ∧ Below w.heap.size w w' := by
  obtain ⟨_, hs⟩ := cases_of h
  rcases hw with rfl | rfl <;> rcases hs with rfl | rfl | ⟨v, rfl⟩ | ⟨d, rfl⟩ | ⟨d, v, rfl⟩ | ⟨d, rfl⟩ | ⟨d, rfl⟩
  · exact gr_In _ _ _ _ _ _ _ _ rfl _
  · exact gr_Ir _ _ _ _ _ _ _ rfl _
  · exact gr_In _ _ _ _ _ _ _ _ rfl _
  · exact gr_Sn _ _ _ _ _ _ _ _ _ rfl _
  · exact gr_Sn _ _ _ _ _ _ _ _ _ rfl _
  · exact gr_On _ _ _ _ _ _ _ rfl _
  · exact gr_Ln _ _ _ _ _ _ _ rfl _
  · exact gr_In _ _ _ _ _ _ _ _ rfl _
  · exact gr_In _ _ _ _ _ _ _ _ rfl _
  · exact gr_Iw _ _ _ _ _ _ _ rfl _
  · exact gr_Sn _ _ _ _ _ _ _ _ _ rfl _
  · exact gr_Sw _ _ _ _ _ _ _ _ rfl _
  · exact gr_On _ _ _ _ _ _ _ rfl _
  · exact gr_Ln _ _ _ _ _ _ _ rfl _

end Go.Proofs.YtjhaloeahidplaaDoor
