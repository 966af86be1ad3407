/- moved with each act; impl.Asked, Left, Stored (written by mkSlH.py) -/
import Derived.Test.YtjhaloeahidplaaDoorSlG
namespace Go.Proofs.YtjhaloeahidplaaDoor
open Go.RowKit
set_option linter.unusedVariables false

theorem mvd_no {s : Sl4} {fm : Bool} {m : MR} (h : slB s.1 s.2.1 s.2.2.1 s.2.2.2 = false) : mvd s fm m = ((0, 0, 0, 0), 0, 0, 1) := by unfold mvd; rw [if_pos h]
theorem mvd_fm {s : Sl4} {m : MR} (h : slB s.1 s.2.1 s.2.2.1 s.2.2.2 = true) : mvd s false m = (s, 0, 0, 2) := by unfold mvd; rw [if_neg (by simp [h]), if_pos rfl]
theorem mvd_do {s : Sl4} {m : MR} (h : slB s.1 s.2.1 s.2.2.1 s.2.2.2 = true) : mvd s true m = m := by unfold mvd; rw [if_neg (by simp [h]), if_neg (by simp)]
theorem ret_eq {a b : Value} (h : a = b) : Ending.returned a = .returned b := by rw [h]

/-- four cells of a result, and four of a box: kept -/
theorem two4 {w : World} {W w1 : World} (hb : Below W.heap.size W w1) (h : w.heap.size + 1 < W.heap.size) :
    (∀ i, w1.cell? ⟨w.heap.size, i, none⟩ = W.cell? ⟨w.heap.size, i, none⟩) ∧ (∀ i, w1.cell? ⟨w.heap.size + 1, i, none⟩ = W.cell? ⟨w.heap.size + 1, i, none⟩) ∧ (∀ i, w1.frozen? ⟨w.heap.size + 1, i, none⟩ = W.frozen? ⟨w.heap.size + 1, i, none⟩) :=
  ⟨fun i => hb.cell (p := ⟨w.heap.size, i, none⟩) (by simp; omega), fun i => hb.cell (p := ⟨w.heap.size + 1, i, none⟩) h, fun i => hb.frozen (p := ⟨w.heap.size + 1, i, none⟩) h⟩

set_option maxHeartbeats 1000000 in
theorem store_lit (s : Sl4) (x : Int) (B : Nat) (w : World) (h : okS s) (hx : w.cell? ⟨B, 0, none⟩ = some (.int .i64 x)) : Calls Tryd.prog 98 #[stV s, .pointer (some ⟨B, 0, none⟩)] w fun e w' => e = .returned (mvOf (storM x s)) ∧ Below w.heap.size w w' := by
  obtain ⟨t, y, hs⟩ := stV_form s
  obtain ⟨t', y', hr⟩ := mvOf_form (storM x s)
  have hc := fun w => stored_any s x w h
  have H := hide h
  clear h
  have h0 : B < w.heap.size := World.block_lt_of_cell? w _ hx
  have hx' := keepc (((Below.refl w.heap.size w).alloc (Nat.le_refl _) (.cells #[.nilIface, .int .i64 0, .int .i64 0, .int .i64 0] 104))) hx
  rw [hs]
  simp only [hs, hr] at hc ⊢
  generalize (storM x s).2.1 = k at hc ⊢
  generalize (storM x s).2.2.1 = dd at hc ⊢
  generalize (storM x s).2.2.2 = c at hc ⊢
  clear hs hr
  go_enter Tryd.func98, Tryd.ntmps98
  go_wp2_with fail
  refine (hc _).mono ?_
  rintro e w1 ⟨rfl, hb1⟩
  have hc1 := fun i => hb1.cell (p := ⟨w.heap.size, i, none⟩) (by simp <;> omega)
  have hf1 := fun i => hb1.frozen (p := ⟨w.heap.size, i, none⟩) (by simp <;> omega)
  have HB1 := hide hb1
  clear hb1 hc hx hx'
  go_wp2
  refine bodyPost_ret (v := .agg #[.iface t' y', .int .i64 k, .int .i64 dd, .int .i64 c]) (by simp [results, Tryd.results98, go_sem, hc1]) rfl ⟨rfl, ?_⟩
  exact below_put4 (((Below.refl _ _).alloc (Nat.le_refl _) _).trans (HB1.out.mono (by simp))) (Nat.le_refl _) _ _ _ _

set_option maxHeartbeats 1000000 in
theorem moved_asked_no (s : Sl4) (fm : Bool) (w : World) (h : slB s.1 s.2.1 s.2.2.1 s.2.2.2 = false) : Calls Tryd.prog 87 #[slOf s, .bool fm, .func (.func 88) #[] #[]] w fun e w' => e = .returned (mvOf ((0, 0, 0, 0), 0, 0, 1)) ∧ Below w.heap.size w w' := by
  have HB0 := hide (((Below.refl w.heap.size w).alloc (Nat.le_refl _) (.cells #[.int .i64 s.1, .int .i64 s.2.1, .int .i64 s.2.2.1, .int .i64 s.2.2.2] 33)).alloc (by simp) (.cells #[.nilIface, .int .i64 0, .int .i64 0, .int .i64 0] 104))
  go_enter Tryd.func87, Tryd.ntmps87
  go_wp2_with fail
  refine (implSlotOk_any _ _ _ _ _).mono ?_
  rintro e w1 ⟨rfl, hb1⟩
  obtain ⟨a1, c1, f1⟩ := two4 (w := w) hb1 (by simp)
  have HB1 := hide (HB0.out.trans (hb1.mono HB0.out.size))
  clear hb1
  rw [h]
  go_wp2
  refine bodyPost_ret (v := mvOf ((0, 0, 0, 0), 0, 0, 1)) (by simp [results, Tryd.results87, go_sem, mvOf, stV, c1]) rfl ⟨rfl, ?_⟩
  exact below_put4 HB1.out (Nat.le_succ _) _ _ _ _

set_option maxHeartbeats 1000000 in
theorem moved_asked_fm (s : Sl4) (w : World) (h : slB s.1 s.2.1 s.2.2.1 s.2.2.2 = true) : Calls Tryd.prog 87 #[slOf s, .bool false, .func (.func 88) #[] #[]] w fun e w' => e = .returned (mvOf (s, 0, 0, 2)) ∧ Below w.heap.size w w' := by
  obtain ⟨t, y, hs⟩ := stV_form s
  rw [show mvOf (s, 0, 0, 2) = .agg #[.iface t y, .int .i64 0, .int .i64 0, .int .i64 2] by rw [mvOf, hs]]
  have H : Hid (okS s) := hide h
  have HB0 := hide (((Below.refl w.heap.size w).alloc (Nat.le_refl _) (.cells #[.int .i64 s.1, .int .i64 s.2.1, .int .i64 s.2.2.1, .int .i64 s.2.2.2] 33)).alloc (by simp) (.cells #[.nilIface, .int .i64 0, .int .i64 0, .int .i64 0] 104))
  go_enter Tryd.func87, Tryd.ntmps87
  go_wp2_with fail
  refine (implSlotOk_any _ _ _ _ _).mono ?_
  rintro e w1 ⟨rfl, hb1⟩
  obtain ⟨a1, c1, f1⟩ := two4 (w := w) hb1 (by simp)
  have HB1 := hide (HB0.out.trans (hb1.mono HB0.out.size))
  have hz : w.heap.size + 1 < w1.heap.size := by have := hb1.size; simp at this; omega
  clear hb1
  rw [h]
  go_wp2_with fail
  refine (stateOf_any s _ H.out).mono ?_
  rintro e w2 ⟨rfl, hb2⟩
  obtain ⟨a2, c2, f2⟩ := two4 (w := w) hb2 hz
  have HB2 := hide (HB1.out.trans (hb2.mono HB1.out.size))
  clear hb2 h
  rw [hs]
  clear hs
  go_wp2
  refine bodyPost_ret (v := .agg #[.iface t y, .int .i64 0, .int .i64 0, .int .i64 2]) (by simp [results, Tryd.results87, go_sem, c1, c2]) rfl ⟨rfl, ?_⟩
  exact below_put4 HB2.out (Nat.le_succ _) _ _ _ _

set_option maxHeartbeats 1000000 in
theorem moved_asked_do (s : Sl4) (w : World) (h : slB s.1 s.2.1 s.2.2.1 s.2.2.2 = true) : Calls Tryd.prog 87 #[slOf s, .bool true, .func (.func 88) #[] #[]] w fun e w' => e = .returned (mvOf (askM s)) ∧ Below w.heap.size w w' := by
  obtain ⟨t', y', hr⟩ := mvOf_form (askM s)
  have H : Hid (okS s) := hide h
  have hct := fun w => asked_any s w H.out
  simp only [hr] at hct ⊢
  generalize (askM s).2.1 = k at hct ⊢
  generalize (askM s).2.2.1 = dd at hct ⊢
  generalize (askM s).2.2.2 = c at hct ⊢
  clear hr
  have HB0 := hide (((Below.refl w.heap.size w).alloc (Nat.le_refl _) (.cells #[.int .i64 s.1, .int .i64 s.2.1, .int .i64 s.2.2.1, .int .i64 s.2.2.2] 33)).alloc (by simp) (.cells #[.nilIface, .int .i64 0, .int .i64 0, .int .i64 0] 104))
  go_enter Tryd.func87, Tryd.ntmps87
  go_wp2_with fail
  refine (implSlotOk_any _ _ _ _ _).mono ?_
  rintro e w1 ⟨rfl, hb1⟩
  obtain ⟨a1, c1, f1⟩ := two4 (w := w) hb1 (by simp)
  have HB1 := hide (HB0.out.trans (hb1.mono HB0.out.size))
  have hz : w.heap.size + 1 < w1.heap.size := by have := hb1.size; simp at this; omega
  clear hb1
  rw [h]
  go_wp2_with fail
  refine (stateOf_any s _ H.out).mono ?_
  rintro e w2 ⟨rfl, hb2⟩
  obtain ⟨a2, c2, f2⟩ := two4 (w := w) hb2 hz
  have HB2 := hide (HB1.out.trans (hb2.mono HB1.out.size))
  have hz2 : w.heap.size + 1 < w2.heap.size := by have := hb2.size; omega
  clear hb2 h
  go_wp2_with fail
  refine (hct _).mono ?_
  rintro e w3 ⟨rfl, hb3⟩
  obtain ⟨a3, c3, f3⟩ := two4 (w := w) hb3 hz2
  have HB3 := hide (HB2.out.trans (hb3.mono HB2.out.size))
  clear hb3
  clear hct
  go_wp2
  refine bodyPost_ret (v := .agg #[.iface t' y', .int .i64 k, .int .i64 dd, .int .i64 c]) (by simp [results, Tryd.results87, go_sem, c1, c2, c3]) rfl ⟨rfl, ?_⟩
  exact below_put4 HB3.out (Nat.le_succ _) _ _ _ _

theorem moved_asked (s : Sl4) (fm : Bool) (w : World) : Calls Tryd.prog 87 #[slOf s, .bool fm, .func (.func 88) #[] #[]] w fun e w' => e = .returned (mvOf (mvd s fm (askM s))) ∧ Below w.heap.size w w' := by
  cases h : slB s.1 s.2.1 s.2.2.1 s.2.2.2 with
  | false => rw [mvd_no h]; exact moved_asked_no s fm  w  h
  | true =>
    cases fm with
    | false => rw [mvd_fm h]; exact moved_asked_fm s  w  h
    | true => rw [mvd_do h]; exact moved_asked_do s  w  h


set_option maxHeartbeats 1000000 in
theorem moved_store_no (s : Sl4) (fm : Bool) (B : Nat) (x : Int) (w : World) (hx : w.cell? ⟨B, 0, none⟩ = some (.int .i64 x)) (h : slB s.1 s.2.1 s.2.2.1 s.2.2.2 = false) : Calls Tryd.prog 87 #[slOf s, .bool fm, .func (.func 98) #[] #[.pointer (some ⟨B, 0, none⟩)]] w fun e w' => e = .returned (mvOf ((0, 0, 0, 0), 0, 0, 1)) ∧ Below w.heap.size w w' := by
  have HB0 := hide (((Below.refl w.heap.size w).alloc (Nat.le_refl _) (.cells #[.int .i64 s.1, .int .i64 s.2.1, .int .i64 s.2.2.1, .int .i64 s.2.2.2] 33)).alloc (by simp) (.cells #[.nilIface, .int .i64 0, .int .i64 0, .int .i64 0] 104))
  go_enter Tryd.func87, Tryd.ntmps87
  go_wp2_with fail
  refine (implSlotOk_any _ _ _ _ _).mono ?_
  rintro e w1 ⟨rfl, hb1⟩
  obtain ⟨a1, c1, f1⟩ := two4 (w := w) hb1 (by simp)
  have HB1 := hide (HB0.out.trans (hb1.mono HB0.out.size))
  clear hb1
  rw [h]
  go_wp2
  refine bodyPost_ret (v := mvOf ((0, 0, 0, 0), 0, 0, 1)) (by simp [results, Tryd.results87, go_sem, mvOf, stV, c1]) rfl ⟨rfl, ?_⟩
  exact below_put4 HB1.out (Nat.le_succ _) _ _ _ _

set_option maxHeartbeats 1000000 in
theorem moved_store_fm (s : Sl4) (B : Nat) (x : Int) (w : World) (hx : w.cell? ⟨B, 0, none⟩ = some (.int .i64 x)) (h : slB s.1 s.2.1 s.2.2.1 s.2.2.2 = true) : Calls Tryd.prog 87 #[slOf s, .bool false, .func (.func 98) #[] #[.pointer (some ⟨B, 0, none⟩)]] w fun e w' => e = .returned (mvOf (s, 0, 0, 2)) ∧ Below w.heap.size w w' := by
  obtain ⟨t, y, hs⟩ := stV_form s
  rw [show mvOf (s, 0, 0, 2) = .agg #[.iface t y, .int .i64 0, .int .i64 0, .int .i64 2] by rw [mvOf, hs]]
  have H : Hid (okS s) := hide h
  have HB0 := hide (((Below.refl w.heap.size w).alloc (Nat.le_refl _) (.cells #[.int .i64 s.1, .int .i64 s.2.1, .int .i64 s.2.2.1, .int .i64 s.2.2.2] 33)).alloc (by simp) (.cells #[.nilIface, .int .i64 0, .int .i64 0, .int .i64 0] 104))
  go_enter Tryd.func87, Tryd.ntmps87
  go_wp2_with fail
  refine (implSlotOk_any _ _ _ _ _).mono ?_
  rintro e w1 ⟨rfl, hb1⟩
  obtain ⟨a1, c1, f1⟩ := two4 (w := w) hb1 (by simp)
  have HB1 := hide (HB0.out.trans (hb1.mono HB0.out.size))
  have hz : w.heap.size + 1 < w1.heap.size := by have := hb1.size; simp at this; omega
  clear hb1
  rw [h]
  go_wp2_with fail
  refine (stateOf_any s _ H.out).mono ?_
  rintro e w2 ⟨rfl, hb2⟩
  obtain ⟨a2, c2, f2⟩ := two4 (w := w) hb2 hz
  have HB2 := hide (HB1.out.trans (hb2.mono HB1.out.size))
  clear hb2 h
  rw [hs]
  clear hs
  go_wp2
  refine bodyPost_ret (v := .agg #[.iface t y, .int .i64 0, .int .i64 0, .int .i64 2]) (by simp [results, Tryd.results87, go_sem, c1, c2]) rfl ⟨rfl, ?_⟩
  exact below_put4 HB2.out (Nat.le_succ _) _ _ _ _

set_option maxHeartbeats 1000000 in
theorem moved_store_do (s : Sl4) (B : Nat) (x : Int) (w : World) (hx : w.cell? ⟨B, 0, none⟩ = some (.int .i64 x)) (h : slB s.1 s.2.1 s.2.2.1 s.2.2.2 = true) : Calls Tryd.prog 87 #[slOf s, .bool true, .func (.func 98) #[] #[.pointer (some ⟨B, 0, none⟩)]] w fun e w' => e = .returned (mvOf (storM x s)) ∧ Below w.heap.size w w' := by
  obtain ⟨t', y', hr⟩ := mvOf_form (storM x s)
  have H : Hid (okS s) := hide h
  have hct := fun w => store_lit s x B w H.out
  simp only [hr] at hct ⊢
  generalize (storM x s).2.1 = k at hct ⊢
  generalize (storM x s).2.2.1 = dd at hct ⊢
  generalize (storM x s).2.2.2 = c at hct ⊢
  clear hr
  have HB0 := hide (((Below.refl w.heap.size w).alloc (Nat.le_refl _) (.cells #[.int .i64 s.1, .int .i64 s.2.1, .int .i64 s.2.2.1, .int .i64 s.2.2.2] 33)).alloc (by simp) (.cells #[.nilIface, .int .i64 0, .int .i64 0, .int .i64 0] 104))
  go_enter Tryd.func87, Tryd.ntmps87
  go_wp2_with fail
  refine (implSlotOk_any _ _ _ _ _).mono ?_
  rintro e w1 ⟨rfl, hb1⟩
  obtain ⟨a1, c1, f1⟩ := two4 (w := w) hb1 (by simp)
  have HB1 := hide (HB0.out.trans (hb1.mono HB0.out.size))
  have hz : w.heap.size + 1 < w1.heap.size := by have := hb1.size; simp at this; omega
  clear hb1
  rw [h]
  go_wp2_with fail
  refine (stateOf_any s _ H.out).mono ?_
  rintro e w2 ⟨rfl, hb2⟩
  obtain ⟨a2, c2, f2⟩ := two4 (w := w) hb2 hz
  have HB2 := hide (HB1.out.trans (hb2.mono HB1.out.size))
  have hz2 : w.heap.size + 1 < w2.heap.size := by have := hb2.size; omega
  clear hb2 h
  go_wp2_with fail
  refine (hct _ (keepc HB2.out hx)).mono ?_
  rintro e w3 ⟨rfl, hb3⟩
  obtain ⟨a3, c3, f3⟩ := two4 (w := w) hb3 hz2
  have HB3 := hide (HB2.out.trans (hb3.mono HB2.out.size))
  clear hb3
  clear hct
  go_wp2
  refine bodyPost_ret (v := .agg #[.iface t' y', .int .i64 k, .int .i64 dd, .int .i64 c]) (by simp [results, Tryd.results87, go_sem, c1, c2, c3]) rfl ⟨rfl, ?_⟩
  exact below_put4 HB3.out (Nat.le_succ _) _ _ _ _

theorem moved_store (s : Sl4) (fm : Bool) (B : Nat) (x : Int) (w : World) (hx : w.cell? ⟨B, 0, none⟩ = some (.int .i64 x)) : Calls Tryd.prog 87 #[slOf s, .bool fm, .func (.func 98) #[] #[.pointer (some ⟨B, 0, none⟩)]] w fun e w' => e = .returned (mvOf (mvd s fm (storM x s))) ∧ Below w.heap.size w w' := by
  cases h : slB s.1 s.2.1 s.2.2.1 s.2.2.2 with
  | false => rw [mvd_no h]; exact moved_store_no s fm B x w hx h
  | true =>
    cases fm with
    | false => rw [mvd_fm h]; exact moved_store_fm s B x w hx h
    | true => rw [mvd_do h]; exact moved_store_do s B x w hx h

end Go.Proofs.YtjhaloeahidplaaDoor
