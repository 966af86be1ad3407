/- impl.CoreGot by its results (written by mkSlO.py) -/
import Derived.Test.YtjhaloeahidplaaDoorSlW
import Derived.Deep.RegionHeld3
namespace Go.Proofs.YtjhaloeahidplaaDoor
open Go.RowKit
set_option linter.unusedVariables false
set_option linter.unusedSimpArgs false


set_option maxHeartbeats 2000000 in
theorem implCoreGot_0 (s : Sl4) (mk mf mt ml mw md : Int) (w : World) (htab : Tab w) (hok : okB mk mf mt ml mw md = false) : Calls Tryd.prog 33 #[slOf s, .agg (six mk mf mt ml mw md)] w (Answers w (mvd s false (gotM mk mw md s)) mt ml) := by
  have hmf : ∀ (fn : Fn) (first cap : Array Value) (w : World), (Instr.makeFunc fn first cap).run Tryd.prog w = .ok (.func fn first cap) w := fun _ _ _ _ => rfl
  have OK : Hid (okS (mvd s false (gotM mk mw md s)).1) := hide (mvd_ok fun h hf => by cases hf)
  have cw := cw_start w s.1 s.2.1 s.2.2.1 s.2.2.2 mk mf mt ml mw md
  have hmv := fun w' hx => moved_get s false (w.heap.size + 1) mk mf mt ml mw md w' hx (fun h => by cases h)
  have han := fun w => answer_any (mvd s false (gotM mk mw md s)) mt ml w OK.out
  have hT := htab.below cw.1.1
  unfold Answers
  clear OK htab
  generalize mvd s false (gotM mk mw md s) = m at hmv han ⊢
  generalize mvOf m = mv at hmv han
  obtain ⟨⟨n0, n1, n2, n3⟩, k, dd, c⟩ := m
  go_enter Tryd.func33, Tryd.ntmps33
  go_wp2_with fail
  refine (implOk_any _ _ _ _ _ _ _ hT).mono ?_
  rintro e w1 ⟨rfl, hb1⟩
  replace cw := cw.next hb1
  clear hb1 hT
  rw [hok]
  obtain ⟨⟨_, hz⟩, ⟨c0, c1, c2, c3⟩, ⟨x0, x1, x2, x3, x4, x5⟩, fr, r0, r1, r2, r3⟩ := id cw
  go_wp2
  go_region_held3 (fun w' => Below w.heap.size w w' ∧ w'.cell? ⟨w.heap.size, 0, none⟩ = some (.int .i64 s.1) ∧ w'.cell? ⟨w.heap.size, 1, none⟩ = some (.int .i64 s.2.1) ∧ w'.cell? ⟨w.heap.size, 2, none⟩ = some (.int .i64 s.2.2.1) ∧ w'.cell? ⟨w.heap.size, 3, none⟩ = some (.int .i64 s.2.2.2) ∧ w'.cell? ⟨w.heap.size + 1, 2, none⟩ = some (.int .i64 mt) ∧ w'.cell? ⟨w.heap.size + 1, 3, none⟩ = some (.int .i64 ml)) (first | exact ⟨cw.1.1.drew, c0, c1, c2, c3, x2, x3⟩ | exact keep6 (by assumption) hbk | exact keep6p (by assumption) (by omega) (by omega)) (first | (go_at_call 87; refine (hmv _ ?_).mono ?_; exact cw.2.2.1; rintro e w2 ⟨rfl, hbk⟩; replace cw := cw.drew.next hbk) | (go_at_call 89; refine (han _).mono ?_; rintro e w3 ⟨tv, rfl, hbk, ht3⟩; have hz3 := cw.1.2; replace cw := cw.next hbk; obtain ⟨⟨_, hz⟩, ⟨c0, c1, c2, c3⟩, ⟨x0, x1, x2, x3, x4, x5⟩, fr, r0, r1, r2, r3⟩ := id cw))
  all_goals go_wp2
  all_goals refine bodyPost_ret (v := .tuple #[slV n0 n1 n2 n3, tv, .int .i64 c]) (by simp [results, Tryd.results33, go_sem, Act.put, r0, r1, r2, r3]) rfl ⟨tv, rfl, ?_, ?_⟩
  all_goals first
    | exact below_put4 cw.1.1 (by omega) _ _ _ _
    | exact (ht3.low (b1 := w.heap.size + 1 + 1 + 1) (by omega)).put4 (by omega) _ _ _ _ |>.low (by omega)

set_option maxHeartbeats 2000000 in
theorem implCoreGot_1 (s : Sl4) (mk mf mt ml mw md : Int) (w : World) (htab : Tab w) (hok : okB mk mf mt ml mw md = true) (hm : (mf == 0) = false) : Calls Tryd.prog 33 #[slOf s, .agg (six mk mf mt ml mw md)] w (Answers w (mvd s false (gotM mk mw md s)) mt ml) := by
  have hmf : ∀ (fn : Fn) (first cap : Array Value) (w : World), (Instr.makeFunc fn first cap).run Tryd.prog w = .ok (.func fn first cap) w := fun _ _ _ _ => rfl
  have OK : Hid (okS (mvd s false (gotM mk mw md s)).1) := hide (mvd_ok fun h hf => by cases hf)
  have cw := cw_start w s.1 s.2.1 s.2.2.1 s.2.2.2 mk mf mt ml mw md
  have hmv := fun w' hx => moved_get s false (w.heap.size + 1) mk mf mt ml mw md w' hx (fun h => by cases h)
  have han := fun w => answer_any (mvd s false (gotM mk mw md s)) mt ml w OK.out
  have hT := htab.below cw.1.1
  unfold Answers
  clear OK htab
  generalize mvd s false (gotM mk mw md s) = m at hmv han ⊢
  generalize mvOf m = mv at hmv han
  obtain ⟨⟨n0, n1, n2, n3⟩, k, dd, c⟩ := m
  go_enter Tryd.func33, Tryd.ntmps33
  go_wp2_with fail
  refine (implOk_any _ _ _ _ _ _ _ hT).mono ?_
  rintro e w1 ⟨rfl, hb1⟩
  replace cw := cw.next hb1
  clear hb1 hT
  rw [hok]
  obtain ⟨⟨_, hz⟩, ⟨c0, c1, c2, c3⟩, ⟨x0, x1, x2, x3, x4, x5⟩, fr, r0, r1, r2, r3⟩ := id cw
  go_wp2
  go_region_held3 (fun w' => Below w.heap.size w w' ∧ w'.cell? ⟨w.heap.size, 0, none⟩ = some (.int .i64 s.1) ∧ w'.cell? ⟨w.heap.size, 1, none⟩ = some (.int .i64 s.2.1) ∧ w'.cell? ⟨w.heap.size, 2, none⟩ = some (.int .i64 s.2.2.1) ∧ w'.cell? ⟨w.heap.size, 3, none⟩ = some (.int .i64 s.2.2.2) ∧ w'.cell? ⟨w.heap.size + 1, 2, none⟩ = some (.int .i64 mt) ∧ w'.cell? ⟨w.heap.size + 1, 3, none⟩ = some (.int .i64 ml)) (first | exact ⟨cw.1.1.drew, c0, c1, c2, c3, x2, x3⟩ | exact keep6 (by assumption) hbk | exact keep6p (by assumption) (by omega) (by omega)) (first | (go_at_call 87; refine (hmv _ ?_).mono ?_; exact cw.2.2.1; rintro e w2 ⟨rfl, hbk⟩; replace cw := cw.drew.next hbk) | (go_at_call 89; refine (han _).mono ?_; rintro e w3 ⟨tv, rfl, hbk, ht3⟩; have hz3 := cw.1.2; replace cw := cw.next hbk; obtain ⟨⟨_, hz⟩, ⟨c0, c1, c2, c3⟩, ⟨x0, x1, x2, x3, x4, x5⟩, fr, r0, r1, r2, r3⟩ := id cw))
  all_goals go_wp2
  all_goals refine bodyPost_ret (v := .tuple #[slV n0 n1 n2 n3, tv, .int .i64 c]) (by simp [results, Tryd.results33, go_sem, Act.put, r0, r1, r2, r3]) rfl ⟨tv, rfl, ?_, ?_⟩
  all_goals first
    | exact below_put4 cw.1.1 (by omega) _ _ _ _
    | exact (ht3.low (b1 := w.heap.size + 1 + 1 + 1) (by omega)).put4 (by omega) _ _ _ _ |>.low (by omega)

set_option maxHeartbeats 2000000 in
theorem implCoreGot_2 (s : Sl4) (mk mt ml mw md : Int) (w : World) (htab : Tab w) (hok : okB mk 0 mt ml mw md = true) : Calls Tryd.prog 33 #[slOf s, .agg (six mk 0 mt ml mw md)] w (Answers w (mvd s true (gotM mk mw md s)) mt ml) := by
  have hmf : ∀ (fn : Fn) (first cap : Array Value) (w : World), (Instr.makeFunc fn first cap).run Tryd.prog w = .ok (.func fn first cap) w := fun _ _ _ _ => rfl
  have OK : Hid (okS (mvd s true (gotM mk mw md s)).1) := hide (mvd_ok fun h hf => got_ok (mf := 0) (mt := mt) (ml := ml) h (by unfold rtM; rw [hok]; rfl))
  have cw := cw_start w s.1 s.2.1 s.2.2.1 s.2.2.2 mk 0 mt ml mw md
  have hmv := fun w' hx => moved_get s true (w.heap.size + 1) mk 0 mt ml mw md w' hx (fun _ => by unfold rtM; rw [hok]; rfl)
  have han := fun w => answer_any (mvd s true (gotM mk mw md s)) mt ml w OK.out
  have hT := htab.below cw.1.1
  unfold Answers
  clear OK htab
  generalize mvd s true (gotM mk mw md s) = m at hmv han ⊢
  generalize mvOf m = mv at hmv han
  obtain ⟨⟨n0, n1, n2, n3⟩, k, dd, c⟩ := m
  go_enter Tryd.func33, Tryd.ntmps33
  go_wp2_with fail
  refine (implOk_any _ _ _ _ _ _ _ hT).mono ?_
  rintro e w1 ⟨rfl, hb1⟩
  replace cw := cw.next hb1
  clear hb1 hT
  rw [hok]
  obtain ⟨⟨_, hz⟩, ⟨c0, c1, c2, c3⟩, ⟨x0, x1, x2, x3, x4, x5⟩, fr, r0, r1, r2, r3⟩ := id cw
  go_wp2
  go_region_held3 (fun w' => Below w.heap.size w w' ∧ w'.cell? ⟨w.heap.size, 0, none⟩ = some (.int .i64 s.1) ∧ w'.cell? ⟨w.heap.size, 1, none⟩ = some (.int .i64 s.2.1) ∧ w'.cell? ⟨w.heap.size, 2, none⟩ = some (.int .i64 s.2.2.1) ∧ w'.cell? ⟨w.heap.size, 3, none⟩ = some (.int .i64 s.2.2.2) ∧ w'.cell? ⟨w.heap.size + 1, 2, none⟩ = some (.int .i64 mt) ∧ w'.cell? ⟨w.heap.size + 1, 3, none⟩ = some (.int .i64 ml)) (first | exact ⟨cw.1.1.drew, c0, c1, c2, c3, x2, x3⟩ | exact keep6 (by assumption) hbk | exact keep6p (by assumption) (by omega) (by omega)) (first | (go_at_call 87; refine (hmv _ ?_).mono ?_; exact cw.2.2.1; rintro e w2 ⟨rfl, hbk⟩; replace cw := cw.drew.next hbk) | (go_at_call 89; refine (han _).mono ?_; rintro e w3 ⟨tv, rfl, hbk, ht3⟩; have hz3 := cw.1.2; replace cw := cw.next hbk; obtain ⟨⟨_, hz⟩, ⟨c0, c1, c2, c3⟩, ⟨x0, x1, x2, x3, x4, x5⟩, fr, r0, r1, r2, r3⟩ := id cw))
  all_goals go_wp2
  all_goals refine bodyPost_ret (v := .tuple #[slV n0 n1 n2 n3, tv, .int .i64 c]) (by simp [results, Tryd.results33, go_sem, Act.put, r0, r1, r2, r3]) rfl ⟨tv, rfl, ?_, ?_⟩
  all_goals first
    | exact below_put4 cw.1.1 (by omega) _ _ _ _
    | exact (ht3.low (b1 := w.heap.size + 1 + 1 + 1) (by omega)).put4 (by omega) _ _ _ _ |>.low (by omega)

theorem implCoreGot_any (s : Sl4) (mk mf mt ml mw md : Int) (w : World) (htab : Tab w) : Calls Tryd.prog 33 #[slOf s, .agg (six mk mf mt ml mw md)] w (Answers w (mvd s (rtM mk mf mt ml mw md) (gotM mk mw md s)) mt ml) := by
  cases hok : okB mk mf mt ml mw md with
  | false => rw [show rtM mk mf mt ml mw md = false by unfold rtM; rw [hok]; rfl]; exact implCoreGot_0 s mk mf mt ml mw md w htab hok
  | true =>
    by_cases hm : mf = 0
    · subst hm
      rw [show rtM mk 0 mt ml mw md = true by unfold rtM; rw [hok]; rfl]; exact implCoreGot_2 s mk mt ml mw md w htab hok
    · rw [show rtM mk mf mt ml mw md = false by unfold rtM; rw [hok]; simp [eqB, hm]]; exact implCoreGot_1 s mk mf mt ml mw md w htab hok (by simp [hm])

end Go.Proofs.YtjhaloeahidplaaDoor
