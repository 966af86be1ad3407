/- spec.l3Got in one; spec.CoreGot (written by mkSlO.py) -/
import Derived.Test.YtjhaloeahidplaaDoorSlQ
namespace Go.Proofs.YtjhaloeahidplaaDoor
open Go.RowKit
set_option linter.unusedVariables false
set_option linter.unusedSimpArgs false

theorem l3_any (s : Sl4) (mk mf mt ml mw md : Int) (w : World) (h : okS s) (hq : rtM mk mf mt ml mw md = true) : Calls Tryd.prog 102 #[slOf s, .agg (six mk mf mt ml mw md)] w (Answers w (gotM mk mw md s) mt ml) := by
  obtain ⟨rfl, _, _, hd, hk⟩ := rtM_cases hq
  obtain ⟨_, hs⟩ := cases_of h
  rcases hk with ⟨rfl, rfl, rfl⟩ | ⟨rfl, hw, rfl⟩ | ⟨rfl, hw⟩ | ⟨rfl, rfl, rfl⟩
  · rcases hs with rfl | rfl | ⟨v, rfl⟩ | ⟨d, rfl⟩ | ⟨d, v, rfl⟩ | ⟨d, rfl⟩ | ⟨d, rfl⟩
    · exact l3_4E _ _ _ _ _ _ _ _ _ _ rfl rfl
    · exact l3_4E _ _ _ _ _ _ _ _ _ _ rfl rfl
    · exact l3_4E _ _ _ _ _ _ _ _ _ _ rfl rfl
    · exact l3_4S _ _ _ _ _ _ _ _ _
    · exact l3_4S _ _ _ _ _ _ _ _ _
    · exact l3_4O _ _ _ _ _ _ _
    · exact l3_4E _ _ _ _ _ _ _ _ _ _ rfl rfl
  · rcases hw with rfl | rfl <;> rcases hs with rfl | rfl | ⟨v, rfl⟩ | ⟨d, rfl⟩ | ⟨d, v, rfl⟩ | ⟨d, rfl⟩ | ⟨d, rfl⟩
    · exact l3_5N _ _ _ _ _ _ _ _ _ _ rfl rfl
    · exact l3_5N _ _ _ _ _ _ _ _ _ _ rfl rfl
    · exact l3_5N _ _ _ _ _ _ _ _ _ _ rfl rfl
    · exact l3_5N _ _ _ _ _ _ _ _ _ _ rfl rfl
    · exact l3_5N _ _ _ _ _ _ _ _ _ _ rfl rfl
    · exact l3_5O1 _ _ _ _ _ _
    · exact l3_5L _ _ _ _ _ _ _ _ _
    · exact l3_5N _ _ _ _ _ _ _ _ _ _ rfl rfl
    · exact l3_5N _ _ _ _ _ _ _ _ _ _ rfl rfl
    · exact l3_5N _ _ _ _ _ _ _ _ _ _ rfl rfl
    · exact l3_5N _ _ _ _ _ _ _ _ _ _ rfl rfl
    · exact l3_5N _ _ _ _ _ _ _ _ _ _ rfl rfl
    · exact l3_5O2 _ _ _ _ _ _
    · exact l3_5L _ _ _ _ _ _ _ _ _
  · rcases hw with rfl | rfl <;> rcases hs with rfl | rfl | ⟨v, rfl⟩ | ⟨d, rfl⟩ | ⟨d, v, rfl⟩ | ⟨d, rfl⟩ | ⟨d, rfl⟩
    · exact l3_8N _ _ _ _ _ _ _ _ _ _ rfl
    · exact l3_81 _ _ _ _ _ _ _ _
    · exact l3_8N _ _ _ _ _ _ _ _ _ _ rfl
    · exact l3_8N _ _ _ _ _ _ _ _ _ _ rfl
    · exact l3_8N _ _ _ _ _ _ _ _ _ _ rfl
    · exact l3_8N _ _ _ _ _ _ _ _ _ _ rfl
    · exact l3_8N _ _ _ _ _ _ _ _ _ _ rfl
    · exact l3_8N _ _ _ _ _ _ _ _ _ _ rfl
    · exact l3_8N _ _ _ _ _ _ _ _ _ _ rfl
    · exact l3_82 _ _ _ _ _ _ _ _
    · exact l3_8N _ _ _ _ _ _ _ _ _ _ rfl
    · exact l3_82 _ _ _ _ _ _ _ _
    · exact l3_8N _ _ _ _ _ _ _ _ _ _ rfl
    · exact l3_8N _ _ _ _ _ _ _ _ _ _ rfl
  · rcases hs with rfl | rfl | ⟨v, rfl⟩ | ⟨d, rfl⟩ | ⟨d, v, rfl⟩ | ⟨d, rfl⟩ | ⟨d, rfl⟩
    · exact l3_9N _ _ _ _ _ _ _ _ _ _ rfl
    · exact l3_9N _ _ _ _ _ _ _ _ _ _ rfl
    · exact l3_9N _ _ _ _ _ _ _ _ _ _ rfl
    · exact l3_9N _ _ _ _ _ _ _ _ _ _ rfl
    · exact l3_9N _ _ _ _ _ _ _ _ _ _ rfl
    · exact l3_9N _ _ _ _ _ _ _ _ _ _ rfl
    · exact l3_9L _ _ _ _ _ _ _ _ _

theorem home_of {mk mf mt ml mw md : Int} (h : okB mk mf mt ml mw md = true) : (1 ≤ mk ∧ mk ≤ 9) ∧ homeB mk = !eqB mf 0 := by
  simp only [okB, Bool.and_eq_true] at h
  obtain ⟨⟨⟨⟨h1, h2⟩, h3⟩, h4⟩, h5⟩ := h
  rw [inB_iff] at h1
  refine ⟨h1, ?_⟩
  unfold endsB at h3
  cases hh : homeB mk with
  | true =>
    rw [hh, if_pos rfl, Bool.and_eq_true, inB_iff] at h3
    have : eqB mf 0 = false := by simp [eqB]; omega
    rw [this]; rfl
  | false =>
    rw [hh, if_neg (by simp), Bool.and_eq_true] at h3
    rw [h3.2]; rfl

set_option maxHeartbeats 1000000 in
theorem spGot_no (s : Sl4) (mk mf mt ml mw md : Int) (w : World) (hok : slB s.1 s.2.1 s.2.2.1 s.2.2.2 = false) : Calls Tryd.prog 34 #[slOf s, .agg (six mk mf mt ml mw md)] w (Answers w ((0, 0, 0, 0), 0, 0, 1) mt ml) := by
  have cw := cw_start w s.1 s.2.1 s.2.2.1 s.2.2.2 mk mf mt ml mw md
  unfold Answers
  go_enter Tryd.func34, Tryd.ntmps34
  go_wp2_with fail
  refine (specSlotOk_any _ _ _ _ _).mono ?_
  rintro e w1 ⟨rfl, hb⟩
  replace cw := cw.next hb
  clear hb
  rw [hok]
  obtain ⟨⟨_, hz⟩, ⟨c0, c1, c2, c3⟩, ⟨x0, x1, x2, x3, x4, x5⟩, fr, r0, r1, r2, r3⟩ := id cw
  go_wp2
  refine bodyPost_ret (v := .tuple #[slV 0 0 0 0, .slice none 0 0, .int .i64 1]) (by simp [results, Tryd.results34, go_sem, r0, r1, r2, r3]) rfl ⟨_, rfl, ?_, ?_⟩
  · exact below_put4 cw.1.1 (by omega) _ _ _ _
  · exact .inl ⟨rfl, rfl⟩

set_option maxHeartbeats 1000000 in
theorem spGot_f0 (s : Sl4) (mk mf mt ml mw md : Int) (w : World) (hok : slB s.1 s.2.1 s.2.2.1 s.2.2.2 = true) (hm : okB mk mf mt ml mw md = false) : Calls Tryd.prog 34 #[slOf s, .agg (six mk mf mt ml mw md)] w (Answers w (s, 0, 0, 2) mt ml) := by
  have cw := cw_start w s.1 s.2.1 s.2.2.1 s.2.2.2 mk mf mt ml mw md
  unfold Answers
  go_enter Tryd.func34, Tryd.ntmps34
  go_wp2_with fail
  refine (specSlotOk_any _ _ _ _ _).mono ?_
  rintro e w1 ⟨rfl, hb⟩
  replace cw := cw.next hb
  clear hb
  rw [hok]
  obtain ⟨⟨_, hz⟩, ⟨c0, c1, c2, c3⟩, ⟨x0, x1, x2, x3, x4, x5⟩, fr, r0, r1, r2, r3⟩ := id cw
  go_wp2_with fail
  refine (specOk_any _ _ _ _ _ _ _).mono ?_
  rintro e w2 ⟨rfl, hb⟩
  replace cw := cw.next hb
  clear hb
  clear c0 c1 c2 c3 x0 x1 x2 x3 x4 x5 fr r0 r1 r2 r3 hz
  rw [hm]
  obtain ⟨⟨_, hz⟩, ⟨c0, c1, c2, c3⟩, ⟨x0, x1, x2, x3, x4, x5⟩, fr, r0, r1, r2, r3⟩ := id cw
  go_wp2
  refine bodyPost_ret (v := .tuple #[slOf s, .slice none 0 0, .int .i64 2]) (by simp [results, Tryd.results34, go_sem, r0, r1, r2, r3]) rfl ⟨_, rfl, ?_, ?_⟩
  · exact below_put4 cw.1.1 (by omega) _ _ _ _
  · exact .inl ⟨rfl, rfl⟩

set_option maxHeartbeats 1000000 in
theorem spGot_f1 (s : Sl4) (mk mf mt ml mw md : Int) (w : World) (hok : slB s.1 s.2.1 s.2.2.1 s.2.2.2 = true) (hm : okB mk mf mt ml mw md = true) (h1 : 1 ≤ mk) (h9 : mk ≤ 9) (hh : homeB mk = true) : Calls Tryd.prog 34 #[slOf s, .agg (six mk mf mt ml mw md)] w (Answers w (s, 0, 0, 2) mt ml) := by
  have cw := cw_start w s.1 s.2.1 s.2.2.1 s.2.2.2 mk mf mt ml mw md
  unfold Answers
  go_enter Tryd.func34, Tryd.ntmps34
  go_wp2_with fail
  refine (specSlotOk_any _ _ _ _ _).mono ?_
  rintro e w1 ⟨rfl, hb⟩
  replace cw := cw.next hb
  clear hb
  rw [hok]
  obtain ⟨⟨_, hz⟩, ⟨c0, c1, c2, c3⟩, ⟨x0, x1, x2, x3, x4, x5⟩, fr, r0, r1, r2, r3⟩ := id cw
  go_wp2_with fail
  refine (specOk_any _ _ _ _ _ _ _).mono ?_
  rintro e w2 ⟨rfl, hb⟩
  replace cw := cw.next hb
  clear hb
  clear c0 c1 c2 c3 x0 x1 x2 x3 x4 x5 fr r0 r1 r2 r3 hz
  rw [hm]
  obtain ⟨⟨_, hz⟩, ⟨c0, c1, c2, c3⟩, ⟨x0, x1, x2, x3, x4, x5⟩, fr, r0, r1, r2, r3⟩ := id cw
  go_wp2_with fail
  refine (l2Core_any _ _ h1 h9).mono ?_
  rintro e w3 ⟨rfl, rfl⟩
  rw [hh]
  go_wp2
  refine bodyPost_ret (v := .tuple #[slOf s, .slice none 0 0, .int .i64 2]) (by simp [results, Tryd.results34, go_sem, r0, r1, r2, r3]) rfl ⟨_, rfl, ?_, ?_⟩
  · exact below_put4 cw.1.1 (by omega) _ _ _ _
  · exact .inl ⟨rfl, rfl⟩

set_option maxHeartbeats 1000000 in
theorem spGot_do (s : Sl4) (mk mf mt ml mw md : Int) (w : World) (n0 n1 n2 n3 k dd c : Int) (hok : slB s.1 s.2.1 s.2.2.1 s.2.2.2 = true) (hm : okB mk mf mt ml mw md = true) (h1 : 1 ≤ mk) (h9 : mk ≤ 9) (hh : homeB mk = false) (hl3 : ∀ w, Calls Tryd.prog 102 #[slOf s, .agg (six mk mf mt ml mw md)] w (Answers w ((n0, n1, n2, n3), k, dd, c) mt ml)) : Calls Tryd.prog 34 #[slOf s, .agg (six mk mf mt ml mw md)] w (Answers w ((n0, n1, n2, n3), k, dd, c) mt ml) := by
  have cw := cw_start w s.1 s.2.1 s.2.2.1 s.2.2.2 mk mf mt ml mw md
  unfold Answers
  go_enter Tryd.func34, Tryd.ntmps34
  go_wp2_with fail
  refine (specSlotOk_any _ _ _ _ _).mono ?_
  rintro e w1 ⟨rfl, hb⟩
  replace cw := cw.next hb
  clear hb
  rw [hok]
  obtain ⟨⟨_, hz⟩, ⟨c0, c1, c2, c3⟩, ⟨x0, x1, x2, x3, x4, x5⟩, fr, r0, r1, r2, r3⟩ := id cw
  go_wp2_with fail
  refine (specOk_any _ _ _ _ _ _ _).mono ?_
  rintro e w2 ⟨rfl, hb⟩
  replace cw := cw.next hb
  clear hb
  clear c0 c1 c2 c3 x0 x1 x2 x3 x4 x5 fr r0 r1 r2 r3 hz
  rw [hm]
  obtain ⟨⟨_, hz⟩, ⟨c0, c1, c2, c3⟩, ⟨x0, x1, x2, x3, x4, x5⟩, fr, r0, r1, r2, r3⟩ := id cw
  go_wp2_with fail
  refine (l2Core_any _ _ h1 h9).mono ?_
  rintro e w3 ⟨rfl, rfl⟩
  rw [hh]
  go_wp2_with fail
  refine (hl3 _).mono ?_
  rintro e w4 ⟨tv, rfl, hb, ht⟩
  have hz4 := cw.1.2
  replace cw := cw.next hb
  clear hb hl3
  clear c0 c1 c2 c3 x0 x1 x2 x3 x4 x5 fr r0 r1 r2 r3 hz
  obtain ⟨⟨_, hz⟩, ⟨c0, c1, c2, c3⟩, ⟨x0, x1, x2, x3, x4, x5⟩, fr, r0, r1, r2, r3⟩ := id cw
  go_wp2
  refine bodyPost_ret (v := .tuple #[slV n0 n1 n2 n3, tv, .int .i64 c]) (by simp [results, Tryd.results34, go_sem, r0, r1, r2, r3]) rfl ⟨_, rfl, ?_, ?_⟩
  · exact below_put4 cw.1.1 (by omega) _ _ _ _
  · exact (ht.low (b1 := w.heap.size + 1 + 1 + 1) (by omega)).put4 (by omega) _ _ _ _ |>.low (by omega)

theorem specCoreGot_any (s : Sl4) (mk mf mt ml mw md : Int) (w : World) : Calls Tryd.prog 34 #[slOf s, .agg (six mk mf mt ml mw md)] w (Answers w (mvd s (rtM mk mf mt ml mw md) (gotM mk mw md s)) mt ml) := by
  cases h : slB s.1 s.2.1 s.2.2.1 s.2.2.2 with
  | false => rw [mvd_no h]; exact spGot_no s mk mf mt ml mw md w h
  | true =>
    cases hm : okB mk mf mt ml mw md with
    | false => rw [show rtM mk mf mt ml mw md = false by unfold rtM; rw [hm]; rfl, mvd_fm h]; exact spGot_f0 s mk mf mt ml mw md w h hm
    | true =>
      obtain ⟨⟨h1, h9⟩, hh⟩ := home_of hm
      cases hz : eqB mf 0 with
      | false => rw [show rtM mk mf mt ml mw md = false by unfold rtM; rw [hm, hz]; rfl, mvd_fm h]; exact spGot_f1 s mk mf mt ml mw md w h hm h1 h9 (by rw [hh, hz]; rfl)
      | true =>
        have hq : rtM mk mf mt ml mw md = true := by unfold rtM; rw [hm, hz]; rfl
        rw [hq, mvd_do h]
        have hl3 := fun w => l3_any s mk mf mt ml mw md w h hq
        generalize gotM mk mw md s = m at hl3 ⊢
        obtain ⟨⟨n0, n1, n2, n3⟩, k, dd, c⟩ := m
        exact spGot_do s mk mf mt ml mw md w n0 n1 n2 n3 k dd c h hm h1 h9 (by rw [hh, hz]; rfl) hl3

end Go.Proofs.YtjhaloeahidplaaDoor
