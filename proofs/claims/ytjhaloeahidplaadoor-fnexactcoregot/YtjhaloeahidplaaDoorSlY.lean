/- laws.FnExactCoreGot walked (written by mkGot.py) -/
import Derived.Test.YtjhaloeahidplaaDoorSlX
import Derived.Test.YtjhaloeahidplaaDoorSlO
import Derived.Test.YtjhaloeahidplaaDoorMsgT
namespace Go.Proofs.YtjhaloeahidplaaDoor
open Go.RowKit
set_option linter.unusedVariables false
set_option linter.unusedSimpArgs false

set_option maxRecDepth 100000 in
set_option maxHeartbeats 40000000 in
theorem walk_none (st d wt v mk mf mt ml mw md : Int) (n0 n1 n2 n3 k dd c : Int) (w : World) (htab : Tab w)
    (hsp : ∀ w, Calls Tryd.prog 34 #[slV st d wt v, .agg (six mk mf mt ml mw md)] w (Answers w ((n0, n1, n2, n3), 0, dd, c) mt ml))
    (him : ∀ w, Tab w → Calls Tryd.prog 33 #[slV st d wt v, .agg (six mk mf mt ml mw md)] w (Answers w ((n0, n1, n2, n3), 0, dd, c) mt ml)) :
    Calls Tryd.prog 8 #[slV st d wt v, .agg (six mk mf mt ml mw md)] w fun e w' => e = .returned (.bool true) ∧ Below w.heap.size w w' := by
  obtain ⟨sl, bx⟩ := two_start w st d wt v mk mf mt ml mw md
  go_enter Tryd.func8, Tryd.ntmps8
  go_wp2
  obtain ⟨_, c0, c1, c2, c3⟩ := id sl
  obtain ⟨x0, x1, x2, x3, x4, x5⟩ := id bx
  go_cut [5, 6, 7] (fun s5 s6 s7 wc => ∃ P, s5 = .pointer (some ⟨P, 0, none⟩) ∧ s6 = .slice none 0 0 ∧ s7 = .int .i64 c ∧ Hid (SC w w.heap.size st d wt v wc ∧ Box6 wc (w.heap.size + 1) mk mf mt ml mw md ∧ SC w P n0 n1 n2 n3 wc ∧ (w.heap.size + 1 < P ∧ P < wc.heap.size)))
  case first =>
    go_region_held3 (fun w' => Below w.heap.size w w' ∧ w'.cell? ⟨w.heap.size, 0, none⟩ = some (.int .i64 st) ∧ w'.cell? ⟨w.heap.size, 1, none⟩ = some (.int .i64 d) ∧ w'.cell? ⟨w.heap.size, 2, none⟩ = some (.int .i64 wt) ∧ w'.cell? ⟨w.heap.size, 3, none⟩ = some (.int .i64 v) ∧ w'.cell? ⟨w.heap.size + 1, 0, none⟩ = some (.int .i64 mk) ∧ w'.cell? ⟨w.heap.size + 1, 1, none⟩ = some (.int .i64 mf) ∧ w'.cell? ⟨w.heap.size + 1, 2, none⟩ = some (.int .i64 mt) ∧ w'.cell? ⟨w.heap.size + 1, 3, none⟩ = some (.int .i64 ml) ∧ w'.cell? ⟨w.heap.size + 1, 4, none⟩ = some (.int .i64 mw) ∧ w'.cell? ⟨w.heap.size + 1, 5, none⟩ = some (.int .i64 md) ∧ True) (first | exact ⟨sl.1.drew, c0, c1, c2, c3, x0, x1, x2, x3, x4, x5, trivial⟩ | exact keep10 (X := fun w' => True) (fun W W' h hb => trivial) (by assumption) hbk | exact keep10 (X := fun w' => True) (fun W W' h hb => trivial) (by assumption) ((Below.refl _ _).alloc (Nat.le_refl _) _) | exact keep10 (X := fun w' => True) (fun W W' h hb => trivial) hS3 ((Below.refl _ _).alloc (Nat.le_refl _) _) | exact keep10p (X := fun w' => True) (fun h => trivial) (by assumption) (by first | omega | (simp; omega))) (first | (go_at_call 44; refine (toSlot_any _ _ _ _ _).mono ?_; rintro e u1 ⟨rfl, hbk⟩; have hs1 := hbk.size; (try simp at hs1); have hq1 : ∀ b, b < _ → b < _ := fun b h => Nat.lt_of_lt_of_le h hbk.size; have hblk1 := hbk.block) | (go_at_call 45; refine (toMsg_any _ _ _ _ _ _ _).mono ?_; rintro e u2 ⟨rfl, hbk⟩; have hs2 := hbk.size; (try simp at hs2); have hq2 : ∀ b, b < _ → b < _ := fun b h => Nat.lt_of_lt_of_le h hbk.size; have hblk2 := hbk.block) | (go_at_call 34; refine (hsp _).mono ?_; rintro e u3 ⟨tv, rfl, hbk, ht⟩; have hs3 := hbk.size; (try simp at hs3); have hq3 : ∀ b, b < _ → b < _ := fun b h => Nat.lt_of_lt_of_le h hbk.size; have hblk3 := hbk.block; have bel3 := belNext (by assumption) hbk; have hS3 := keep10 (X := fun w' => True) (fun W W' h hb => trivial) (by assumption) hbk; obtain rfl := told_none ht; clear ht; (first | (have hrow := (hblk3 u2.heap.size (by first | omega | (simp; omega) | simp)).trans (heap_alloc_new _ _); (try simp only [World.size_alloc] at hrow); obtain ⟨fr, r0, r1, r2, r3⟩ := row_facts hrow) | (have hrow := (hblk3 u1.heap.size (by first | omega | (simp; omega) | simp)).trans ((hblk2 u1.heap.size (by first | omega | (simp; omega) | simp)).trans (heap_alloc_new _ _)); (try simp only [World.size_alloc] at hrow); obtain ⟨fr, r0, r1, r2, r3⟩ := row_facts hrow) | (have hrow := (hblk3 ((w.alloc (.cells #[.int .i64 st, .int .i64 d, .int .i64 wt, .int .i64 v] 62)).alloc (.cells #[.int .i64 mk, .int .i64 mf, .int .i64 mt, .int .i64 ml, .int .i64 mw, .int .i64 md] 63)).heap.size (by first | omega | (simp; omega) | simp)).trans ((hblk2 ((w.alloc (.cells #[.int .i64 st, .int .i64 d, .int .i64 wt, .int .i64 v] 62)).alloc (.cells #[.int .i64 mk, .int .i64 mf, .int .i64 mt, .int .i64 ml, .int .i64 mw, .int .i64 md] 63)).heap.size (by first | omega | (simp; omega) | simp)).trans ((hblk1 ((w.alloc (.cells #[.int .i64 st, .int .i64 d, .int .i64 wt, .int .i64 v] 62)).alloc (.cells #[.int .i64 mk, .int .i64 mf, .int .i64 mt, .int .i64 ml, .int .i64 mw, .int .i64 md] 63)).heap.size (by first | omega | (simp; omega) | simp)).trans (heap_alloc_new _ _))); (try simp only [World.size_alloc] at hrow); obtain ⟨fr, r0, r1, r2, r3⟩ := row_facts hrow) | skip)))
    all_goals (try go_wp2_with fail)
    all_goals go_meet
    all_goals rename_i hS
    all_goals refine ⟨_, rfl, rfl, rfl, hide ⟨⟨hS.1, hS.2.1, hS.2.2.1, hS.2.2.2.1, hS.2.2.2.2.1⟩, ⟨hS.2.2.2.2.2.1, hS.2.2.2.2.2.2.1, hS.2.2.2.2.2.2.2.1, hS.2.2.2.2.2.2.2.2.1, hS.2.2.2.2.2.2.2.2.2.1, hS.2.2.2.2.2.2.2.2.2.2.1⟩, ?_, ?_⟩⟩
    all_goals first
      | (first | exact sc_here bel3 n0 n1 n2 n3 _ | exact sc_put4 bel3 (by first | omega | (simp; omega)) hrow n0 n1 n2 n3)
      | (refine ⟨?_, ?_⟩ <;> first | omega | (simp; omega) | simp)
  case rest =>
    obtain ⟨P, rfl, rfl, rfl, hH⟩ := hcut
    obtain ⟨sl, bx, px, hP1, hP2⟩ := hH.out
    clear hH
    go_wp2
    obtain ⟨_, c0, c1, c2, c3⟩ := id sl
    obtain ⟨x0, x1, x2, x3, x4, x5⟩ := id bx
    go_cut [8, 9, 10] (fun s5 s6 s7 wc => ∃ Q, s5 = .pointer (some ⟨Q, 0, none⟩) ∧ s6 = .slice none 0 0 ∧ s7 = .int .i64 c ∧ Hid (SC w w.heap.size st d wt v wc ∧ Box6 wc (w.heap.size + 1) mk mf mt ml mw md ∧ SC w P n0 n1 n2 n3 wc ∧ SC w Q n0 n1 n2 n3 wc ∧ P < wc.heap.size))
    case first =>
      go_region_held3 (fun w' => Below w.heap.size w w' ∧ w'.cell? ⟨w.heap.size, 0, none⟩ = some (.int .i64 st) ∧ w'.cell? ⟨w.heap.size, 1, none⟩ = some (.int .i64 d) ∧ w'.cell? ⟨w.heap.size, 2, none⟩ = some (.int .i64 wt) ∧ w'.cell? ⟨w.heap.size, 3, none⟩ = some (.int .i64 v) ∧ w'.cell? ⟨w.heap.size + 1, 0, none⟩ = some (.int .i64 mk) ∧ w'.cell? ⟨w.heap.size + 1, 1, none⟩ = some (.int .i64 mf) ∧ w'.cell? ⟨w.heap.size + 1, 2, none⟩ = some (.int .i64 mt) ∧ w'.cell? ⟨w.heap.size + 1, 3, none⟩ = some (.int .i64 ml) ∧ w'.cell? ⟨w.heap.size + 1, 4, none⟩ = some (.int .i64 mw) ∧ w'.cell? ⟨w.heap.size + 1, 5, none⟩ = some (.int .i64 md) ∧ SC w P n0 n1 n2 n3 w') (first | exact ⟨sl.1.drew, c0, c1, c2, c3, x0, x1, x2, x3, x4, x5, sc_drew px⟩ | exact keep10 (X := fun w' => SC w P n0 n1 n2 n3 w') (fun W W' h hb => sc_next h hb) (by assumption) hbk | exact keep10 (X := fun w' => SC w P n0 n1 n2 n3 w') (fun W W' h hb => sc_next h hb) (by assumption) ((Below.refl _ _).alloc (Nat.le_refl _) _) | exact keep10 (X := fun w' => SC w P n0 n1 n2 n3 w') (fun W W' h hb => sc_next h hb) hS3 ((Below.refl _ _).alloc (Nat.le_refl _) _) | exact keep10p (X := fun w' => SC w P n0 n1 n2 n3 w') (fun h => sc_far h (by first | omega | (simp; omega)) (by first | omega | (simp; omega))) (by assumption) (by first | omega | (simp; omega))) (first | (go_at_call 44; refine (toSlot_any _ _ _ _ _).mono ?_; rintro e u1 ⟨rfl, hbk⟩; have hs1 := hbk.size; (try simp at hs1); have hq1 : ∀ b, b < _ → b < _ := fun b h => Nat.lt_of_lt_of_le h hbk.size; have hblk1 := hbk.block) | (go_at_call 45; refine (toMsg_any _ _ _ _ _ _ _).mono ?_; rintro e u2 ⟨rfl, hbk⟩; have hs2 := hbk.size; (try simp at hs2); have hq2 : ∀ b, b < _ → b < _ := fun b h => Nat.lt_of_lt_of_le h hbk.size; have hblk2 := hbk.block) | (go_at_call 33; refine (him _ ?_).mono ?_; exact tabS htab (by assumption); rintro e u3 ⟨tv, rfl, hbk, ht⟩; have hs3 := hbk.size; (try simp at hs3); have hq3 : ∀ b, b < _ → b < _ := fun b h => Nat.lt_of_lt_of_le h hbk.size; have hblk3 := hbk.block; have bel3 := belNext (by assumption) hbk; have hS3 := keep10 (X := fun w' => SC w P n0 n1 n2 n3 w') (fun W W' h hb => sc_next h hb) (by assumption) hbk; obtain rfl := told_none ht; clear ht; (first | (have hrow := (hblk3 u2.heap.size (by first | omega | (simp; omega) | simp)).trans (heap_alloc_new _ _); (try simp only [World.size_alloc] at hrow); obtain ⟨fr, r0, r1, r2, r3⟩ := row_facts hrow) | (have hrow := (hblk3 u1.heap.size (by first | omega | (simp; omega) | simp)).trans ((hblk2 u1.heap.size (by first | omega | (simp; omega) | simp)).trans (heap_alloc_new _ _)); (try simp only [World.size_alloc] at hrow); obtain ⟨fr, r0, r1, r2, r3⟩ := row_facts hrow) | (have hrow := (hblk3 wc.heap.size (by first | omega | (simp; omega) | simp)).trans ((hblk2 wc.heap.size (by first | omega | (simp; omega) | simp)).trans ((hblk1 wc.heap.size (by first | omega | (simp; omega) | simp)).trans (heap_alloc_new _ _))); (try simp only [World.size_alloc] at hrow); obtain ⟨fr, r0, r1, r2, r3⟩ := row_facts hrow) | skip)))
      all_goals (try go_wp2_with fail)
      all_goals go_meet
      all_goals rename_i hS
      all_goals refine ⟨_, rfl, rfl, rfl, hide ⟨⟨hS.1, hS.2.1, hS.2.2.1, hS.2.2.2.1, hS.2.2.2.2.1⟩, ⟨hS.2.2.2.2.2.1, hS.2.2.2.2.2.2.1, hS.2.2.2.2.2.2.2.1, hS.2.2.2.2.2.2.2.2.1, hS.2.2.2.2.2.2.2.2.2.1, hS.2.2.2.2.2.2.2.2.2.2.1⟩, hS.2.2.2.2.2.2.2.2.2.2.2, ?_, ?_⟩⟩
      all_goals first
        | (first | exact sc_here bel3 n0 n1 n2 n3 _ | exact sc_put4 bel3 (by first | omega | (simp; omega)) hrow n0 n1 n2 n3)
        | (first | omega | (simp; omega) | simp)
    case rest =>
      obtain ⟨Q, rfl, rfl, rfl, hH⟩ := hcut
      clear sl bx px hP2
      obtain ⟨sl, bx, px, qx, hP2⟩ := hH.out
      clear hH
      obtain ⟨_, g0, g1, g2, g3⟩ := id qx
      obtain ⟨_, e0, e1, e2, e3⟩ := id px
      go_wp2_with fail
      refine (eqSlot_same _ _ _ _ _).mono ?_
      rintro e w5 ⟨rfl, hb⟩
      clear g0 g1 g2 g3
      clear e0 e1 e2 e3
      clear qx
      replace bx := bx.next hb
      replace sl := sc_next sl hb
      replace px := sc_next px hb
      replace hP2 := Nat.lt_of_lt_of_le hP2 hb.size
      clear hb
      go_wp2_with fail
      refine (eqMsgS_none _).mono ?_
      rintro e w6 ⟨rfl, hb⟩
      replace bx := bx.next hb
      replace sl := sc_next sl hb
      replace px := sc_next px hb
      replace hP2 := Nat.lt_of_lt_of_le hP2 hb.size
      clear hb
      go_wp2_with fail
      refine (mark_none _).mono ?_
      rintro e w7 ⟨rfl, rfl⟩
      go_wp2_with fail
      refine (held_none _).mono ?_
      rintro e w8 ⟨rfl, rfl⟩
      go_wp2
      obtain ⟨_, c0, c1, c2, c3⟩ := id sl
      obtain ⟨x0, x1, x2, x3, x4, x5⟩ := id bx
      go_cut [13, 14, 15] (fun s5 s6 s7 wc => ∃ Z, s5 = .pointer (some ⟨Z, 0, none⟩) ∧ s6 = .slice none 0 0 ∧ s7 = .int .i64 c ∧ Hid (SC w w.heap.size st d wt v wc ∧ Box6 wc (w.heap.size + 1) mk mf mt ml mw md ∧ SC w P n0 n1 n2 n3 wc ∧ SC w Z n0 n1 n2 n3 wc))
      case first =>
        go_region_held3 (fun w' => Below w.heap.size w w' ∧ w'.cell? ⟨w.heap.size, 0, none⟩ = some (.int .i64 st) ∧ w'.cell? ⟨w.heap.size, 1, none⟩ = some (.int .i64 d) ∧ w'.cell? ⟨w.heap.size, 2, none⟩ = some (.int .i64 wt) ∧ w'.cell? ⟨w.heap.size, 3, none⟩ = some (.int .i64 v) ∧ w'.cell? ⟨w.heap.size + 1, 0, none⟩ = some (.int .i64 mk) ∧ w'.cell? ⟨w.heap.size + 1, 1, none⟩ = some (.int .i64 mf) ∧ w'.cell? ⟨w.heap.size + 1, 2, none⟩ = some (.int .i64 mt) ∧ w'.cell? ⟨w.heap.size + 1, 3, none⟩ = some (.int .i64 ml) ∧ w'.cell? ⟨w.heap.size + 1, 4, none⟩ = some (.int .i64 mw) ∧ w'.cell? ⟨w.heap.size + 1, 5, none⟩ = some (.int .i64 md) ∧ SC w P n0 n1 n2 n3 w') (first | exact ⟨sl.1.drew, c0, c1, c2, c3, x0, x1, x2, x3, x4, x5, sc_drew px⟩ | exact keep10 (X := fun w' => SC w P n0 n1 n2 n3 w') (fun W W' h hb => sc_next h hb) (by assumption) hbk | exact keep10 (X := fun w' => SC w P n0 n1 n2 n3 w') (fun W W' h hb => sc_next h hb) (by assumption) ((Below.refl _ _).alloc (Nat.le_refl _) _) | exact keep10 (X := fun w' => SC w P n0 n1 n2 n3 w') (fun W W' h hb => sc_next h hb) hS3 ((Below.refl _ _).alloc (Nat.le_refl _) _) | exact keep10p (X := fun w' => SC w P n0 n1 n2 n3 w') (fun h => sc_far h (by first | omega | (simp; omega)) (by first | omega | (simp; omega))) (by assumption) (by first | omega | (simp; omega))) (first | (go_at_call 44; refine (toSlot_any _ _ _ _ _).mono ?_; rintro e u1 ⟨rfl, hbk⟩; have hs1 := hbk.size; (try simp at hs1); have hq1 : ∀ b, b < _ → b < _ := fun b h => Nat.lt_of_lt_of_le h hbk.size; have hblk1 := hbk.block) | (go_at_call 45; refine (toMsg_any _ _ _ _ _ _ _).mono ?_; rintro e u2 ⟨rfl, hbk⟩; have hs2 := hbk.size; (try simp at hs2); have hq2 : ∀ b, b < _ → b < _ := fun b h => Nat.lt_of_lt_of_le h hbk.size; have hblk2 := hbk.block) | (go_at_call 33; refine (him _ ?_).mono ?_; exact tabS htab (by assumption); rintro e u3 ⟨tv, rfl, hbk, ht⟩; have hs3 := hbk.size; (try simp at hs3); have hq3 : ∀ b, b < _ → b < _ := fun b h => Nat.lt_of_lt_of_le h hbk.size; have hblk3 := hbk.block; have bel3 := belNext (by assumption) hbk; have hS3 := keep10 (X := fun w' => SC w P n0 n1 n2 n3 w') (fun W W' h hb => sc_next h hb) (by assumption) hbk; obtain rfl := told_none ht; clear ht; (first | (have hrow := (hblk3 u2.heap.size (by first | omega | (simp; omega) | simp)).trans (heap_alloc_new _ _); (try simp only [World.size_alloc] at hrow); obtain ⟨fr, r0, r1, r2, r3⟩ := row_facts hrow) | (have hrow := (hblk3 u1.heap.size (by first | omega | (simp; omega) | simp)).trans ((hblk2 u1.heap.size (by first | omega | (simp; omega) | simp)).trans (heap_alloc_new _ _)); (try simp only [World.size_alloc] at hrow); obtain ⟨fr, r0, r1, r2, r3⟩ := row_facts hrow) | (have hrow := (hblk3 w8.heap.size (by first | omega | (simp; omega) | simp)).trans ((hblk2 w8.heap.size (by first | omega | (simp; omega) | simp)).trans ((hblk1 w8.heap.size (by first | omega | (simp; omega) | simp)).trans (heap_alloc_new _ _))); (try simp only [World.size_alloc] at hrow); obtain ⟨fr, r0, r1, r2, r3⟩ := row_facts hrow) | skip)))
        all_goals (try go_wp2_with fail)
        all_goals go_meet
        all_goals rename_i hS
        all_goals refine ⟨_, rfl, rfl, rfl, hide ⟨⟨hS.1, hS.2.1, hS.2.2.1, hS.2.2.2.1, hS.2.2.2.2.1⟩, ⟨hS.2.2.2.2.2.1, hS.2.2.2.2.2.2.1, hS.2.2.2.2.2.2.2.1, hS.2.2.2.2.2.2.2.2.1, hS.2.2.2.2.2.2.2.2.2.1, hS.2.2.2.2.2.2.2.2.2.2.1⟩, hS.2.2.2.2.2.2.2.2.2.2.2, ?_⟩⟩
        all_goals (first | exact sc_here bel3 n0 n1 n2 n3 _ | exact sc_put4 bel3 (by first | omega | (simp; omega)) hrow n0 n1 n2 n3)
      case rest =>
        obtain ⟨Z, rfl, rfl, rfl, hH⟩ := hcut
        clear sl bx px
        obtain ⟨sl, bx, px, rx⟩ := hH.out
        clear hH
        obtain ⟨_, g0, g1, g2, g3⟩ := id rx
        obtain ⟨_, e0, e1, e2, e3⟩ := id px
        go_wp2_with fail
        refine (eqSlot_same _ _ _ _ _).mono ?_
        rintro e w9 ⟨rfl, hb⟩
        clear g0 g1 g2 g3
        clear e0 e1 e2 e3
        clear rx
        replace bx := bx.next hb
        replace sl := sc_next sl hb
        replace px := sc_next px hb
        clear hb
        go_wp2_with fail
        refine (eqMsgS_none _).mono ?_
        rintro e w10 ⟨rfl, hb⟩
        replace bx := bx.next hb
        replace sl := sc_next sl hb
        replace px := sc_next px hb
        clear hb
        go_wp2_with fail
        refine (held_none _).mono ?_
        rintro e w11 ⟨rfl, rfl⟩
        go_wp2
        go_ret
        exact ⟨rfl, sl.1⟩


end Go.Proofs.YtjhaloeahidplaaDoor
