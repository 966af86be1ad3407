/- laws.FnExactCoreGot walked (written by mkGot.py) -/
import Derived.Test.YtjhaloeahidplaaDoorSlX
import Derived.Test.YtjhaloeahidplaaDoorSlO
import Derived.Test.YtjhaloeahidplaaDoorMsgT
namespace Go.Proofs.YtjhaloeahidplaaDoor
open Go.RowKit
set_option linter.unusedVariables false
set_option linter.unusedSimpArgs false

set_option maxRecDepth 100000 in
set_option maxHeartbeats 40000000 in
theorem walk_one (st d wt v mk mf mt ml mw md : Int) (n0 n1 n2 n3 k dd c : Int) (w : World) (hk : ¬ k = 0) (htab : Tab w)
    (hsp : ∀ w, Calls Tryd.prog 34 #[slV st d wt v, .agg (six mk mf mt ml mw md)] w (Answers w ((n0, n1, n2, n3), k, dd, c) mt ml))
    (him : ∀ w, Tab w → Calls Tryd.prog 33 #[slV st d wt v, .agg (six mk mf mt ml mw md)] w (Answers w ((n0, n1, n2, n3), k, dd, c) mt ml)) :
    Calls Tryd.prog 8 #[slV st d wt v, .agg (six mk mf mt ml mw md)] w fun e w' => e = .returned (.bool true) ∧ Below w.heap.size w w' := by
  obtain ⟨sl, bx⟩ := two_start w st d wt v mk mf mt ml mw md
  go_enter Tryd.func8, Tryd.ntmps8
  go_wp2
  obtain ⟨_, c0, c1, c2, c3⟩ := id sl
  obtain ⟨x0, x1, x2, x3, x4, x5⟩ := id bx
  go_cut [5, 6, 7] (fun s5 s6 s7 wc => ∃ P A, s5 = .pointer (some ⟨P, 0, none⟩) ∧ s6 = .slice (some ⟨A, 0, none⟩) 1 1 ∧ s7 = .int .i64 c ∧ Hid (SC w w.heap.size st d wt v wc ∧ Box6 wc (w.heap.size + 1) mk mf mt ml mw md ∧ SC w P n0 n1 n2 n3 wc ∧ Holds6 wc A k mt 0 ml 0 dd ∧ (w.heap.size + 1 < P ∧ P < wc.heap.size ∧ w.heap.size + 1 < A ∧ A < wc.heap.size)))
  case first =>
    go_region_held3 (fun w' => Below w.heap.size w w' ∧ w'.cell? ⟨w.heap.size, 0, none⟩ = some (.int .i64 st) ∧ w'.cell? ⟨w.heap.size, 1, none⟩ = some (.int .i64 d) ∧ w'.cell? ⟨w.heap.size, 2, none⟩ = some (.int .i64 wt) ∧ w'.cell? ⟨w.heap.size, 3, none⟩ = some (.int .i64 v) ∧ w'.cell? ⟨w.heap.size + 1, 0, none⟩ = some (.int .i64 mk) ∧ w'.cell? ⟨w.heap.size + 1, 1, none⟩ = some (.int .i64 mf) ∧ w'.cell? ⟨w.heap.size + 1, 2, none⟩ = some (.int .i64 mt) ∧ w'.cell? ⟨w.heap.size + 1, 3, none⟩ = some (.int .i64 ml) ∧ w'.cell? ⟨w.heap.size + 1, 4, none⟩ = some (.int .i64 mw) ∧ w'.cell? ⟨w.heap.size + 1, 5, none⟩ = some (.int .i64 md) ∧ True) (first | exact ⟨sl.1.drew, c0, c1, c2, c3, x0, x1, x2, x3, x4, x5, trivial⟩ | exact keep10 (X := fun w' => True) (fun W W' h hb => trivial) (by assumption) hbk | exact keep10 (X := fun w' => True) (fun W W' h hb => trivial) (by assumption) ((Below.refl _ _).alloc (Nat.le_refl _) _) | exact keep10 (X := fun w' => True) (fun W W' h hb => trivial) hS3 ((Below.refl _ _).alloc (Nat.le_refl _) _) | exact keep10p (X := fun w' => True) (fun h => trivial) (by assumption) (by first | omega | (simp; omega))) (first | (go_at_call 44; refine (toSlot_any _ _ _ _ _).mono ?_; rintro e u1 ⟨rfl, hbk⟩; have hs1 := hbk.size; (try simp at hs1); have hblk1 := hbk.block) | (go_at_call 45; refine (toMsg_any _ _ _ _ _ _ _).mono ?_; rintro e u2 ⟨rfl, hbk⟩; have hs2 := hbk.size; (try simp at hs2); have hblk2 := hbk.block) | (go_at_call 34; refine (hsp _).mono ?_; rintro e u3 ⟨tv, rfl, hbk, ht⟩; have hs3 := hbk.size; (try simp at hs3); have hblk3 := hbk.block; have bel3 := belNext (by assumption) hbk; have hS3 := keep10 (X := fun w' => True) (fun W W' h hb => trivial) (by assumption) hbk; obtain ⟨A, hlA, rfl, hA⟩ := told_one ht hk; have ltA := hA.lt; (try simp at hlA); clear ht; (first | (have hrow := (hblk3 u2.heap.size (by first | omega | (simp; omega) | simp)).trans (heap_alloc_new _ _); (try simp only [World.size_alloc] at hrow); obtain ⟨fr, r0, r1, r2, r3⟩ := row_facts hrow) | (have hrow := (hblk3 u1.heap.size (by first | omega | (simp; omega) | simp)).trans ((hblk2 u1.heap.size (by first | omega | (simp; omega) | simp)).trans (heap_alloc_new _ _)); (try simp only [World.size_alloc] at hrow); obtain ⟨fr, r0, r1, r2, r3⟩ := row_facts hrow) | (have hrow := (hblk3 ((w.alloc (.cells #[.int .i64 st, .int .i64 d, .int .i64 wt, .int .i64 v] 62)).alloc (.cells #[.int .i64 mk, .int .i64 mf, .int .i64 mt, .int .i64 ml, .int .i64 mw, .int .i64 md] 63)).heap.size (by first | omega | (simp; omega) | simp)).trans ((hblk2 ((w.alloc (.cells #[.int .i64 st, .int .i64 d, .int .i64 wt, .int .i64 v] 62)).alloc (.cells #[.int .i64 mk, .int .i64 mf, .int .i64 mt, .int .i64 ml, .int .i64 mw, .int .i64 md] 63)).heap.size (by first | omega | (simp; omega) | simp)).trans ((hblk1 ((w.alloc (.cells #[.int .i64 st, .int .i64 d, .int .i64 wt, .int .i64 v] 62)).alloc (.cells #[.int .i64 mk, .int .i64 mf, .int .i64 mt, .int .i64 ml, .int .i64 mw, .int .i64 md] 63)).heap.size (by first | omega | (simp; omega) | simp)).trans (heap_alloc_new _ _))); (try simp only [World.size_alloc] at hrow); obtain ⟨fr, r0, r1, r2, r3⟩ := row_facts hrow) | skip)))
    all_goals (try go_wp2_with fail)
    all_goals go_meet
    all_goals rename_i hS
    all_goals refine ⟨_, _, rfl, rfl, rfl, hide ⟨⟨hS.1, hS.2.1, hS.2.2.1, hS.2.2.2.1, hS.2.2.2.2.1⟩, ⟨hS.2.2.2.2.2.1, hS.2.2.2.2.2.2.1, hS.2.2.2.2.2.2.2.1, hS.2.2.2.2.2.2.2.2.1, hS.2.2.2.2.2.2.2.2.2.1, hS.2.2.2.2.2.2.2.2.2.2.1⟩, ?_, ?_, ?_⟩⟩
    all_goals first
      | (first | exact sc_here bel3 n0 n1 n2 n3 _ | exact sc_put4 bel3 (by first | omega | (simp; omega)) hrow n0 n1 n2 n3)
      | (first | exact holds_alloc hA _ | exact hA.put4 (by first | omega | (simp; omega)) _ _ _ _)
      | (refine ⟨?_, ?_, ?_, ?_⟩ <;> first | omega | (simp; omega) | simp)
  case rest =>
    obtain ⟨P, A, rfl, rfl, rfl, hH⟩ := hcut
    obtain ⟨sl, bx, px, ax, hP1, hP2, hA1, hA2⟩ := hH.out
    clear hH
    go_wp2
    obtain ⟨_, c0, c1, c2, c3⟩ := id sl
    obtain ⟨x0, x1, x2, x3, x4, x5⟩ := id bx
    go_cut [8, 9, 10] (fun s5 s6 s7 wc => ∃ Q B, s5 = .pointer (some ⟨Q, 0, none⟩) ∧ s6 = .slice (some ⟨B, 0, none⟩) 1 1 ∧ s7 = .int .i64 c ∧ Hid (SC w w.heap.size st d wt v wc ∧ Box6 wc (w.heap.size + 1) mk mf mt ml mw md ∧ SC w P n0 n1 n2 n3 wc ∧ SC w Q n0 n1 n2 n3 wc ∧ Holds6 wc A k mt 0 ml 0 dd ∧ Holds6 wc B k mt 0 ml 0 dd ∧ (P < wc.heap.size ∧ A < wc.heap.size ∧ w.heap.size + 1 < B ∧ B ≠ P ∧ B ≠ A)))
    case first =>
      go_region_held3 (fun w' => Below w.heap.size w w' ∧ w'.cell? ⟨w.heap.size, 0, none⟩ = some (.int .i64 st) ∧ w'.cell? ⟨w.heap.size, 1, none⟩ = some (.int .i64 d) ∧ w'.cell? ⟨w.heap.size, 2, none⟩ = some (.int .i64 wt) ∧ w'.cell? ⟨w.heap.size, 3, none⟩ = some (.int .i64 v) ∧ w'.cell? ⟨w.heap.size + 1, 0, none⟩ = some (.int .i64 mk) ∧ w'.cell? ⟨w.heap.size + 1, 1, none⟩ = some (.int .i64 mf) ∧ w'.cell? ⟨w.heap.size + 1, 2, none⟩ = some (.int .i64 mt) ∧ w'.cell? ⟨w.heap.size + 1, 3, none⟩ = some (.int .i64 ml) ∧ w'.cell? ⟨w.heap.size + 1, 4, none⟩ = some (.int .i64 mw) ∧ w'.cell? ⟨w.heap.size + 1, 5, none⟩ = some (.int .i64 md) ∧ SC w P n0 n1 n2 n3 w' ∧ Holds6 w' A k mt 0 ml 0 dd) (first | exact ⟨sl.1.drew, c0, c1, c2, c3, x0, x1, x2, x3, x4, x5, sc_drew px, ax.drew⟩ | exact keep10 (X := fun w' => SC w P n0 n1 n2 n3 w' ∧ Holds6 w' A k mt 0 ml 0 dd) (fun W W' h hb => ⟨sc_next h.1 hb, h.2.next hb⟩) (by assumption) hbk | exact keep10 (X := fun w' => SC w P n0 n1 n2 n3 w' ∧ Holds6 w' A k mt 0 ml 0 dd) (fun W W' h hb => ⟨sc_next h.1 hb, h.2.next hb⟩) (by assumption) ((Below.refl _ _).alloc (Nat.le_refl _) _) | exact keep10 (X := fun w' => SC w P n0 n1 n2 n3 w' ∧ Holds6 w' A k mt 0 ml 0 dd) (fun W W' h hb => ⟨sc_next h.1 hb, h.2.next hb⟩) hS3 ((Below.refl _ _).alloc (Nat.le_refl _) _) | exact keep10p (X := fun w' => SC w P n0 n1 n2 n3 w' ∧ Holds6 w' A k mt 0 ml 0 dd) (fun h => ⟨sc_far h.1 (by first | omega | (simp; omega)) (by first | omega | (simp; omega)), h.2.put4 (by first | omega | (simp; omega)) _ _ _ _⟩) (by assumption) (by first | omega | (simp; omega))) (first | (go_at_call 44; refine (toSlot_any _ _ _ _ _).mono ?_; rintro e u1 ⟨rfl, hbk⟩; have hs1 := hbk.size; (try simp at hs1); have hblk1 := hbk.block) | (go_at_call 45; refine (toMsg_any _ _ _ _ _ _ _).mono ?_; rintro e u2 ⟨rfl, hbk⟩; have hs2 := hbk.size; (try simp at hs2); have hblk2 := hbk.block) | (go_at_call 33; refine (him _ ?_).mono ?_; exact tabS htab (by assumption); rintro e u3 ⟨tv, rfl, hbk, ht⟩; have hs3 := hbk.size; (try simp at hs3); have hblk3 := hbk.block; have bel3 := belNext (by assumption) hbk; have hS3 := keep10 (X := fun w' => SC w P n0 n1 n2 n3 w' ∧ Holds6 w' A k mt 0 ml 0 dd) (fun W W' h hb => ⟨sc_next h.1 hb, h.2.next hb⟩) (by assumption) hbk; obtain ⟨B, hlB, rfl, hB⟩ := told_one ht hk; have ltB := hB.lt; (try simp at hlB); clear ht; (first | (have hrow := (hblk3 u2.heap.size (by first | omega | (simp; omega) | simp)).trans (heap_alloc_new _ _); (try simp only [World.size_alloc] at hrow); obtain ⟨fr, r0, r1, r2, r3⟩ := row_facts hrow) | (have hrow := (hblk3 u1.heap.size (by first | omega | (simp; omega) | simp)).trans ((hblk2 u1.heap.size (by first | omega | (simp; omega) | simp)).trans (heap_alloc_new _ _)); (try simp only [World.size_alloc] at hrow); obtain ⟨fr, r0, r1, r2, r3⟩ := row_facts hrow) | (have hrow := (hblk3 wc.heap.size (by first | omega | (simp; omega) | simp)).trans ((hblk2 wc.heap.size (by first | omega | (simp; omega) | simp)).trans ((hblk1 wc.heap.size (by first | omega | (simp; omega) | simp)).trans (heap_alloc_new _ _))); (try simp only [World.size_alloc] at hrow); obtain ⟨fr, r0, r1, r2, r3⟩ := row_facts hrow) | skip)))
      all_goals (try go_wp2_with fail)
      all_goals go_meet
      all_goals rename_i hS
      all_goals refine ⟨_, _, rfl, rfl, rfl, hide ⟨⟨hS.1, hS.2.1, hS.2.2.1, hS.2.2.2.1, hS.2.2.2.2.1⟩, ⟨hS.2.2.2.2.2.1, hS.2.2.2.2.2.2.1, hS.2.2.2.2.2.2.2.1, hS.2.2.2.2.2.2.2.2.1, hS.2.2.2.2.2.2.2.2.2.1, hS.2.2.2.2.2.2.2.2.2.2.1⟩, hS.2.2.2.2.2.2.2.2.2.2.2.1, ?_, hS.2.2.2.2.2.2.2.2.2.2.2.2, ?_, ?_⟩⟩
      all_goals first
        | (first | exact sc_here bel3 n0 n1 n2 n3 _ | exact sc_put4 bel3 (by first | omega | (simp; omega)) hrow n0 n1 n2 n3)
        | (first | exact holds_alloc hB _ | exact hB.put4 (by first | omega | (simp; omega)) _ _ _ _)
        | (refine ⟨?_, ?_, ?_, ?_, ?_⟩ <;> first | omega | (simp; omega) | simp)
    case rest =>
      obtain ⟨Q, B, rfl, rfl, rfl, hH⟩ := hcut
      clear sl bx px ax hP2 hA2
      obtain ⟨sl, bx, px, qx, ax, bx2, hP2, hA2, hB1, hBP, hBA⟩ := hH.out
      have HBB := hide (And.intro hBP hBA)
      clear hBP hBA
      clear hH
      obtain ⟨_, g0, g1, g2, g3⟩ := id qx
      obtain ⟨_, e0, e1, e2, e3⟩ := id px
      go_wp2_with fail
      refine (eqSlot_same _ _ _ _ _).mono ?_
      rintro e w5 ⟨rfl, hb⟩
      clear g0 g1 g2 g3
      clear e0 e1 e2 e3
      clear qx
      replace bx := bx.next hb
      replace sl := sc_next sl hb
      replace px := sc_next px hb
      replace ax := ax.next hb
      replace bx2 := bx2.next hb
      replace hP2 := Nat.lt_of_lt_of_le hP2 hb.size
      replace hA2 := Nat.lt_of_lt_of_le hA2 hb.size
      clear hb
      go_wp2_with fail
      refine (eqMsgS_one B A _ _ _ _ _ _ _ bx2 ax).mono ?_
      rintro e w6 ⟨rfl, hb⟩
      replace bx := bx.next hb
      replace sl := sc_next sl hb
      replace px := sc_next px hb
      replace ax := ax.next hb
      replace bx2 := bx2.next hb
      replace hP2 := Nat.lt_of_lt_of_le hP2 hb.size
      replace hA2 := Nat.lt_of_lt_of_le hA2 hb.size
      clear hb
      go_wp2_with fail
      refine (mark_one B _ _ _ _ _ _ _ bx2).mono ?_
      rintro e w7 ⟨rfl, rfl⟩
      replace sl := sl.mark (B := B) (by omega) (by omega)
      replace px := px.mark (B := B) (by omega) (Ne.symm HBB.out.1)
      replace bx := bx.mark (B := B) (by omega)
      replace ax := marked_other (B := B) ax (Ne.symm HBB.out.2)
      replace bx2 := marked_self bx2
      have hzz : (marked w6 B).heap.size = w6.heap.size := by simp [marked]
      rw [← hzz] at hP2 hA2
      clear hzz
      generalize marked w6 B = w7 at sl px bx ax bx2 hP2 hA2 ⊢
      go_wp2_with fail
      refine (held_one B _ bx2).mono ?_
      rintro e w8 ⟨rfl, rfl⟩
      go_wp2
      have hB2 := bx2.lt
      obtain ⟨_, c0, c1, c2, c3⟩ := id sl
      obtain ⟨x0, x1, x2, x3, x4, x5⟩ := id bx
      go_cut [13, 14, 15] (fun s5 s6 s7 wc => ∃ Z C, s5 = .pointer (some ⟨Z, 0, none⟩) ∧ s6 = .slice (some ⟨C, 0, none⟩) 1 1 ∧ s7 = .int .i64 c ∧ Hid (SC w w.heap.size st d wt v wc ∧ Box6 wc (w.heap.size + 1) mk mf mt ml mw md ∧ SC w P n0 n1 n2 n3 wc ∧ SC w Z n0 n1 n2 n3 wc ∧ Holds6 wc A k mt 0 ml 0 dd ∧ Holds6 wc B 1 2 3 4 5 6 ∧ Holds6 wc C k mt 0 ml 0 dd))
      case first =>
        go_region_held3 (fun w' => Below w.heap.size w w' ∧ w'.cell? ⟨w.heap.size, 0, none⟩ = some (.int .i64 st) ∧ w'.cell? ⟨w.heap.size, 1, none⟩ = some (.int .i64 d) ∧ w'.cell? ⟨w.heap.size, 2, none⟩ = some (.int .i64 wt) ∧ w'.cell? ⟨w.heap.size, 3, none⟩ = some (.int .i64 v) ∧ w'.cell? ⟨w.heap.size + 1, 0, none⟩ = some (.int .i64 mk) ∧ w'.cell? ⟨w.heap.size + 1, 1, none⟩ = some (.int .i64 mf) ∧ w'.cell? ⟨w.heap.size + 1, 2, none⟩ = some (.int .i64 mt) ∧ w'.cell? ⟨w.heap.size + 1, 3, none⟩ = some (.int .i64 ml) ∧ w'.cell? ⟨w.heap.size + 1, 4, none⟩ = some (.int .i64 mw) ∧ w'.cell? ⟨w.heap.size + 1, 5, none⟩ = some (.int .i64 md) ∧ SC w P n0 n1 n2 n3 w' ∧ Holds6 w' A k mt 0 ml 0 dd ∧ Holds6 w' B 1 2 3 4 5 6) (first | exact ⟨sl.1.drew, c0, c1, c2, c3, x0, x1, x2, x3, x4, x5, sc_drew px, ax.drew, bx2.drew⟩ | exact keep10 (X := fun w' => SC w P n0 n1 n2 n3 w' ∧ Holds6 w' A k mt 0 ml 0 dd ∧ Holds6 w' B 1 2 3 4 5 6) (fun W W' h hb => ⟨sc_next h.1 hb, h.2.1.next hb, h.2.2.next hb⟩) (by assumption) hbk | exact keep10 (X := fun w' => SC w P n0 n1 n2 n3 w' ∧ Holds6 w' A k mt 0 ml 0 dd ∧ Holds6 w' B 1 2 3 4 5 6) (fun W W' h hb => ⟨sc_next h.1 hb, h.2.1.next hb, h.2.2.next hb⟩) (by assumption) ((Below.refl _ _).alloc (Nat.le_refl _) _) | exact keep10 (X := fun w' => SC w P n0 n1 n2 n3 w' ∧ Holds6 w' A k mt 0 ml 0 dd ∧ Holds6 w' B 1 2 3 4 5 6) (fun W W' h hb => ⟨sc_next h.1 hb, h.2.1.next hb, h.2.2.next hb⟩) hS3 ((Below.refl _ _).alloc (Nat.le_refl _) _) | exact keep10p (X := fun w' => SC w P n0 n1 n2 n3 w' ∧ Holds6 w' A k mt 0 ml 0 dd ∧ Holds6 w' B 1 2 3 4 5 6) (fun h => ⟨sc_far h.1 (by first | omega | (simp; omega)) (by first | omega | (simp; omega)), h.2.1.put4 (by first | omega | (simp; omega)) _ _ _ _, h.2.2.put4 (by first | omega | (simp; omega)) _ _ _ _⟩) (by assumption) (by first | omega | (simp; omega))) (first | (go_at_call 44; refine (toSlot_any _ _ _ _ _).mono ?_; rintro e u1 ⟨rfl, hbk⟩; have hs1 := hbk.size; (try simp at hs1); have hblk1 := hbk.block) | (go_at_call 45; refine (toMsg_any _ _ _ _ _ _ _).mono ?_; rintro e u2 ⟨rfl, hbk⟩; have hs2 := hbk.size; (try simp at hs2); have hblk2 := hbk.block) | (go_at_call 33; refine (him _ ?_).mono ?_; exact tabS htab (by assumption); rintro e u3 ⟨tv, rfl, hbk, ht⟩; have hs3 := hbk.size; (try simp at hs3); have hblk3 := hbk.block; have bel3 := belNext (by assumption) hbk; have hS3 := keep10 (X := fun w' => SC w P n0 n1 n2 n3 w' ∧ Holds6 w' A k mt 0 ml 0 dd ∧ Holds6 w' B 1 2 3 4 5 6) (fun W W' h hb => ⟨sc_next h.1 hb, h.2.1.next hb, h.2.2.next hb⟩) (by assumption) hbk; obtain ⟨C, hlC, rfl, hC⟩ := told_one ht hk; have ltC := hC.lt; (try simp at hlC); clear ht; (first | (have hrow := (hblk3 u2.heap.size (by first | omega | (simp; omega) | simp)).trans (heap_alloc_new _ _); (try simp only [World.size_alloc] at hrow); obtain ⟨fr, r0, r1, r2, r3⟩ := row_facts hrow) | (have hrow := (hblk3 u1.heap.size (by first | omega | (simp; omega) | simp)).trans ((hblk2 u1.heap.size (by first | omega | (simp; omega) | simp)).trans (heap_alloc_new _ _)); (try simp only [World.size_alloc] at hrow); obtain ⟨fr, r0, r1, r2, r3⟩ := row_facts hrow) | (have hrow := (hblk3 w8.heap.size (by first | omega | (simp; omega) | simp)).trans ((hblk2 w8.heap.size (by first | omega | (simp; omega) | simp)).trans ((hblk1 w8.heap.size (by first | omega | (simp; omega) | simp)).trans (heap_alloc_new _ _))); (try simp only [World.size_alloc] at hrow); obtain ⟨fr, r0, r1, r2, r3⟩ := row_facts hrow) | skip)))
        all_goals (try go_wp2_with fail)
        all_goals go_meet
        all_goals rename_i hS
        all_goals refine ⟨_, _, rfl, rfl, rfl, hide ⟨⟨hS.1, hS.2.1, hS.2.2.1, hS.2.2.2.1, hS.2.2.2.2.1⟩, ⟨hS.2.2.2.2.2.1, hS.2.2.2.2.2.2.1, hS.2.2.2.2.2.2.2.1, hS.2.2.2.2.2.2.2.2.1, hS.2.2.2.2.2.2.2.2.2.1, hS.2.2.2.2.2.2.2.2.2.2.1⟩, hS.2.2.2.2.2.2.2.2.2.2.2.1, ?_, hS.2.2.2.2.2.2.2.2.2.2.2.2.1, hS.2.2.2.2.2.2.2.2.2.2.2.2.2, ?_⟩⟩
        all_goals first
          | (first | exact sc_here bel3 n0 n1 n2 n3 _ | exact sc_put4 bel3 (by first | omega | (simp; omega)) hrow n0 n1 n2 n3)
          | (first | exact holds_alloc hC _ | exact hC.put4 (by first | omega | (simp; omega)) _ _ _ _)
      case rest =>
        obtain ⟨Z, C, rfl, rfl, rfl, hH⟩ := hcut
        clear sl bx px ax bx2
        obtain ⟨sl, bx, px, rx, ax, bx2, cx⟩ := hH.out
        clear hH
        obtain ⟨_, g0, g1, g2, g3⟩ := id rx
        obtain ⟨_, e0, e1, e2, e3⟩ := id px
        go_wp2_with fail
        refine (eqSlot_same _ _ _ _ _).mono ?_
        rintro e w9 ⟨rfl, hb⟩
        clear g0 g1 g2 g3
        clear e0 e1 e2 e3
        clear rx
        replace bx := bx.next hb
        replace sl := sc_next sl hb
        replace px := sc_next px hb
        replace ax := ax.next hb
        replace bx2 := bx2.next hb
        replace cx := cx.next hb
        clear hb
        go_wp2_with fail
        refine (eqMsgS_one C A _ _ _ _ _ _ _ cx ax).mono ?_
        rintro e w10 ⟨rfl, hb⟩
        replace bx := bx.next hb
        replace sl := sc_next sl hb
        replace px := sc_next px hb
        replace ax := ax.next hb
        replace bx2 := bx2.next hb
        replace cx := cx.next hb
        clear hb
        go_wp2_with fail
        refine (held_one B _ bx2).mono ?_
        rintro e w11 ⟨rfl, rfl⟩
        go_wp2
        go_ret
        exact ⟨rfl, sl.1⟩


end Go.Proofs.YtjhaloeahidplaaDoor
