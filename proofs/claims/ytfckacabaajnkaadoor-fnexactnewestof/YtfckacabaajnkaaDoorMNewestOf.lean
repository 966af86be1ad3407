/- the walk of laws.FnExactNewestOf -/
import Derived.Test.YtfckacabaajnkaaDoorMsM
import Derived.Test.YtfckacabaajnkaaDoorNwC
namespace Go.Proofs.YtfckacabaajnkaaDoor
open Go.RowKit
set_option linter.unusedVariables false
set_option linter.unusedSimpArgs false

set_option maxHeartbeats 4000000 in
theorem walkNewestOf (sa : Option Addr) (C sc : Nat) (la : Option Addr) (N lc : Nat) (qa : Option Addr) (n qc : Nat) (L : Nat → Nat) (F : Nat → Nat → Nat → Int) (G : Nat → LnD) (f : Nat → Nat → Int) (i : Int) (w : World) (ht : Tab w) (hs : Ss w (.slice sa C sc) C L F) (hl : Ls w (.slice la N lc) N G) (hq : Sr w (.slice qa n qc) 6 n f)
    (hC : (C : Int) ≤ 9223372036854775807) (hL : ∀ c, c < C → (L c : Int) ≤ 9223372036854775807) (hN : (N : Int) ≤ 9223372036854775807) (hG : ∀ c, c < N → ((G c).zs.length : Int) ≤ 9223372036854775807 ∧ ((G c).qn : Int) ≤ 9223372036854775807) (hn : (n : Int) ≤ 9223372036854775807) :
    Calls Tryd.prog 5 #[.agg (mc3 (.slice sa C sc) (.slice la N lc) (.slice qa n qc)), .int .i64 i] w fun e w' => e = .returned (.bool true) ∧ Below w.heap.size w w' := by
  have ma := mb_box w (.slice sa C sc) (.slice la N lc) (.slice qa n qc) 26
  go_enter Tryd.func5, Tryd.ntmps5
  go_wp2_with fail
  refine (szMachine_any _ _ qa n qc C N L F G _ (hs.below ma.1) (hl.below ma.1) hC hL hN hG hn).mono ?_
  rintro e w1 ⟨r, rfl, hr, hb⟩
  replace ma := ma.next hb
  clear hb hC hL hN hG hn
  by_cases hr0 : r < 0
  · clear hr
    go_wp2
    go_ret
    exact ⟨rfl, ma.1⟩
  · obtain ⟨⟨hC, hL⟩, ⟨hN, hG⟩, hn⟩ := hr (by omega)
    have hrr : decide (r < 0) = false := by simp; omega
    clear hr
    obtain ⟨_, a0, a1, a2⟩ := id ma
    have hsp := fun w g1 g2 g3 h1 h2 h3 => specNewest_any (some ⟨g1, 0, none⟩) C C (some ⟨g2, 0, none⟩) N N (some ⟨g3, 0, none⟩) n n L F G f i w h1 h2 h3 hC hL hN hG hn
    have him := fun w ht g1 g2 g3 h1 h2 h3 => implNewest_any (some ⟨g1, 0, none⟩) C C (some ⟨g2, 0, none⟩) N N (some ⟨g3, 0, none⟩) n n L F G f i w ht h1 h2 h3 hC hL hN hG hn
    generalize nvI C L F N G n f i = y at hsp him
    generalize nvB C L F N G n f i = z at hsp him
    have HT := hide (And.intro hs (And.intro hl (And.intro hq ht)))
    have HSP := hide hsp
    have HIM := hide him
    clear hs hl hq ht hsp him
    go_wp2_with fail
    refine (toMachine_any _ _ _ C N n L F G f _ (HT.out.1.below ma.1) (HT.out.2.1.below ma.1) (HT.out.2.2.1.below ma.1) hC hL hN hG hn).mono ?_
    rintro e w2 ⟨h1, h2, h3, rfl, s1, l1, q1, hb⟩
    replace ma := ma.next hb
    clear hb a0 a1 a2
    go_wp2_with fail
    refine (HSP.out _ _ _ _ s1 l1 q1).mono ?_
    rintro e w2' ⟨rfl, hb⟩
    replace ma := ma.next hb
    clear hb s1 l1 q1 HSP
    obtain ⟨_, a0, a1, a2⟩ := id ma
    go_wp2_with fail
    refine (toMachine_any _ _ _ C N n L F G f _ (HT.out.1.below ma.1) (HT.out.2.1.below ma.1) (HT.out.2.2.1.below ma.1) hC hL hN hG hn).mono ?_
    rintro e w3 ⟨g1, g2, g3, rfl, s2, l2, q2, hb⟩
    replace ma := ma.next hb
    have mx := mb_here ma.1 (full g1 C) (full g2 N) (full g3 n) 34
    have hbx : Below w3.heap.size w3 (w3.alloc (.cells (mc3 (full g1 C) (full g2 N) (full g3 n)) 34)) := (Below.refl _ _).alloc (Nat.le_refl _) _
    replace ma := ma.next hbx
    replace s2 := s2.below hbx
    replace l2 := l2.below hbx
    replace q2 := q2.below hbx
    clear hb hbx a0 a1 a2
    obtain ⟨_, x0, x1, x2⟩ := id mx
    go_wp2_with fail
    refine (HIM.out _ (HT.out.2.2.2.below mx.1) _ _ _ s2 l2 q2).mono ?_
    rintro e w4 ⟨rfl, hb⟩
    replace ma := ma.next hb
    replace mx := mx.next hb
    replace s2 := s2.below hb
    replace l2 := l2.below hb
    replace q2 := q2.below hb
    clear hb HIM x0 x1 x2
    obtain ⟨_, a0, a1, a2⟩ := id ma
    obtain ⟨_, x0, x1, x2⟩ := id mx
    have hzz : (z != z) = false := by simp
    have hyy : (y != y) = false := by simp
    have HX := hide (And.intro s2 (And.intro l2 q2))
    clear s2 l2 q2
    go_wp2
    go_region_held3 (fun w' => Below w.heap.size w w' ∧ w'.cell? ⟨w3.heap.size, 0, none⟩ = some (full g1 C) ∧ w'.cell? ⟨w3.heap.size, 1, none⟩ = some (full g2 N) ∧ w'.cell? ⟨w3.heap.size, 2, none⟩ = some (full g3 n) ∧ w'.cell? ⟨w.heap.size, 0, none⟩ = some (.slice sa C sc) ∧ w'.cell? ⟨w.heap.size, 1, none⟩ = some (.slice la N lc) ∧ w'.cell? ⟨w.heap.size, 2, none⟩ = some (.slice qa n qc)) (first | exact ⟨ma.1.drew, x0, x1, x2, a0, a1, a2⟩ | exact keepM6 (by assumption) hbk) (first | (go_at_call 10; refine (toMachine_any _ _ _ C N n L F G f _ ?_ ?_ ?_ hC hL hN hG hn).mono ?_; exact HT.out.1.below ma.1.drew; exact HT.out.2.1.below ma.1.drew; exact HT.out.2.2.1.below ma.1.drew; rintro e w5 ⟨g4, g5, g6, rfl, s3, l3, q3, hbk⟩; have HY := hide (And.intro ((Ss.drewM HX.out.1).below hbk) (And.intro s3 (And.intro ((Ls.drewM HX.out.2.1).below hbk) (And.intro l3 (And.intro ((Sr.drewM HX.out.2.2).below hbk) q3))))); clear s3 l3 q3) | (go_at_call 13; refine (eqMachine_same _ _ _ _ _ _ C N n L F G f _ ?_ ?_ ?_ ?_ ?_ ?_ hC hL hN hG hn).mono ?_; exact HY.out.1; exact HY.out.2.1; exact HY.out.2.2.1; exact HY.out.2.2.2.1; exact HY.out.2.2.2.2.1; exact HY.out.2.2.2.2.2; rintro e w6 ⟨rfl, hbk⟩))
    all_goals go_wp2
    all_goals go_ret
    rename_i hH
    exact ⟨rfl, hH.1⟩

end Go.Proofs.YtfckacabaajnkaaDoor
