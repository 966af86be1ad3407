/- the walk of laws.FnExactSharersOf (written by mkMkW.py) -/
import Derived.Test.YtfckacabaajnkaaDoorMsM
import Derived.Test.YtfckacabaajnkaaDoorMkE
import Derived.Test.YtfckacabaajnkaaDoorFM
namespace Go.Proofs.YtfckacabaajnkaaDoor
open Go.RowKit
set_option linter.unusedVariables false
set_option linter.unusedSimpArgs false

set_option maxHeartbeats 8000000 in
theorem walkSharersOf (sa : Option Addr) (C sc : Nat) (la : Option Addr) (N lc : Nat) (qa : Option Addr) (n qc : Nat) (L : Nat → Nat) (F : Nat → Nat → Nat → Int) (G : Nat → LnD) (f : Nat → Nat → Int) (i : Int) (w : World) (ht : Tab w) (hs : Ss w (.slice sa C sc) C L F) (hl : Ls w (.slice la N lc) N G) (hq : Sr w (.slice qa n qc) 6 n f)
    (hC : (C : Int) ≤ 9223372036854775807) (hL : ∀ c, c < C → (L c : Int) ≤ 9223372036854775807) (hN : (N : Int) ≤ 9223372036854775807) (hG : ∀ c, c < N → ((G c).zs.length : Int) ≤ 9223372036854775807 ∧ ((G c).qn : Int) ≤ 9223372036854775807) (hn : (n : Int) ≤ 9223372036854775807) :
    Calls Tryd.prog 4 #[.agg (mc3 (.slice sa C sc) (.slice la N lc) (.slice qa n qc)), .int .i64 i] w fun e w' => e = .returned (.bool true) ∧ Below w.heap.size w w' := by
  have ma := mb_box w (.slice sa C sc) (.slice la N lc) (.slice qa n qc) 26
  have hsz1 : w.heap.size < (w.alloc (.cells (mc3 (.slice sa C sc) (.slice la N lc) (.slice qa n qc)) 26)).heap.size := by simp
  go_enter Tryd.func4, Tryd.ntmps4
  go_wp2_with fail
  refine (szMachine_any _ _ qa n qc C N L F G _ (hs.below ma.1) (hl.below ma.1) hC hL hN hG hn).mono ?_
  rintro e w1 ⟨r, rfl, hr, hb⟩
  replace ma := ma.next hb
  have HSZ : Hid (w.heap.size < w1.heap.size) := hide (Nat.lt_of_lt_of_le hsz1 hb.size)
  clear hb hC hL hN hG hn hsz1
  by_cases hr0 : r < 0
  · clear hr
    go_wp2
    go_ret
    exact ⟨rfl, ma.1⟩
  · obtain ⟨⟨hC, hL⟩, ⟨hN, hG⟩, hn⟩ := hr (by omega)
    have hrr : decide (r < 0) = false := by simp; omega
    clear hr
    obtain ⟨_, a0, a1, a2⟩ := id ma
    have hsp := fun w g1 g2 g3 h1 h2 h3 => specSharersOf_any (some ⟨g1, 0, none⟩) C C (some ⟨g2, 0, none⟩) N N (some ⟨g3, 0, none⟩) n n L F G f i w h1 h2 h3 hC hL hN hG hn
    have him := fun w ht g1 g2 g3 h1 h2 h3 => implSharersOf_any (some ⟨g1, 0, none⟩) C C (some ⟨g2, 0, none⟩) N N (some ⟨g3, 0, none⟩) n n L F G f i w ht h1 h2 h3 hC hL hN hG hn
    have hRl : (csL 1 C L F N G n f i).length ≤ 5 := csL_le
    generalize csL 1 C L F N G n f i = R at hsp him hRl
    have HT := hide (And.intro hs (And.intro hl (And.intro hq ht)))
    have HSP := hide hsp
    have HIM := hide him
    clear hs hl hq ht hsp him
    go_wp2_with fail
    refine (toMachine_any _ _ _ C N n L F G f _ (HT.out.1.below ma.1) (HT.out.2.1.below ma.1) (HT.out.2.2.1.below ma.1) hC hL hN hG hn).mono ?_
    rintro e w2 ⟨h1, h2, h3, rfl, s1, l1, q1, hb⟩
    replace ma := ma.next hb
    replace HSZ : Hid (w.heap.size < w2.heap.size) := hide (Nat.lt_of_lt_of_le HSZ.out hb.size)
    clear hb a0 a1 a2
    go_wp2_with fail
    refine (HSP.out _ _ _ _ s1 l1 q1).mono ?_
    rintro e w2' ⟨p, rfl, hp, hb⟩
    replace ma := ma.next hb
    replace HSZ : Hid (w.heap.size < w2'.heap.size) := hide (Nat.lt_of_lt_of_le HSZ.out hb.size)
    have HPL : Hid (∀ k, p.ownBlock = some k → k < w2'.heap.size) := hide (fun k hk => (World.ownsRow.lt hp k hk).2)
    clear hb s1 l1 q1 HSP
    obtain ⟨_, a0, a1, a2⟩ := id ma
    go_wp2_with fail
    refine (toMachine_own _ _ _ C N n L F G f _ (HT.out.1.below ma.1) (HT.out.2.1.below ma.1) (HT.out.2.2.1.below ma.1) hC hL hN hG hn).mono ?_
    rintro e w3 ⟨g1, g2, g3, E1, rfl, s2, l2, q2, hmk, hb⟩
    replace ma := ma.next hb
    replace hp := hp.below hb
    have HZ3 := hide hb.size
    have mx := mb_here ma.1 (full g1 C) (full g2 N) (full g3 n) 34
    have hbx : Below w3.heap.size w3 (w3.alloc (.cells (mc3 (full g1 C) (full g2 N) (full g3 n)) 34)) := (Below.refl _ _).alloc (Nat.le_refl _) _
    replace ma := ma.next hbx
    replace hp := hp.below hbx
    replace s2 := s2.below hbx
    replace l2 := l2.below hbx
    replace q2 := q2.below hbx
    -- what is marked later
    have HMK : Hid (∀ W, Below (w3.alloc (.cells (mc3 (full g1 C) (full g2 N) (full g3 n)) 34)).heap.size (w3.alloc (.cells (mc3 (full g1 C) (full g2 N) (full g3 n)) 34)) W → MSs W g1 E1 C L ∧ MLs W g2 w3.heap.size N (fun c => (G c).zs.length) (fun c => (G c).qn) ∧ Wc W g3 (n * 6) ∧ E1 ≤ g2 ∧ (w2'.heap.size ≤ g1 ∧ w2'.heap.size ≤ g2 ∧ w2'.heap.size ≤ g3) ∧ (g2 < w3.heap.size ∧ g3 < w3.heap.size) ∧ w3.heap.size < W.heap.size) := by
      refine hide fun W hW => ?_
      obtain ⟨m1, m2, m3, m4, m5, m6, m7⟩ := hmk
      have c1 := Chg.of_below hbx
      have c2 := Chg.of_below hW
      refine ⟨(m1.chg c1 id).chg c2 id, (m2.chg c1 id).chg c2 id, c2.keep _ _ (c1.keep _ _ m3), m4, ⟨m5, m6, m7⟩, ⟨m2.1.lt, m3.lt⟩, ?_⟩
      have := hW.size
      rw [World.size_alloc] at this
      omega
    have HX3 : Hid ((w3.alloc (.cells (mc3 (full g1 C) (full g2 N) (full g3 n)) 34)).heap.size = w3.heap.size + 1) := hide (by simp)
    clear hb hbx a0 a1 a2 hmk
    obtain ⟨_, x0, x1, x2⟩ := id mx
    generalize hWX : w3.alloc (.cells (mc3 (full g1 C) (full g2 N) (full g3 n)) 34) = wX at *
    go_wp2_with fail
    try rw [hWX]
    clear hWX
    refine (HIM.out _ (HT.out.2.2.2.below mx.1) _ _ _ s2 l2 q2).mono ?_
    rintro e w4 ⟨gv, rfl, hg, hb⟩
    replace ma := ma.next hb
    replace mx := mx.next hb
    replace hp := hp.below hb
    replace s2 := s2.below hb
    replace l2 := l2.below hb
    replace q2 := q2.below hb
    have HXB : Hid (Below wX.heap.size wX w4) := hide hb
    clear hb x0 x1 x2
    go_wp2_with fail
    refine (eq_same gv p R _ hg.sl hp.sl (by omega)).mono ?_
    rintro e w5 ⟨rfl, hb⟩
    replace ma := ma.next hb
    replace mx := mx.next hb
    replace hp := hp.below hb
    replace hg := hg.below hb
    replace s2 := s2.below hb
    replace l2 := l2.below hb
    replace q2 := q2.below hb
    replace HXB : Hid (Below wX.heap.size wX w5) := hide (HXB.out.trans (hb.mono HXB.out.size))
    clear hb
    obtain ⟨_, a0, a1, a2⟩ := id ma
    obtain ⟨_, x0, x1, x2⟩ := id mx
    have HX := hide (And.intro s2 (And.intro l2 q2))
    have HPG := hide (And.intro hp hg)
    have HMA := hide ma
    clear s2 l2 q2 hp hg ma mx
    go_wp2
    go_region_held3 (fun w' => Below w5.heap.size w5 w' ∧ w'.cell? ⟨w3.heap.size, 0, none⟩ = some (full g1 C) ∧ w'.cell? ⟨w3.heap.size, 1, none⟩ = some (full g2 N) ∧ w'.cell? ⟨w3.heap.size, 2, none⟩ = some (full g3 n) ∧ w'.cell? ⟨w.heap.size, 0, none⟩ = some (.slice sa C sc) ∧ w'.cell? ⟨w.heap.size, 1, none⟩ = some (.slice la N lc) ∧ w'.cell? ⟨w.heap.size, 2, none⟩ = some (.slice qa n qc)) (first | exact ⟨(Below.refl _ _).drew, x0, x1, x2, a0, a1, a2⟩ | exact keepM6 (by assumption) hbk) (first | (go_at_call 10; refine (toMachine_any _ _ _ C N n L F G f _ ?_ ?_ ?_ hC hL hN hG hn).mono ?_; exact HT.out.1.below HMA.out.1.drew; exact HT.out.2.1.below HMA.out.1.drew; exact HT.out.2.2.1.below HMA.out.1.drew; rintro e w5' ⟨g4, g5, g6, rfl, s3, l3, q3, hbk⟩; have HY := hide (And.intro ((Ss.drewM HX.out.1).below hbk) (And.intro s3 (And.intro ((Ls.drewM HX.out.2.1).below hbk) (And.intro l3 (And.intro ((Sr.drewM HX.out.2.2).below hbk) q3))))); clear s3 l3 q3) | (go_at_call 13; refine (eqMachine_same _ _ _ _ _ _ C N n L F G f _ ?_ ?_ ?_ ?_ ?_ ?_ hC hL hN hG hn).mono ?_; exact HY.out.1; exact HY.out.2.1; exact HY.out.2.2.1; exact HY.out.2.2.2.1; exact HY.out.2.2.2.2.1; exact HY.out.2.2.2.2.2; rintro e w6 ⟨rfl, hbk⟩))
    rename_i hH
    obtain ⟨hB5, y0, y1, y2, b0, b1, b2⟩ := hH
    have hp6 := HPG.out.1.below hB5
    have hg6 := HPG.out.2.below hB5
    have HB6 : Hid (Below w.heap.size w w6) := hide (HMA.out.1.trans (hB5.mono HMA.out.1.size))
    obtain ⟨m1, m2, m3, m4, ⟨m5, m6, m7⟩, ⟨m8, m9⟩, m10⟩ := HMK.out _ (HXB.out.trans (hB5.mono HXB.out.size))
    have hMM := markMachine_any g1 g2 g3 w2'.heap.size E1 w3.heap.size C N n L _ _ w6 m1 m2 m3 m5 ⟨m4, m6, m8⟩ ⟨m7, m9⟩ (Nat.le_of_lt m10) hC hL hN hG hn
    clear HX HPG HMA HXB HMK m1 m2 m3 m4 m5 m6 m7 m8 m9 hB5 a0 a1 a2 x0 x1 x2
    go_wp2_with fail
    refine hMM.mono ?_
    rintro e w7 ⟨k1, rfl, hk1, hch⟩
    have hp7 := ow_chg hp6 hch (fun k hk h => by have h : w2'.heap.size ≤ k ∧ k < w3.heap.size := h; have := HPL.out k hk; omega)
    have hg7 := ow_chg hg6 hch (fun k hk h => by have h : w2'.heap.size ≤ k ∧ k < w3.heap.size := h; have := (World.ownsRow.lt hg6 k hk).1; have z3 := HX3.out; omega)
    have a0 := hch.cell (fun h => by have h : w2'.heap.size ≤ w.heap.size ∧ w.heap.size < w3.heap.size := h; have z1 := HSZ.out; omega) b0
    have a1 := hch.cell (fun h => by have h : w2'.heap.size ≤ w.heap.size ∧ w.heap.size < w3.heap.size := h; have z1 := HSZ.out; omega) b1
    have a2 := hch.cell (fun h => by have h : w2'.heap.size ≤ w.heap.size ∧ w.heap.size < w3.heap.size := h; have z1 := HSZ.out; omega) b2
    have HB7 : Hid (Below w.heap.size w w7) := hide (HB6.out.trans (chg_below hch (Nat.le_of_lt HSZ.out) HB6.out.size))
    have hkk : decide (k1 < 0) = false := by simp; omega
    clear hp6 hg6 hch b0 b1 b2 HB6 hMM y0 y1 y2 m10
    go_wp2_with fail
    refine (eq_same gv p R _ hg7.sl hp7.sl (by omega)).mono ?_
    rintro e w8 ⟨rfl, hb⟩
    have hp8 := hp7.below hb
    have hg8 := hg7.below hb
    replace a0 := keepc hb a0
    replace a1 := keepc hb a1
    replace a2 := keepc hb a2
    have HB8 : Hid (Below w.heap.size w w8) := hide (HB7.out.trans (hb.mono HB7.out.size))
    clear hp7 hg7 hb HB7
    go_wp2_with fail
    refine (mark_any gv R _ 1 _ (by omega) (by omega) hg8 (by omega)).mono ?_
    rintro e w9 ⟨rfl, hg9, hgr⟩
    have hp9 := hp8.other hg8 (fun k hk => by have := HPL.out k hk; have z1 := HSZ.out; have z2 := HZ3.out; have z3 := HX3.out; omega) hgr
    replace a0 := hgr.cell a0 (fun e => by have z0 : wX.heap.size ≤ w.heap.size := (World.ownsRow.lt hg8 _ e.symm).1; have z1 := HSZ.out; have z2 := HZ3.out; have z3 := HX3.out; omega)
    replace a1 := hgr.cell a1 (fun e => by have z0 : wX.heap.size ≤ w.heap.size := (World.ownsRow.lt hg8 _ e.symm).1; have z1 := HSZ.out; have z2 := HZ3.out; have z3 := HX3.out; omega)
    replace a2 := hgr.cell a2 (fun e => by have z0 : wX.heap.size ≤ w.heap.size := (World.ownsRow.lt hg8 _ e.symm).1; have z1 := HSZ.out; have z2 := HZ3.out; have z3 := HX3.out; omega)
    have HB9 : Hid (Below w.heap.size w w9) := hide (HB8.out.trans (below_grown hg8 hgr (by have z1 := HSZ.out; have z2 := HZ3.out; have z3 := HX3.out; omega) HB8.out.size))
    have hm9 : ¬ (1 + (R.length : Int) < 0) := by omega
    clear hp8 hg8 hgr HB8
    go_wp2_with fail
    refine (held_any gv R.length 1 _ (by omega) (by omega) hg9.sl (by omega)).mono ?_
    rintro e w10 ⟨rfl, rfl⟩
    go_wp2_with fail
    refine (toMachine_any _ _ _ C N n L F G f _ (HT.out.1.below HB9.out) (HT.out.2.1.below HB9.out) (HT.out.2.2.1.below HB9.out) hC hL hN hG hn).mono ?_
    rintro e w11 ⟨h4, h5, h6, rfl, s4, l4, q4, hb⟩
    have hp11 := hp9.below hb
    have hg11 := hg9.below hb
    have HB11 : Hid (Below w.heap.size w w11) := hide (HB9.out.trans (hb.mono HB9.out.size))
    clear hb hp9 hg9 HB9 a0 a1 a2
    go_wp2_with fail
    refine (HIM.out _ (HT.out.2.2.2.below HB11.out) _ _ _ s4 l4 q4).mono ?_
    rintro e w12 ⟨hv, rfl, hh, hb⟩
    have hp12 := hp11.below hb
    have hg12 := hg11.below hb
    have HB12 : Hid (Below w.heap.size w w12) := hide (HB11.out.trans (hb.mono HB11.out.size))
    clear hb hp11 hg11 HB11 s4 l4 q4
    go_wp2_with fail
    refine (eq_same hv p R _ hh.sl hp12.sl (by omega)).mono ?_
    rintro e w13 ⟨rfl, hb⟩
    have hg13 := hg12.below hb
    have HB13 : Hid (Below w.heap.size w w13) := hide (HB12.out.trans (hb.mono HB12.out.size))
    clear hb hp12 hg12 HB12 hh
    go_wp2_with fail
    refine (held_any gv R.length 1 _ (by omega) (by omega) hg13.sl (by omega)).mono ?_
    rintro e w14 ⟨rfl, rfl⟩
    go_wp2
    go_ret
    exact ⟨rfl, HB13.out⟩
end Go.Proofs.YtfckacabaajnkaaDoor
