/- impl.Drained -/
import Derived.Test.YtcocobmanlmjdaaDrA
namespace Go.Proofs.Ytcocobmanlmjdaa
open Go.RowKit
set_option linter.unusedVariables false
set_option linter.unusedSimpArgs false

/-- a copy that is being drained -/
structure Dw (w : World) (B base : Nat) (m b r : Value) (d : Td) (C : Nat) (vb vr : Nat → Value) (tag : Nat → Nat) (wr : World) : Prop where
  ta : TaD wr base m b r d C vb vr tag
  cp : Cpd vb C
  bx : wr.heap[B]? = some (.cells #[m, b, r] 37 (0, 0))
  rx : wr.heap[w.heap.size + 1]? = some (.cells #[nil3, nil3, nil3] 37 (0, 0))
  be : Below w.heap.size w wr
  sz : base ≤ wr.heap.size

theorem dw_step {w : World} {B base : Nat} {m b r : Value} {d : Td} {C : Nat} {vb vr : Nat → Value} {tag : Nat → Nat} {wr : World} (h : Dw w B base m b r d C vb vr tag wr) (hok : tokD d C = true) (ht : 100 ≤ tag B) (hb : w.heap.size + 1 < base) (c : Nat) (hc : c < C) (hp : 0 < d.L c) :
    Calls Try.prog 58 #[.agg #[m, b, r], .agg (five 0 c 0 0 0)] wr fun e w' => e = .returned (.int .i64 0) ∧ ∃ u, Dw w B base m b r (dn d c) C (upd vb c u) vr tag w' := by
  obtain ⟨h1, h2, h3, h4, h5⟩ := tok_parts hok
  obtain ⟨a1, a2, _⟩ := h5 c hc
  refine (firstDrained_all m b r d.zs C d.L d.F C d.Z vb vr tag base c 0 0 0 0 wr h.ta hc (by omega) (h.cp c hc) (fun hp => by have := (a2 0 hp).1; omega) h.sz).mono ?_
  rintro e w' (⟨q, _⟩ | ⟨_, rfl, ⟨u, ta, hu⟩, hB, hK⟩)
  · omega
  · refine ⟨rfl, u, ta, h.cp.upd hu, (hK B (lt_of_block h.bx) ht).trans h.bx, (hB.block _ hb).trans h.rx, h.be.trans (hB.mono (by omega)), Nat.le_trans h.sz hB.size⟩

set_option maxHeartbeats 4000000 in
set_option maxRecDepth 20000 in
theorem implDrained_any (mv bv rv : Value) (d : Td) (C R : Nat) (w : World) (h : Tv w mv bv rv d.zs C d.L d.F R d.Z) :
    Calls Try.prog 34 #[.agg #[mv, bv, rv]] w fun e w' => DrPost d C R w e w' := by
  obtain ⟨⟨ma, mc, rfl⟩, ⟨ba, bc, rfl⟩, ⟨ra, rc, rfl⟩⟩ := three_of h
  have HT := hide h
  clear h
  obtain ⟨W, hW⟩ : ∃ W, (w.alloc (.cells #[.slice ma d.zs.length mc, .slice ba C bc, .slice ra R rc] 37)).alloc (.cells #[nil3, nil3, nil3] 37) = W := ⟨_, rfl⟩
  have hWs : W.heap.size = w.heap.size + 1 + 1 := by rw [← hW]; simp
  have hB0 : Below w.heap.size w W := by rw [← hW]; exact ((Below.refl _ _).alloc (Nat.le_refl _) _).alloc (by simp) _
  have g1 : W.heap[w.heap.size]? = some (.cells #[.slice ma d.zs.length mc, .slice ba C bc, .slice ra R rc] 37 (0, 0)) := by rw [← hW, Below.heap_alloc _ _ _ (by simp)]; exact heap_alloc_new _ _
  have g3 : W.heap[w.heap.size + 1]? = some (.cells #[nil3, nil3, nil3] 37 (0, 0)) := by
    rw [← hW]
    have := heap_alloc_new (w.alloc (.cells #[.slice ma d.zs.length mc, .slice ba C bc, .slice ra R rc] 37)) (.cells #[nil3, nil3, nil3] 37)
    simpa only [World.size_alloc] using this
  have HE := hide (And.intro hWs (And.intro hB0 (And.intro g1 g3)))
  have hokc := fun W h => implTsoOk_any (.slice ma d.zs.length mc) (.slice ba C bc) (.slice ra R rc) d.zs C d.L d.F R d.Z W h
  subst hW
  clear hWs hB0 g1 g3
  cases hx : tokB d.zs C d.L d.F R d.Z
  · rw [hx] at hokc
    go_enter Try.func34, Try.ntmps34
    go_wp2_with fail
    refine (hokc _ (HT.out.below HE.out.2.1)).mono ?_
    rintro e w1 ⟨rfl, hb1⟩
    obtain ⟨e1, e2, e3, e5⟩ := HE.out
    have hB1 := e2.trans (hb1.mono e2.size)
    have g3 := heap_b e5 hb1
    obtain ⟨fr, r0, r1, r2⟩ := row3_facts g3
    have HB := hide (And.intro hx ((((hB1.setCell (p := ⟨w.heap.size + 1, 0, none⟩) (by show w.heap.size ≤ w.heap.size + 1; omega) nil3).setCell (p := ⟨w.heap.size + 1, 1, none⟩) (by show w.heap.size ≤ w.heap.size + 1; omega) nil3).setCell (p := ⟨w.heap.size + 1, 2, none⟩) (by show w.heap.size ≤ w.heap.size + 1; omega) nil3)))
    clear e1 e2 e3 e5 hB1 g3 hb1 HE HT hokc hx
    go_wp2
    refine bodyPost_ret (v := .tuple #[.agg #[nil3, nil3, nil3], .bool false]) (by simp [results, Try.results34, go_sem, r0, r1, r2]) rfl (.inl ⟨HB.out.1, rfl, HB.out.2⟩)
  · have hpa := tok_parts hx
    have hR : R = C := hpa.2.1
    subst hR
    have HX := hide hx
    rw [hx] at hokc
    have hcp := fun W h => tsoCopy_any (.slice ma d.zs.length mc) (.slice ba R bc) (.slice ra R rc) d.zs R d.L d.F d.Z W h (by omega) (by omega) (fun c hc => by have := (hpa.2.2.2.2 c hc).1; omega) (fun c hc => by have := (hpa.2.2.2.2 c hc).2.2.1; omega)
    have hR3 : 1 ≤ R ∧ R ≤ 3 := hpa.1
    clear hx hpa
    go_enter Try.func34, Try.ntmps34
    go_wp2_with fail
    refine (hokc _ (HT.out.below HE.out.2.1)).mono ?_
    rintro e w1 ⟨rfl, hb1⟩
    obtain ⟨e1, e2, e3, e5⟩ := HE.out
    have hB1 := e2.trans (hb1.mono e2.size)
    have g1 := heap_b e3 hb1
    have g3 := heap_b e5 hb1
    obtain ⟨_, x0, x1, x2⟩ := row3_facts g1
    have hT1 := HT.out.below hB1
    clear e1 e2 e3 e5 hb1 HE HT hokc
    go_wp2_with fail
    refine (hcp _ hT1).mono ?_
    rintro e w2 ⟨m, b, r, vb, vr, tag, rfl, tc, hb2⟩
    obtain ⟨bb, bo, bc2, rfl, _⟩ := tc.ta.bufAt (by omega)
    obtain ⟨⟨ma2, mc2, rfl⟩, _, ⟨ra2, rc2, rfl⟩⟩ := three_of tc.ta.tv
    have hA2 : Below w2.heap.size w2 (w2.alloc (.cells #[.slice ma2 d.zs.length mc2, .slice (some ⟨bb, bo, none⟩) R bc2, .slice ra2 R rc2] 37)) := (Below.refl _ _).alloc (Nat.le_refl _) _
    have g4 : (w2.alloc (.cells #[.slice ma2 d.zs.length mc2, .slice (some ⟨bb, bo, none⟩) R bc2, .slice ra2 R rc2] 37)).heap[w2.heap.size]? = some (.cells #[.slice ma2 d.zs.length mc2, .slice (some ⟨bb, bo, none⟩) R bc2, .slice ra2 R rc2] 37 (0, 0)) := heap_alloc_new _ _
    have hB2 := hB1.trans (hb2.mono hB1.size)
    have hB3 := hB2.trans (hA2.mono hB2.size)
    have g3' := heap_b (heap_b g3 hb2) hA2
    have tc' := (tc.retag (tag' := fun g => if g = w2.heap.size then 100 else tag g) (fun g hg => if_neg (by omega))).below hA2
    obtain ⟨_, n0, n1, n2⟩ := row3_facts g4
    have hs2 := hb2.size
    have hs3 := hA2.size
    have hl3 := lt_of_block g3
    have hcpd : Cpd vb R := fun c hc => own_cap (tc.bo c hc)
    generalize htg : (fun g => if g = w2.heap.size then 100 else tag g) = tg at tc'
    have htB : 100 ≤ tg w2.heap.size := by rw [← htg]; show 100 ≤ (if w2.heap.size = w2.heap.size then 100 else tag w2.heap.size); rw [if_pos rfl]; exact Nat.le_refl _
    have HS : Hid (Dw w w2.heap.size w1.heap.size (.slice ma2 d.zs.length mc2) (.slice (some ⟨bb, bo, none⟩) R bc2) (.slice ra2 R rc2) (dal d 0) R vb vr tg (w2.alloc (.cells #[.slice ma2 d.zs.length mc2, .slice (some ⟨bb, bo, none⟩) R bc2, .slice ra2 R rc2] 37))) := hide ⟨tc'.ta, hcpd, g4, g3', hB3, by omega⟩
    have hwl : w.heap.size ≤ w1.heap.size := hB1.size
    have hne : ¬ w.heap.size + 1 = w2.heap.size := by omega
    generalize hnz : d.zs.length = nz at *
    clear g1 hb2 tc hA2 hcp hT1 x0 x1 x2 tc' htg hcpd g3' hB3 hB2 hB1 g3 g4 hnz hs2 hs3
    go_wp2
    clear n0 n1 n2
    go_loopw [16] (fun i wr => ∃ (k : Nat) (vb : Nat → Value), k ≤ R ∧ i = .int .i64 k ∧ Hid (Dw w w2.heap.size w1.heap.size (.slice ma2 nz mc2) (.slice (some ⟨bb, bo, none⟩) R bc2) (.slice ra2 R rc2) (dal d k) R vb vr tg wr)) (fun i _ => R - (intOf i).toNat)
    case atStart => exact ⟨0, vb, Nat.zero_le _, rfl, HS⟩
    case round =>
      clear HS
      obtain ⟨k, vb, hk, rfl, HS⟩ := hrel
      by_cases hlt : k < R
      · obtain ⟨ia, ic, _, p0⟩ := HS.out.ta.bcell hlt
        have HOK := hide (dal_tok (C := R) HX.out (show k ≤ R by omega))
        have HSU : Hid (dnN (dal d k) k ((dal d k).L k) = dal d (k + 1)) := hide rfl
        have HL := hide (fun n => dnN_L (dal d k) k n)
        generalize hdk : dal d k = dk at HS p0 HOK HSU HL
        have hk0 : (0 : Int) ≤ (k : Int) := by omega
        have hk1 : (k : Int) < (R : Int) := by omega
        have h4 : dk.L k ≤ 4 := ((tok_parts HOK.out).2.2.2.2 k hlt).1
        go_wp2
        clear p0
        go_loopw [23] (fun j wr' => ∃ (n : Nat) (vb : Nat → Value), n ≤ dk.L k ∧ j = .int .i64 n ∧ Hid (Dw w w2.heap.size w1.heap.size (.slice ma2 nz mc2) (.slice (some ⟨bb, bo, none⟩) R bc2) (.slice ra2 R rc2) (dnN dk k n) R vb vr tg wr')) (fun j _ => dk.L k - (intOf j).toNat)
        case atStart => exact ⟨0, vb, Nat.zero_le _, rfl, HS⟩
        case round =>
          clear HS
          obtain ⟨n, vb, hn, rfl, HS⟩ := hrel
          by_cases hln : n < dk.L k
          · obtain ⟨_, n0, n1, n2⟩ := row3_facts HS.out.bx
            have hst := dw_step HS.out (dnN_tok HOK.out hlt hn) htB (by omega) k hlt (by rw [HL.out]; omega)
            have hn1 : (n : Int) < (dk.L k : Int) := by omega
            go_wp2_with fail
            refine hst.mono ?_
            rintro e w4 ⟨rfl, u, hs4⟩
            have HS4 : Hid (Dw w w2.heap.size w1.heap.size (.slice ma2 nz mc2) (.slice (some ⟨bb, bo, none⟩) R bc2) (.slice ra2 R rc2) (dnN dk k (n + 1)) R (upd vb k u) vr tg w4) := hide hs4
            clear hst hs4 HS n0 n1 n2
            go_wp2
            go_roundw
            case rel => exact ⟨n + 1, _, by omega, by go_num, HS4⟩
            case measure => simp [intOf]; omega
          · have e : n = dk.L k := by omega
            subst e
            rw [HSU.out] at HS
            go_wp2
            go_roundw
            case rel => exact ⟨k + 1, _, by omega, by go_num, HS⟩
            case measure => simp [intOf]; omega
      · have e : k = R := by omega
        subst e
        obtain ⟨_, n0, n1, n2⟩ := row3_facts HS.out.bx
        obtain ⟨fr, r0, r1, r2⟩ := row3_facts HS.out.rx
        have HF := hide (And.intro HX.out (fin3 (w := w) (RB := w.heap.size + 1) HS.out.ta (by omega) (by omega) HS.out.be hwl))
        clear HS
        go_wp2
        refine bodyPost_ret (v := .tuple #[.agg #[.slice ma2 nz mc2, .slice (some ⟨bb, bo, none⟩) k bc2, .slice ra2 k rc2], .bool true]) (by simp [results, Try.results34, go_sem, r0, r1, r2]) rfl (.inr ⟨HF.out.1, _, _, _, _, _, _, rfl, HF.out.2.1, HF.out.2.2⟩)

end Go.Proofs.Ytcocobmanlmjdaa
