/- spec.l10Drained, spec.Drained -/
import Derived.Test.YtcocobmanlmjdaaDrB
import Derived.Test.YtcocobmanlmjdaaTmG
namespace Go.Proofs.Ytcocobmanlmjdaa
open Go.RowKit
set_option linter.unusedVariables false
set_option linter.unusedSimpArgs false

/-- a Tso in its box, between two drains -/
structure Dx (w : World) (m b r : Value) (d : Td) (C : Nat) (wr : World) : Prop where
  tv : Tv wr m b r d.zs C d.L d.F C d.Z
  cp : Bcap wr b C
  bx : wr.heap[w.heap.size]? = some (.cells #[m, b, r] 37 (0, 0))
  rx : wr.heap[w.heap.size + 1]? = some (.cells #[nil3, nil3, nil3] 37 (0, 0))
  be : Below w.heap.size w wr

/-- how many stores wait: read off memory -/
def bl (w : World) (B k : Nat) : Nat :=
  match w.cell? ⟨B, 1, none⟩ with
  | some (.slice (some ⟨p, o, none⟩) _ _) => (match w.cell? ⟨p, o + k, none⟩ with | some (.slice _ n _) => n | _ => 0)
  | _ => 0
theorem Dx.bl {w : World} {m b r : Value} {d : Td} {C : Nat} {wr : World} (h : Dx w m b r d C wr) {k : Nat} (hk : k < C) : bl wr w.heap.size k = d.L k := by
  obtain ⟨ad, cap, e, hs⟩ := h.tv.buf
  obtain ⟨p, o, rfl, hs2⟩ := hs (by omega)
  obtain ⟨ia, ic, q, _⟩ := hs2 k hk
  have h1 := (row3_facts h.bx).2.2.1
  subst e
  simp only [Ytcocobmanlmjdaa.bl, h1, q]
theorem Dx.step {w : World} {m b r m' b' r' : Value} {d d' : Td} {C : Nat} {wr w2 : World} {vb vr : Nat → Value} {tag : Nat → Nat} (h : Dx w m b r d C wr) (ta : TaD w2 wr.heap.size m' b' r' d' C vb vr tag) (hb : Below wr.heap.size wr w2) (hc : Cpd vb C) :
    Dx w m' b' r' d' C (((w2.setCell ⟨w.heap.size, 0, none⟩ m').setCell ⟨w.heap.size, 1, none⟩ b').setCell ⟨w.heap.size, 2, none⟩ r') := by
  have hl := lt_of_block h.bx
  have hl2 := lt_of_block h.rx
  have hB := h.be.trans (hb.mono h.be.size)
  obtain ⟨f1, f2⟩ := fin3 (w := w) (RB := w.heap.size) ta hl (Nat.le_refl _) hB h.be.size
  have q0 := (hb.block _ hl).trans h.bx
  have q1 := heap_setCell_same _ w.heap.size 0 _ _ m' q0
  have q2 := heap_setCell_same _ w.heap.size 1 _ _ b' q1
  have q3 := heap_setCell_same _ w.heap.size 2 _ _ r' q2
  refine ⟨f1.tv, Bcap.of f1.bs hc, by rw [q3]; rfl, ?_, f2⟩
  rw [heap_setCell_other _ _ _ _ (by simp), heap_setCell_other _ _ _ _ (by simp), heap_setCell_other _ _ _ _ (by simp)]
  exact (hb.block _ hl2).trans h.rx

set_option maxHeartbeats 4000000 in
set_option maxRecDepth 20000 in
theorem l10Drained_any (mv bv rv : Value) (d : Td) (C : Nat) (w : World) (h : Tv w mv bv rv d.zs C d.L d.F C d.Z) (hok : tokD d C = true) (hcap : Bcap w bv C) :
    Calls Try.prog 28 #[.agg #[mv, bv, rv]] w fun e w' => ∃ m b r vb vr tag, e = .returned (.agg #[m, b, r]) ∧ TaD w' w.heap.size m b r (dal d C) C vb vr tag ∧ Below w.heap.size w w' := by
  obtain ⟨⟨ma, mc, rfl⟩, ⟨ba, bc, rfl⟩, ⟨ra, rc, rfl⟩⟩ := three_of h
  have hpa := (tok_parts hok).1
  have HX := hide hok
  have HS : Hid (Dx w (.slice ma d.zs.length mc) (.slice ba C bc) (.slice ra C rc) (dal d 0) C ((w.alloc (.cells #[.slice ma d.zs.length mc, .slice ba C bc, .slice ra C rc] 37)).alloc (.cells #[nil3, nil3, nil3] 37))) := hide (by
    have hB0 : Below w.heap.size w ((w.alloc (.cells #[.slice ma d.zs.length mc, .slice ba C bc, .slice ra C rc] 37)).alloc (.cells #[nil3, nil3, nil3] 37)) := ((Below.refl _ _).alloc (Nat.le_refl _) _).alloc (by simp) _
    refine ⟨h.below hB0, Bcap.below hcap h.buf hB0, ?_, ?_, hB0⟩
    · rw [Below.heap_alloc _ _ _ (by simp)]; exact heap_alloc_new _ _
    · have := heap_alloc_new (w.alloc (.cells #[.slice ma d.zs.length mc, .slice ba C bc, .slice ra C rc] 37)) (.cells #[nil3, nil3, nil3] 37)
      simpa only [World.size_alloc] using this)
  clear h hcap hok
  go_enter Try.func28, Try.ntmps28
  go_wp2
  go_loopw [3] (fun i wr => ∃ (k : Nat) (m b r : Value), k ≤ C ∧ i = .int .i64 k ∧ Hid (Dx w m b r (dal d k) C wr)) (fun i _ => C - (intOf i).toNat)
  case atStart => exact ⟨0, _, _, _, Nat.zero_le _, rfl, HS⟩
  case round =>
    clear HS
    obtain ⟨k, m, b, r, hk, rfl, HS⟩ := hrel
    by_cases hlt : k < C
    · have HOK := hide (dal_tok (C := C) HX.out (show k ≤ C by omega))
      have HSU : Hid (dnN (dal d k) k ((dal d k).L k) = dal d (k + 1)) := hide rfl
      have HL := hide (fun n => dnN_L (dal d k) k n)
      generalize hdk : dal d k = dk at HS HOK HSU HL
      have hk0 : (0 : Int) ≤ (k : Int) := by omega
      have hk1 : (k : Int) < (C : Int) := by omega
      have h4 : dk.L k ≤ 4 := ((tok_parts HOK.out).2.2.2.2 k hlt).1
      obtain ⟨ba2, bc2, e⟩ := (three_of HS.out.tv).2.1
      subst e
      have n1 := (row3_facts HS.out.bx).2.2.1
      go_wp2
      clear n1
      go_loopw [] (fun wr' => ∃ (n : Nat) (m b r : Value), n ≤ dk.L k ∧ Hid (Dx w m b r (dnN dk k n) C wr')) (fun wr' => bl wr' w.heap.size k)
      case atStart => exact ⟨0, _, _, _, Nat.zero_le _, HS⟩
      case round =>
        clear HS
        obtain ⟨n, m, b, r, hn, HS⟩ := hrel
        obtain ⟨⟨ma2, mc2, e1⟩, _, ⟨ra2, rc2, e3⟩⟩ := three_of HS.out.tv
        obtain ⟨ad, cap, e, hs⟩ := HS.out.tv.buf
        obtain ⟨p, o, rfl, hs2⟩ := hs (by omega)
        obtain ⟨ia, ic, q0, _⟩ := hs2 k hlt
        subst e
        subst e1
        subst e3
        have HBL := hide (HS.out.bl hlt)
        rw [HL.out n] at q0 HBL
        generalize hnz : (dnN dk k n).zs.length = nz at HS
        clear hs hs2 hnz
        obtain ⟨_, n0, n1, n2⟩ := row3_facts HS.out.bx
        by_cases hln : n < dk.L k
        · have HOK2 := hide (dnN_tok HOK.out hlt hn)
          have HN := hide (nxt_dn HOK2.out hlt (by rw [HL.out]; omega))
          have hgt : (0 : Int) < ((dk.L k - n : Nat) : Int) := by omega
          have hst := l10Do_any _ _ _ (dnN dk k n) C 4 k 0 0 0 wr HS.out.tv HOK2.out HS.out.cp
          rw [HN.out.1, HN.out.2] at hst
          obtain ⟨fr, _⟩ := row3_facts HS.out.bx
          go_wp2_with fail
          refine hst.mono ?_
          rintro e w4 ⟨m4, b4, r4, vb, vr, tag, rfl, ta, hb4, hcp⟩
          have hs4 := HS.out.step ta hb4 hcp
          obtain ⟨⟨ma5, mc5, rfl⟩, ⟨ba5, bc5, rfl⟩, ⟨ra5, rc5, rfl⟩⟩ := three_of (Ta.tv ta)
          generalize hnz5 : (dn (dnN dk k n) k).zs.length = nz5 at hs4 ⊢
          have HS4 : Hid (Dx w (.slice ma5 nz5 mc5) (.slice ba5 C bc5) (.slice ra5 C rc5) (dnN dk k (n + 1)) C (((w4.setCell ⟨w.heap.size, 0, none⟩ (.slice ma5 nz5 mc5)).setCell ⟨w.heap.size, 1, none⟩ (.slice ba5 C bc5)).setCell ⟨w.heap.size, 2, none⟩ (.slice ra5 C rc5))) := hide hs4
          have HBL4 := hide (hs4.bl hlt)
          have g4 := heap_b HS.out.bx hb4
          obtain ⟨fr4, y0, y1, y2⟩ := row3_facts g4
          clear hst hs4 HS n0 n1 n2 q0 fr ta hb4 hcp g4 hnz5
          go_wp2
          go_roundw
          case rel => exact ⟨n + 1, _, _, _, by omega, HS4⟩
          case measure =>
            have z := HBL4.out
            have z0 := HBL.out
            have z2 := HL.out (n + 1)
            rw [show (dn (dnN dk k n) k).L k = (dnN dk k (n + 1)).L k from rfl, z2] at z
            (try simp only [])
            rw [z, z0]
            omega
        · have e : n = dk.L k := by omega
          have hz : dk.L k - n = 0 := by omega
          rw [hz] at q0
          subst e
          rw [HSU.out] at HS
          clear hz
          go_wp2
          go_roundw
          case rel => exact ⟨k + 1, _, _, _, by omega, by go_num, HS⟩
          case measure => simp [intOf]; omega
    · have e : k = C := by omega
      subst e
      have hpk := tok_parts (dal_tok (C := k) HX.out (Nat.le_refl k))
      have hcp := l10Copy_any m b r (dal d k).zs k (dal d k).L (dal d k).F (dal d k).Z wr HS.out.tv (by omega) (by omega) (by omega) (fun c hc => by have := (hpk.2.2.2.2 c hc).1; omega) (fun c hc => by have := (hpk.2.2.2.2 c hc).2.2.1; omega)
      obtain ⟨⟨ma2, mc2, e1⟩, ⟨ba2, bc2, e2⟩, ⟨ra2, rc2, e3⟩⟩ := three_of HS.out.tv
      subst e1
      subst e2
      subst e3
      obtain ⟨_, n0, n1, n2⟩ := row3_facts HS.out.bx
      clear hpk
      go_wp2_with fail
      refine hcp.mono ?_
      rintro e w5 ⟨m5, b5, r5, vb, vr, tag, rfl, tc, hb5⟩
      obtain ⟨⟨ma5, mc5, rfl⟩, ⟨ba5, bc5, rfl⟩, ⟨ra5, rc5, rfl⟩⟩ := three_of tc.ta.tv
      have hl2 := lt_of_block HS.out.rx
      have hB5 := HS.out.be.trans (hb5.mono HS.out.be.size)
      have g5 := heap_b HS.out.rx hb5
      obtain ⟨fr, r0, r1, r2⟩ := row3_facts g5
      have HF := hide (fin3 (w := w) (RB := w.heap.size + 1) (d := dal d k) tc.ta hl2 (by omega) hB5 HS.out.be.size)
      clear hcp HS n0 n1 n2 tc hb5 hl2 hB5 g5
      generalize hnz : (dal d k).zs.length = nz at HF ⊢
      go_wp2
      refine bodyPost_ret (v := .agg #[.slice ma5 nz mc5, .slice ba5 k bc5, .slice ra5 k rc5]) (by simp [results, Try.results28, go_sem, r0, r1, r2]) rfl ⟨_, _, _, _, _, _, rfl, HF.out.1, HF.out.2⟩

theorem Bxd.after {W0 V : World} {base : Nat} {m b r : Value} {d : Td} {D : Nat} {vb vr : Nat → Value} {tag : Nat → Nat} (ta : TaD V base m b r d D vb vr tag) (lo : W0.heap.size ≤ base) (hb : Below W0.heap.size W0 V) :
    ∃ tag', Bxd W0 (V.alloc (.cells #[m, b, r] 37)) V.heap.size base m b r d D vb vr tag' := by
  have hA : Below V.heap.size V (V.alloc (.cells #[m, b, r] 37)) := (Below.refl _ _).alloc (Nat.le_refl _) _
  exact ⟨fun g => if g < V.heap.size then tag g else 100000, heap_alloc_new _ _, (Ta.retag ta (fun g hg => if_pos hg)).below hA, lo, .inr (if_neg (by omega)), fun g hg => if_neg (by have := hA.size; omega), hb.trans (hA.mono hb.size), hb.size⟩

end Go.Proofs.Ytcocobmanlmjdaa
