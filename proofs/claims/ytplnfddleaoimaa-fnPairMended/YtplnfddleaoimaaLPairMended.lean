/- Proved: for every code, of whatever length, laws.FnPairMended returns true and leaves its argument as it read. No condition. -/
import Derived.Test.YtplnfddleaoimaaRows
import Derived.Test.YtplnfddleaoimaaPdD
import Derived.WalkKit
import Derived.ProofKit
import Derived.OpenShut
import Derived.ShutString
import Derived.ChangeOld
import Derived.Below
import Derived.OpenVars
namespace Go.Proofs.Ytplnfddleaoimaa.fnPairMended
open Go.ChangeShapes Go.WideShapes Go.ChangeAt Go.WideMaps Go.WideElems Go.RowKit
set_option linter.unusedVariables false
set_option linter.unusedSimpArgs false

theorem own : ownKnob Try.prog.godebug = none := by kernel_rfl
theorem laidOut : laidOutB Try.prog = true := by kernel_rfl

def IsRow (k : IntKind) (w : World) (a : Option Addr) (len cap : Nat) (zs : List Int) : Prop :=
  (a = none ∧ len = 0 ∧ cap = 0 ∧ zs = []) ∨
  ∃ x, a = some x ∧ len ≤ cap ∧ cap ≤ maxLen ∧ zs.length = cap ∧ (∀ i, i < zs.length → w.cell? (x.add i) = some (.int k (zs.getD i 0))) ∧ ∀ n ∈ zs, (Lit.int k n).wf = true

theorem row_bt {w : World} {a : Option Addr} {len cap : Nat} {z : List Int} (h : IsRow .u8 w a len cap z) : Bt w a len := by
  intro h0
  rcases h with ⟨rfl, rfl, rfl, rfl⟩ | ⟨x, rfl, hl, hm, hz, hcell, hwf⟩
  · exact absurd h0 (by simp)
  · obtain ⟨b, off, spot⟩ := x
    have hc := hcell 0 (by omega)
    have hspot : spot = none := by simpa [Addr.add] using World.cell?_spot hc
    subst hspot
    refine ⟨b, off, rfl, fun j hj => ?_⟩
    have hcj := hcell j (by omega)
    rw [addr_add] at hcj
    have hj' : j < z.length := by omega
    have e : z.getD j 0 = z[j] := by simp [hj']
    have hw := bounds_u8 (hwf z[j] (List.getElem_mem hj'))
    exact ⟨z.getD j 0, by rw [e]; exact hw.1, by rw [e]; exact hw.2, hcj⟩

set_option maxHeartbeats 16000000 in
set_option maxRecDepth 20000 in
theorem walk (a0 : Option Addr) (len0 cap0 : Nat) (w : World) (hs : Bt w a0 len0) :
    Calls Try.prog 5 #[.slice a0 len0 cap0] w fun e w' => e = .returned (.bool true) ∧ Below w.heap.size w w' := by
  by_cases hbig : (1048576 : Int) < (len0 : Int)
  · go_enter Try.func5, Try.ntmps5
    go_wp2
    go_ret
    exact ⟨rfl, Below.refl _ _⟩
  have hb : len0 ≤ 1048576 := by omega
  have HB : Hid (Below w.heap.size w w) := hide (Below.refl _ _)
  go_enter Try.func5, Try.ntmps5
  go_wp2_with (first | (go_at_call 7; go_in) | fail)
  refine (drawPairMend_any a0 len0 cap0 _ hs hb).mono ?_
  clear hb
  rintro e w1 ⟨ap, acp, bp, bcp, zl, zr, lu, ru, rfl, P, hlen, hb⟩
  clear hs
  have HL := hide hlen
  clear hlen
  have hA : Below w1.heap.size w1 (w1.alloc (.cells (pq (.slice ap zl.length acp) (.slice bp zr.length bcp) lu ru) 26)) := (Below.refl _ _).alloc (Nat.le_refl _) _
  have hq := hb.trans (hA.mono hb.size)
  replace HB := hide (HB.out.trans (hq.mono HB.out.size))
  have HPp := hide (P.below hA)
  have HXp := hide (bx4 w1 (.slice ap zl.length acp) (.slice bp zr.length bcp) (.bool lu) (.bool ru) 26)
  clear P hb hA hq
  have hI := fun W h h' => implMend_any (.slice ap zl.length acp) (.slice bp zr.length bcp) zl zr lu ru W h h' (by have := HL.out; omega)
  have hS := fun W h h' => specMend_any (.slice ap zl.length acp) (.slice bp zr.length bcp) zl zr lu ru W h h' (by have := HL.out; omega)
  by_cases hk : pairB zl zr lu ru = true ∧ (lu || ru) = true
  · obtain ⟨f1, f2, f3, f4, f5⟩ := mend_facts hk.1 hk.2
    rw [f1] at hI hS
    delta Post at hI hS
    dsimp only at hI hS
    have hRp := fun A B i W h h' => implRead_any A B zl zr lu ru i W h h' (by have := HL.out; omega)
    have hSp := fun A B i W h h' => specRead_any A B zl zr lu ru i W h h' (by have := HL.out; omega)
    have hRn := fun A B i W h h' => implRead_any A B (zOf zl zr lu) (zOf zl zr lu) true true i W h h' (by omega)
    have hI2 := fun A B W h h' => implMend_any A B (zOf zl zr lu) (zOf zl zr lu) true true W h h' (by omega)
    rw [f3] at hI2
    delta Post at hI2
    dsimp only at hI2
    simp only [f2] at hRn
    have HF4 := hide f4
    clear f1 f2 f3 f4 f5 hk
    generalize zOf zl zr lu = z at *
    obtain ⟨xp0, xp1, xp2, xp3⟩ := HXp.out
    go_wp2_with fail
    refine (hI _ HPp.out.l.sl HPp.out.r.sl).mono ?_
    rintro e w2 ⟨an, acn, bn, bcn, rfl, P, hb⟩
    clear xp0 xp1 xp2 xp3
    have hA : Below w2.heap.size w2 (w2.alloc (.cells (pq (.slice an z.length acn) (.slice bn z.length bcn) true true) 26)) := (Below.refl _ _).alloc (Nat.le_refl _) _
    have hq := hb.trans (hA.mono hb.size)
    replace HXp := hide (HXp.out.below hq)
    replace HPp := hide (HPp.out.below hq)
    replace HB := hide (HB.out.trans (hq.mono HB.out.size))
    have HPn := hide (P.below hA)
    have HXn := hide (bx4 w2 (.slice an z.length acn) (.slice bn z.length bcn) (.bool true) (.bool true) 26)
    clear P hb hA hq
    obtain ⟨xp0, xp1, xp2, xp3⟩ := HXp.out
    go_wp2_with fail
    refine (hS _ HPp.out.l.sl HPp.out.r.sl).mono ?_
    rintro e w3 ⟨aw, acw, bw, bcw, rfl, P, hb⟩
    clear xp0 xp1 xp2 xp3
    have hA : Below w3.heap.size w3 (w3.alloc (.cells (pq (.slice aw z.length acw) (.slice bw z.length bcw) true true) 26)) := (Below.refl _ _).alloc (Nat.le_refl _) _
    have hq := hb.trans (hA.mono hb.size)
    replace HXp := hide (HXp.out.below hq)
    replace HXn := hide (HXn.out.below hq)
    replace HPp := hide (HPp.out.below hq)
    replace HPn := hide (HPn.out.below hq)
    replace HB := hide (HB.out.trans (hq.mono HB.out.size))
    have HPw := hide (P.below hA)
    have HXw := hide (bx4 w3 (.slice aw z.length acw) (.slice bw z.length bcw) (.bool true) (.bool true) 26)
    clear P hb hA hq
    obtain ⟨xn0, xn1, xn2, xn3⟩ := HXn.out
    obtain ⟨xw0, xw1, xw2, xw3⟩ := HXw.out
    go_wp2_with fail
    refine (samePair_same _ _ _ _ z z true true _ HPn.out.l.sl HPn.out.r.sl HPw.out.l.sl HPw.out.r.sl (by have := HF4.out; omega)).mono ?_
    rintro e w4 ⟨rfl, hb⟩
    clear xn0 xn1 xn2 xn3 xw0 xw1 xw2 xw3
    replace HXp := hide (HXp.out.below hb)
    replace HXn := hide (HXn.out.below hb)
    replace HXw := hide (HXw.out.below hb)
    replace HPp := hide (HPp.out.below hb)
    replace HPn := hide (HPn.out.below hb)
    replace HPw := hide (HPw.out.below hb)
    replace HB := hide (HB.out.trans (hb.mono HB.out.size))
    clear hb
    clear hI hS HXw HPw
    go_wp2
    go_loopw [8] (fun i wr => ∃ j : Nat, j ≤ 4 ∧ i = .int .i64 j ∧ Hid (Below w4.heap.size w4 wr)) (fun i _ => 4 - (intOf i).toNat)
    case atStart => exact ⟨0, Nat.zero_le _, rfl, hide (Below.refl _ _)⟩
    case round =>
      obtain ⟨j, hj, rfl, HR⟩ := hrel
      replace HXp := hide (HXp.out.below HR.out)
      replace HXn := hide (HXn.out.below HR.out)
      replace HPp := hide (HPp.out.below HR.out)
      replace HPn := hide (HPn.out.below HR.out)
      replace HB := hide (HB.out.trans (HR.out.mono HB.out.size))
      by_cases hlt : j < 4
      · obtain ⟨x, o, hxo⟩ := read_form zl zr lu ru j
        have r1 := fun A B W h h' => hRp A B j W h h'
        have r2 := fun A B W h h' => hRn A B j W h h'
        have r3 := fun A B W h h' => hSp A B j W h h'
        rw [hxo] at r1 r2 r3
        clear hxo hRp hRn hSp hI2
        have HB0 := HR
        obtain ⟨xp0, xp1, xp2, xp3⟩ := HXp.out
        go_wp2_with fail
        refine (r1 _ _ _ HPp.out.l.sl HPp.out.r.sl).mono ?_
        rintro e w5 ⟨rfl, hb⟩
        clear xp0 xp1 xp2 xp3
        replace HXp := hide (HXp.out.below hb)
        replace HXn := hide (HXn.out.below hb)
        replace HPp := hide (HPp.out.below hb)
        replace HPn := hide (HPn.out.below hb)
        replace HB := hide (HB.out.trans (hb.mono HB.out.size))
        replace HB0 := hide (HB0.out.trans (hb.mono HB0.out.size))
        clear hb
        obtain ⟨xn0, xn1, xn2, xn3⟩ := HXn.out
        go_wp2_with fail
        refine (r2 _ _ _ HPn.out.l.sl HPn.out.r.sl).mono ?_
        rintro e w6 ⟨rfl, hb⟩
        clear xn0 xn1 xn2 xn3
        replace HXp := hide (HXp.out.below hb)
        replace HXn := hide (HXn.out.below hb)
        replace HPp := hide (HPp.out.below hb)
        replace HPn := hide (HPn.out.below hb)
        replace HB := hide (HB.out.trans (hb.mono HB.out.size))
        replace HB0 := hide (HB0.out.trans (hb.mono HB0.out.size))
        clear hb
        obtain ⟨xp0, xp1, xp2, xp3⟩ := HXp.out
        go_wp2_with fail
        refine (r3 _ _ _ HPp.out.l.sl HPp.out.r.sl).mono ?_
        rintro e w7 ⟨rfl, hb⟩
        clear xp0 xp1 xp2 xp3
        replace HXp := hide (HXp.out.below hb)
        replace HXn := hide (HXn.out.below hb)
        replace HPp := hide (HPp.out.below hb)
        replace HPn := hide (HPn.out.below hb)
        replace HB := hide (HB.out.trans (hb.mono HB.out.size))
        replace HB0 := hide (HB0.out.trans (hb.mono HB0.out.size))
        clear hb
        clear r1 r2 r3
        cases o
        all_goals go_wp2
        all_goals go_roundw
        case rel => exact ⟨j + 1, by omega, by go_num, HB0⟩
        case measure => simp [intOf]; omega
        case rel => exact ⟨j + 1, by omega, by go_num, HB0⟩
        case measure => simp [intOf]; omega
      · have e : j = 4 := by omega
        subst e
        obtain ⟨xn0, xn1, xn2, xn3⟩ := HXn.out
        go_wp2_with fail
        refine (hI2 _ _ _ HPn.out.l.sl HPn.out.r.sl).mono ?_
        rintro e w5 ⟨am, acm, bm, bcm, rfl, P, hb⟩
        clear xn0 xn1 xn2 xn3
        have hA : Below w5.heap.size w5 (w5.alloc (.cells (pq (.slice am z.length acm) (.slice bm z.length bcm) true true) 26)) := (Below.refl _ _).alloc (Nat.le_refl _) _
        have hq := hb.trans (hA.mono hb.size)
        replace HXp := hide (HXp.out.below hq)
        replace HXn := hide (HXn.out.below hq)
        replace HPp := hide (HPp.out.below hq)
        replace HPn := hide (HPn.out.below hq)
        replace HB := hide (HB.out.trans (hq.mono HB.out.size))
        have HPm := hide (P.below hA)
        have HXm := hide (bx4 w5 (.slice am z.length acm) (.slice bm z.length bcm) (.bool true) (.bool true) 26)
        clear P hb hA hq
        obtain ⟨xn0, xn1, xn2, xn3⟩ := HXn.out
        obtain ⟨xm0, xm1, xm2, xm3⟩ := HXm.out
        go_wp2_with fail
        refine (sameInts_same _ _ z _ HPn.out.l.sl HPn.out.r.sl (by have := HF4.out; omega)).mono ?_
        rintro e w6 ⟨rfl, hb⟩
        clear xn0 xn1 xn2 xn3 xm0 xm1 xm2 xm3
        replace HXp := hide (HXp.out.below hb)
        replace HXn := hide (HXn.out.below hb)
        replace HXm := hide (HXm.out.below hb)
        replace HPp := hide (HPp.out.below hb)
        replace HPn := hide (HPn.out.below hb)
        replace HPm := hide (HPm.out.below hb)
        replace HB := hide (HB.out.trans (hb.mono HB.out.size))
        clear hb
        obtain ⟨xm0, xm1, xm2, xm3⟩ := HXm.out
        obtain ⟨xn0, xn1, xn2, xn3⟩ := HXn.out
        go_wp2_with fail
        refine (samePair_same _ _ _ _ z z true true _ HPm.out.l.sl HPm.out.r.sl HPn.out.l.sl HPn.out.r.sl (by have := HF4.out; omega)).mono ?_
        rintro e w7 ⟨rfl, hb⟩
        clear xm0 xm1 xm2 xm3 xn0 xn1 xn2 xn3
        replace HXp := hide (HXp.out.below hb)
        replace HXn := hide (HXn.out.below hb)
        replace HXm := hide (HXm.out.below hb)
        replace HPp := hide (HPp.out.below hb)
        replace HPn := hide (HPn.out.below hb)
        replace HPm := hide (HPm.out.below hb)
        replace HB := hide (HB.out.trans (hb.mono HB.out.size))
        clear hb
        go_wp2
        go_ret
        exact ⟨rfl, HB.out⟩
  · rw [mend_no hk] at hI hS
    delta Post PA.no at hI hS
    dsimp only [List.length_nil] at hI hS
    obtain ⟨xp0, xp1, xp2, xp3⟩ := HXp.out
    go_wp2_with fail
    refine (hI _ HPp.out.l.sl HPp.out.r.sl).mono ?_
    rintro e w2 ⟨an, acn, bn, bcn, rfl, P, hb⟩
    clear xp0 xp1 xp2 xp3
    have hA : Below w2.heap.size w2 (w2.alloc (.cells (pq (.slice an 0 acn) (.slice bn 0 bcn) false false) 26)) := (Below.refl _ _).alloc (Nat.le_refl _) _
    have hq := hb.trans (hA.mono hb.size)
    replace HXp := hide (HXp.out.below hq)
    replace HPp := hide (HPp.out.below hq)
    replace HB := hide (HB.out.trans (hq.mono HB.out.size))
    have HPn := hide (P.below hA)
    have HXn := hide (bx4 w2 (.slice an 0 acn) (.slice bn 0 bcn) (.bool false) (.bool false) 26)
    clear P hb hA hq
    obtain ⟨xp0, xp1, xp2, xp3⟩ := HXp.out
    go_wp2_with fail
    refine (hS _ HPp.out.l.sl HPp.out.r.sl).mono ?_
    rintro e w3 ⟨aw, acw, bw, bcw, rfl, P, hb⟩
    clear xp0 xp1 xp2 xp3
    have hA : Below w3.heap.size w3 (w3.alloc (.cells (pq (.slice aw 0 acw) (.slice bw 0 bcw) false false) 26)) := (Below.refl _ _).alloc (Nat.le_refl _) _
    have hq := hb.trans (hA.mono hb.size)
    replace HXp := hide (HXp.out.below hq)
    replace HXn := hide (HXn.out.below hq)
    replace HPp := hide (HPp.out.below hq)
    replace HPn := hide (HPn.out.below hq)
    replace HB := hide (HB.out.trans (hq.mono HB.out.size))
    have HPw := hide (P.below hA)
    have HXw := hide (bx4 w3 (.slice aw 0 acw) (.slice bw 0 bcw) (.bool false) (.bool false) 26)
    clear P hb hA hq
    obtain ⟨xn0, xn1, xn2, xn3⟩ := HXn.out
    obtain ⟨xw0, xw1, xw2, xw3⟩ := HXw.out
    go_wp2_with fail
    refine (samePair_same _ _ _ _ [] [] false false _ HPn.out.l.sl HPn.out.r.sl HPw.out.l.sl HPw.out.r.sl (by simp)).mono ?_
    rintro e w4 ⟨rfl, hb⟩
    clear xn0 xn1 xn2 xn3 xw0 xw1 xw2 xw3
    replace HXp := hide (HXp.out.below hb)
    replace HXn := hide (HXn.out.below hb)
    replace HXw := hide (HXw.out.below hb)
    replace HPp := hide (HPp.out.below hb)
    replace HPn := hide (HPn.out.below hb)
    replace HPw := hide (HPw.out.below hb)
    replace HB := hide (HB.out.trans (hb.mono HB.out.size))
    clear hb
    obtain ⟨xn0, xn1, xn2, xn3⟩ := HXn.out
    obtain ⟨xw0, xw1, xw2, xw3⟩ := HXw.out
    go_wp2_with fail
    refine (samePair_same _ _ _ _ [] [] false false _ HPn.out.l.sl HPn.out.r.sl HPw.out.l.sl HPw.out.r.sl (by simp)).mono ?_
    rintro e w5 ⟨rfl, hb⟩
    clear xn0 xn1 xn2 xn3 xw0 xw1 xw2 xw3
    replace HXp := hide (HXp.out.below hb)
    replace HXn := hide (HXn.out.below hb)
    replace HXw := hide (HXw.out.below hb)
    replace HPp := hide (HPp.out.below hb)
    replace HPn := hide (HPn.out.below hb)
    replace HPw := hide (HPw.out.below hb)
    replace HB := hide (HB.out.trans (hb.mono HB.out.size))
    clear hb
    clear hI hS
    go_wp2
    go_ret
    exact ⟨rfl, HB.out⟩

set_option maxRecDepth 100000 in
theorem lifted (os : Os) (started : os.Started) (H : Type) (enc : TypeId × Value → H) :
    ReturnsInHanded {} Try.checked os 5 .any (Rows.fnPairMendedSpec.pre6 enc Try.prog Try.f5 Rows.fnPairMendedRow.domain false) (Rows.fnPairMendedSpec.post enc Try.prog Try.f5 false true false false) := by
  refine returnsInHanded_of_change (C := Try.checked) own started (by kernel_rfl) Try.func5
    (ChangeSpec.witness6 (enc := enc) (C := Try.checked) false ⟨#[], #[.slice none 0 0], []⟩ 8 (by kernel_rfl) (by kernel_rfl) (by kernel_rfl) (by kernel_rfl)) ?_
  intro W base args ds gs before hval0 hW hcnd _
  have hval : ∀ (j : Nat) t v, Try.f5.params[j]? = some t → args[j]? = some v → Value.okWide Try.prog W .any base t v := hval0
  have hW' := hW
  obtain ⟨p, q, hA0, hV, rfl, hfz, hnd⟩ := hW
  have hA : DataW.TrodAll enc Try.prog W 0 (fun _ => true) true Try.f5.params.toList args.toList ds p := hA0
  rw [Try.params5] at hA hval
  obtain ⟨v0, vs0, d0, ds0, p0, q0, hargs, rfl, rfl, h0, r0⟩ := trodAll_cons hA
  obtain ⟨rfl, rfl, rfl⟩ := trodAll_nil r0
  obtain rfl : args = #[v0] := by cases args; simp_all
  obtain ⟨rfl, rfl⟩ := trodVars_none hV
  obtain ⟨a0, len0, cap0, rfl⟩ := okWide_slice Try.underlying22 (hval 0 22 v0 rfl rfl)
  have k0 := h0
  have lt0 : ∀ x ∈ p0, x.block < W.heap.size := by obtain ⟨m, hm⟩ := k0; exact DataW.trod_lt m _ _ _ hm
  obtain ⟨z0, w0⟩ : ∃ zs, IsRow .u8 W a0 len0 cap0 zs := by
    obtain ⟨fuel, hf⟩ := h0
    rcases open_ints Try.underlying22 Try.underlying5 (by kernel_rfl) hf with ⟨hcs, _⟩ | ⟨x, l, c, zs, hcs, _, hl, hm, hz, _, hcell, hwz⟩
    · simp [Value.cells] at hcs
      obtain ⟨rfl, rfl, rfl⟩ := hcs
      exact ⟨[], .inl ⟨rfl, rfl, rfl, rfl⟩⟩
    · simp [Value.cells] at hcs
      obtain ⟨rfl, rfl, rfl⟩ := hcs
      exact ⟨zs, .inr ⟨_, rfl, hl, hm, by simpa using hz, hcell, hwz⟩⟩
  clear hA0 hval0
  refine (walk a0 len0 cap0 W (row_bt w0)).mono fun e W' ⟨he, bel⟩ => ?_
  subst he
  exact ⟨_, rfl, _, _, _, [], _, [], hW', trodAll_mk1 (shut_bool Try.underlying4 _), (trodAll_cons_mk (Below.trod laidOut (by kernel_rfl) (of_decide_eq_true (by kernel_rfl)) k0 bel lt0) trodAll_mk0), rfl, bel.frame _, fun h => by cases h⟩

theorem over : Rows.fnPairMendedRow.holds Try.pinned (OpenSpec.ofChange Rows.fnPairMendedSpec) :=
  OpenClaim.holds_of_wide 5 Try.f5 rfl rfl rfl rfl rfl rfl rfl ⟨rfl, rfl, rfl, rfl, rfl⟩ rfl rfl rfl rfl rfl (by kernel_rfl) Try.func5 (by kernel_rfl)
    (of_decide_eq_true (by kernel_rfl)) (by unfold Func.isWrapper; first | (rw [if_pos (by decide +kernel)]; kernel_rfl) | (rw [if_neg (by decide +kernel)]; exact ⟨rfl, rfl⟩))
    (fun os started H enc _ => lifted os started H enc)

theorem proved : Rows.FnPairMendedSaid := over
end Go.Proofs.Ytplnfddleaoimaa.fnPairMended

namespace Go.Proofs.Ytplnfddleaoimaa
theorem fnPairMended_holds : Rows.FnPairMendedSaid := fnPairMended.proved
end Go.Proofs.Ytplnfddleaoimaa
