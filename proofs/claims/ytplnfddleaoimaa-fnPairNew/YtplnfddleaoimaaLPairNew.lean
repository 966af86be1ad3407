/- Proved: for every code, of whatever length, laws.FnPairNew returns true and leaves its argument as it read. No condition. -/
import Derived.Test.YtplnfddleaoimaaRows
import Derived.Test.YtplnfddleaoimaaPdA
import Derived.WalkKit
import Derived.ProofKit
import Derived.OpenShut
import Derived.ShutString
import Derived.ChangeOld
import Derived.Below
import Derived.OpenVars
namespace Go.Proofs.Ytplnfddleaoimaa.fnPairNew
open Go.ChangeShapes Go.WideShapes Go.ChangeAt Go.WideMaps Go.WideElems Go.RowKit
set_option linter.unusedVariables false
set_option linter.unusedSimpArgs false

theorem own : ownKnob Try.prog.godebug = none := by kernel_rfl
theorem laidOut : laidOutB Try.prog = true := by kernel_rfl

def IsRow (k : IntKind) (w : World) (a : Option Addr) (len cap : Nat) (zs : List Int) : Prop :=
  (a = none ∧ len = 0 ∧ cap = 0 ∧ zs = []) ∨
  ∃ x, a = some x ∧ len ≤ cap ∧ cap ≤ maxLen ∧ zs.length = cap ∧ (∀ i, i < zs.length → w.cell? (x.add i) = some (.int k (zs.getD i 0))) ∧ ∀ n ∈ zs, (Lit.int k n).wf = true

theorem row_bt {w : World} {a : Option Addr} {len cap : Nat} {z : List Int} (h : IsRow .u8 w a len cap z) : Bt w a len := by
  intro h0
  rcases h with ⟨rfl, rfl, rfl, rfl⟩ | ⟨x, rfl, hl, hm, hz, hcell, hwf⟩
  · exact absurd h0 (by simp)
  · obtain ⟨b, off, spot⟩ := x
    have hc := hcell 0 (by omega)
    have hspot : spot = none := by simpa [Addr.add] using World.cell?_spot hc
    subst hspot
    refine ⟨b, off, rfl, fun j hj => ?_⟩
    have hcj := hcell j (by omega)
    rw [addr_add] at hcj
    have hj' : j < z.length := by omega
    have e : z.getD j 0 = z[j] := by simp [hj']
    have hw := bounds_u8 (hwf z[j] (List.getElem_mem hj'))
    exact ⟨z.getD j 0, by rw [e]; exact hw.1, by rw [e]; exact hw.2, hcj⟩

set_option maxHeartbeats 4000000 in
theorem walk (a0 : Option Addr) (len0 cap0 : Nat) (w : World) (hs : Bt w a0 len0) :
    Calls Try.prog 6 #[.slice a0 len0 cap0] w fun e w' => e = .returned (.bool true) ∧ Below w.heap.size w w' := by
  by_cases hbig : (1048576 : Int) < (len0 : Int)
  · go_enter Try.func6, Try.ntmps6
    go_wp2
    go_ret
    exact ⟨rfl, Below.refl _ _⟩
  have hb : len0 ≤ 1048576 := by omega
  go_enter Try.func6, Try.ntmps6
  go_wp2_with (first | (go_at_call 7; go_in) | fail)
  refine (drawPairNew_any a0 len0 cap0 _ hs hb).mono ?_
  rintro e w1 ⟨k, rfl, hb1⟩
  clear hs
  have hS := fun W => specNew_any k W
  have hI := fun W => implNew_any k W
  by_cases hk : 1 ≤ k ∧ k ≤ 4
  · obtain ⟨n, rfl⟩ : ∃ n : Nat, k = n := ⟨k.toNat, by omega⟩
    rw [aNew_yes n (by omega) (by omega)] at hS hI
    have HP := hide (new_ok n (by omega) (by omega))
    have HR1 : Hid (∀ j : Nat, j < n → rRead (List.replicate n 0) (List.replicate n 0) true true j = .tuple #[.int .i64 0, .bool true]) := hide (fun j hj => new_in n j (by omega) (by omega) hj)
    have HR2 := hide (new_out n)
    have HZ : Hid ((List.replicate n (0 : Int)).length + (List.replicate n (0 : Int)).length ≤ 1048576) := hide (by simp; omega)
    have hRd := fun A B i W h h' => implRead_any A B (List.replicate n 0) (List.replicate n 0) true true i W h h' HZ.out
    have hOk := fun A B W h h' => implPairOk_any A B (List.replicate n 0) (List.replicate n 0) true true W h h' HZ.out
    generalize List.replicate n (0 : Int) = zs at hS hI HP HR1 HR2 HZ hRd hOk
    rw [HP.out] at hOk
    delta Post at hS hI
    dsimp only at hS hI
    have hk4 : n ≤ 4 := by omega
    clear hk
    go_wp2_with fail
    refine (hI _).mono ?_
    rintro e w2 ⟨a1, ac1, b1, bc1, rfl, P1, hb2⟩
    have hA2 : Below w2.heap.size w2 (w2.alloc (.cells (pq (.slice a1 zs.length ac1) (.slice b1 zs.length bc1) true true) 26)) := (Below.refl _ _).alloc (Nat.le_refl _) _
    have X1 := hide (bx4 w2 (.slice a1 zs.length ac1) (.slice b1 zs.length bc1) (.bool true) (.bool true) 26)
    have hq2 := hb2.trans (hA2.mono hb2.size)
    have HB2 := hide (hb1.trans (hq2.mono hb1.size))
    have HP1 := hide (P1.below hA2)
    clear hb1 hb2 hA2 hq2 P1
    go_wp2_with fail
    refine (hS _).mono ?_
    rintro e w3 ⟨a2, ac2, b2, bc2, rfl, P2, hb3⟩
    have hA3 : Below w3.heap.size w3 (w3.alloc (.cells (pq (.slice a2 zs.length ac2) (.slice b2 zs.length bc2) true true) 26)) := (Below.refl _ _).alloc (Nat.le_refl _) _
    have X2 := hide (bx4 w3 (.slice a2 zs.length ac2) (.slice b2 zs.length bc2) (.bool true) (.bool true) 26)
    have hq3 := hb3.trans (hA3.mono hb3.size)
    have HB3 := hide (HB2.out.trans (hq3.mono HB2.out.size))
    replace HP1 := hide (HP1.out.below hq3)
    replace X1 := hide (X1.out.below hq3)
    have HP2 := hide (P2.below hA3)
    clear hb3 hA3 hq3 P2 HB2
    obtain ⟨x0, x1, x2, x3⟩ := X1.out
    obtain ⟨y0, y1, y2, y3⟩ := X2.out
    go_wp2_with fail
    refine (samePair_same _ _ _ _ zs zs true true _ HP1.out.l.sl HP1.out.r.sl HP2.out.l.sl HP2.out.r.sl HZ.out).mono ?_
    rintro e W ⟨rfl, hb4⟩
    have HBW := hide (HB3.out.trans (hb4.mono HB3.out.size))
    replace HP1 := hide (HP1.out.below hb4)
    replace X1 := hide (X1.out.below hb4)
    clear x0 x1 x2 x3 y0 y1 y2 y3 hb4 X2 HP2 HB3 hS hI
    go_wp2
    go_loopw [8] (fun i wr => ∃ j : Nat, j ≤ n ∧ i = .int .i64 j ∧ Hid (Below W.heap.size W wr)) (fun i _ => n - (intOf i).toNat)
    case atStart => exact ⟨0, Nat.zero_le _, rfl, hide (Below.refl _ _)⟩
    case round =>
      obtain ⟨j, hj, rfl, HR⟩ := hrel
      obtain ⟨x0, x1, x2, x3⟩ := X1.out.below HR.out
      have HPj := hide (HP1.out.below HR.out)
      by_cases hlt : j < n
      · have hr := HR1.out j hlt
        have hRj := fun A B W h h' => hRd A B j W h h'
        rw [hr] at hRj
        clear hr hRd
        go_wp2_with fail
        refine (hRj _ _ _ HPj.out.l.sl HPj.out.r.sl).mono ?_
        rintro e w5 ⟨rfl, hb5⟩
        have HR2' := hide (HR.out.trans (hb5.mono HR.out.size))
        clear hb5 hRj HPj x0 x1 x2 x3
        go_wp2
        go_roundw
        case rel => exact ⟨j + 1, by omega, by go_num, HR2'⟩
        case measure => simp [intOf]; omega
      · have e : j = n := by omega
        subst e
        have hRj := fun A B W h h' => hRd A B j W h h'
        rw [HR2.out] at hRj
        clear hRd
        go_wp2_with fail
        refine (hRj _ _ _ HPj.out.l.sl HPj.out.r.sl).mono ?_
        rintro e w5 ⟨rfl, hb5⟩
        have HB5 := hide ((HBW.out.trans (HR.out.mono HBW.out.size)).trans (hb5.mono (HBW.out.trans (HR.out.mono HBW.out.size)).size))
        obtain ⟨z0, z1, z2, z3⟩ : B4 w5 w2.heap.size _ _ _ _ := B4.below ⟨x0, x1, x2, x3⟩ hb5
        have HP5 := hide (HPj.out.below hb5)
        clear hb5 hRj HPj x0 x1 x2 x3
        go_wp2_with fail
        refine (hOk _ _ _ HP5.out.l.sl HP5.out.r.sl).mono ?_
        rintro e w6 ⟨rfl, hb6⟩
        have HB6 := hide (HB5.out.trans (hb6.mono HB5.out.size))
        clear hb6 HB5 HP5 z0 z1 z2 z3
        go_wp2
        go_ret
        exact ⟨rfl, HB6.out⟩
  · rw [aNew_no k hk] at hS hI
    delta Post PA.no at hS hI
    dsimp only [List.length_nil] at hS hI
    clear hk
    go_wp2_with fail
    refine (hI _).mono ?_
    rintro e w2 ⟨a1, ac1, b1, bc1, rfl, P1, hb2⟩
    have hA2 : Below w2.heap.size w2 (w2.alloc (.cells (pq (.slice a1 0 ac1) (.slice b1 0 bc1) false false) 26)) := (Below.refl _ _).alloc (Nat.le_refl _) _
    have X1 := hide (bx4 w2 (.slice a1 0 ac1) (.slice b1 0 bc1) (.bool false) (.bool false) 26)
    have hq2 := hb2.trans (hA2.mono hb2.size)
    have HB2 := hide (hb1.trans (hq2.mono hb1.size))
    have HP1 := hide (P1.below hA2)
    clear hb1 hb2 hA2 hq2 P1
    go_wp2_with fail
    refine (hS _).mono ?_
    rintro e w3 ⟨a2, ac2, b2, bc2, rfl, P2, hb3⟩
    have hA3 : Below w3.heap.size w3 (w3.alloc (.cells (pq (.slice a2 0 ac2) (.slice b2 0 bc2) false false) 26)) := (Below.refl _ _).alloc (Nat.le_refl _) _
    have X2 := hide (bx4 w3 (.slice a2 0 ac2) (.slice b2 0 bc2) (.bool false) (.bool false) 26)
    have hq3 := hb3.trans (hA3.mono hb3.size)
    have HB3 := hide (HB2.out.trans (hq3.mono HB2.out.size))
    replace HP1 := hide (HP1.out.below hq3)
    replace X1 := hide (X1.out.below hq3)
    have HP2 := hide (P2.below hA3)
    clear hb3 hA3 hq3 P2 HB2
    obtain ⟨x0, x1, x2, x3⟩ := X1.out
    obtain ⟨y0, y1, y2, y3⟩ := X2.out
    go_wp2_with fail
    refine (samePair_same _ _ _ _ [] [] false false _ HP1.out.l.sl HP1.out.r.sl HP2.out.l.sl HP2.out.r.sl (by simp)).mono ?_
    rintro e w4 ⟨rfl, hb4⟩
    have HB4 := hide (HB3.out.trans (hb4.mono HB3.out.size))
    replace HP1 := hide (HP1.out.below hb4)
    replace HP2 := hide (HP2.out.below hb4)
    replace X1 := hide (X1.out.below hb4)
    replace X2 := hide (X2.out.below hb4)
    clear x0 x1 x2 x3 y0 y1 y2 y3 hb4 HB3
    obtain ⟨x0, x1, x2, x3⟩ := X1.out
    obtain ⟨y0, y1, y2, y3⟩ := X2.out
    go_wp2_with fail
    refine (samePair_same _ _ _ _ [] [] false false _ HP1.out.l.sl HP1.out.r.sl HP2.out.l.sl HP2.out.r.sl (by simp)).mono ?_
    rintro e w5 ⟨rfl, hb5⟩
    have HB5 := hide (HB4.out.trans (hb5.mono HB4.out.size))
    clear x0 x1 x2 x3 y0 y1 y2 y3 hb5 HB4 HP1 HP2 X1 X2 hS hI
    go_wp2
    go_ret
    exact ⟨rfl, HB5.out⟩

set_option maxRecDepth 100000 in
theorem lifted (os : Os) (started : os.Started) (H : Type) (enc : TypeId × Value → H) :
    ReturnsInHanded {} Try.checked os 6 .any (Rows.fnPairNewSpec.pre6 enc Try.prog Try.f6 Rows.fnPairNewRow.domain false) (Rows.fnPairNewSpec.post enc Try.prog Try.f6 false true false false) := by
  refine returnsInHanded_of_change (C := Try.checked) own started (by kernel_rfl) Try.func6
    (ChangeSpec.witness6 (enc := enc) (C := Try.checked) false ⟨#[], #[.slice none 0 0], []⟩ 8 (by kernel_rfl) (by kernel_rfl) (by kernel_rfl) (by kernel_rfl)) ?_
  intro W base args ds gs before hval0 hW hcnd _
  have hval : ∀ (j : Nat) t v, Try.f6.params[j]? = some t → args[j]? = some v → Value.okWide Try.prog W .any base t v := hval0
  have hW' := hW
  obtain ⟨p, q, hA0, hV, rfl, hfz, hnd⟩ := hW
  have hA : DataW.TrodAll enc Try.prog W 0 (fun _ => true) true Try.f6.params.toList args.toList ds p := hA0
  rw [Try.params6] at hA hval
  obtain ⟨v0, vs0, d0, ds0, p0, q0, hargs, rfl, rfl, h0, r0⟩ := trodAll_cons hA
  obtain ⟨rfl, rfl, rfl⟩ := trodAll_nil r0
  obtain rfl : args = #[v0] := by cases args; simp_all
  obtain ⟨rfl, rfl⟩ := trodVars_none hV
  obtain ⟨a0, len0, cap0, rfl⟩ := okWide_slice Try.underlying22 (hval 0 22 v0 rfl rfl)
  have k0 := h0
  have lt0 : ∀ x ∈ p0, x.block < W.heap.size := by obtain ⟨m, hm⟩ := k0; exact DataW.trod_lt m _ _ _ hm
  obtain ⟨z0, w0⟩ : ∃ zs, IsRow .u8 W a0 len0 cap0 zs := by
    obtain ⟨fuel, hf⟩ := h0
    rcases open_ints Try.underlying22 Try.underlying5 (by kernel_rfl) hf with ⟨hcs, _⟩ | ⟨x, l, c, zs, hcs, _, hl, hm, hz, _, hcell, hwz⟩
    · simp [Value.cells] at hcs
      obtain ⟨rfl, rfl, rfl⟩ := hcs
      exact ⟨[], .inl ⟨rfl, rfl, rfl, rfl⟩⟩
    · simp [Value.cells] at hcs
      obtain ⟨rfl, rfl, rfl⟩ := hcs
      exact ⟨zs, .inr ⟨_, rfl, hl, hm, by simpa using hz, hcell, hwz⟩⟩
  clear hA0 hval0
  refine (walk a0 len0 cap0 W (row_bt w0)).mono fun e W' ⟨he, bel⟩ => ?_
  subst he
  exact ⟨_, rfl, _, _, _, [], _, [], hW', trodAll_mk1 (shut_bool Try.underlying4 _), (trodAll_cons_mk (Below.trod laidOut (by kernel_rfl) (of_decide_eq_true (by kernel_rfl)) k0 bel lt0) trodAll_mk0), rfl, bel.frame _, fun h => by cases h⟩

theorem over : Rows.fnPairNewRow.holds Try.pinned (OpenSpec.ofChange Rows.fnPairNewSpec) :=
  OpenClaim.holds_of_wide 6 Try.f6 rfl rfl rfl rfl rfl rfl rfl ⟨rfl, rfl, rfl, rfl, rfl⟩ rfl rfl rfl rfl rfl (by kernel_rfl) Try.func6 (by kernel_rfl)
    (of_decide_eq_true (by kernel_rfl)) (by unfold Func.isWrapper; first | (rw [if_pos (by decide +kernel)]; kernel_rfl) | (rw [if_neg (by decide +kernel)]; exact ⟨rfl, rfl⟩))
    (fun os started H enc _ => lifted os started H enc)

theorem proved : Rows.FnPairNewSaid := over
end Go.Proofs.Ytplnfddleaoimaa.fnPairNew

namespace Go.Proofs.Ytplnfddleaoimaa
theorem fnPairNew_holds : Rows.FnPairNewSaid := fnPairNew.proved
end Go.Proofs.Ytplnfddleaoimaa
