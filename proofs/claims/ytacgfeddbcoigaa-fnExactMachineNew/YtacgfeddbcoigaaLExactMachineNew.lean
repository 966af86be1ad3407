/- Proved: for any two numbers, laws.FnExactMachineNew returns true. No condition. -/
import Derived.Test.YtacgfeddbcoigaaRows
import Derived.Test.YtacgfeddbcoigaaMnD
import Derived.WalkKit
import Derived.ProofKit
import Derived.OpenShut
import Derived.ShutString
import Derived.ChangeOld
import Derived.Below
import Derived.OpenVars
namespace Go.Proofs.Ytacgfeddbcoigaa.fnExactMachineNew
open Go.ChangeShapes Go.WideShapes Go.ChangeAt Go.WideMaps Go.WideElems Go.RowKit
set_option linter.unusedVariables false
set_option linter.unusedSimpArgs false

theorem own : ownKnob Try.prog.godebug = none := by kernel_rfl
theorem laidOut : laidOutB Try.prog = true := by kernel_rfl

abbrev nl : Value := .slice none 0 0
abbrev nM : Array Value := mc3 nl nl nl

set_option maxHeartbeats 4000000 in
theorem walk_no (c l : Int) (w : World) (h : sizeB c l = false) :
    Calls Try.prog 3 #[.int .i64 c, .int .i64 l] w fun e w' => e = .returned (.bool true) ∧ Below w.heap.size w w' := by
  have hS := fun W => specNew_no c l W h
  have hI := fun W => implNew_no c l W h
  have hE := fun W => eqMachine_same nl nl nl nl nl nl 0 0 0 (fun _ => 0) (fun _ _ _ => 0) (fun _ => zLn) (fun _ _ => 0) W (nil_Ss _ _ _) (nil_Ss _ _ _) (nil_Ls _ _) (nil_Ls _ _) (nil_Sr _ _ _) (nil_Sr _ _ _) (by omega) (fun c hc => absurd hc (by omega)) (by omega) (fun c hc => absurd hc (by omega)) (by omega)
  clear h
  go_enter Try.func3, Try.ntmps3
  go_wp2_with fail
  refine (hS _).mono ?_
  rintro e w1 ⟨rfl, hb1⟩
  have hA1 : Below w1.heap.size w1 (w1.alloc (.cells nM 26)) := (Below.refl _ _).alloc (Nat.le_refl _) _
  have X0 := hide (bx3 w1 nl nl nl 26)
  have HB := hide (hb1.trans (hA1.mono hb1.size))
  clear hb1 hA1 hS
  go_wp2_with fail
  refine (hI _).mono ?_
  rintro e w2 ⟨rfl, hb2⟩
  have hA2 : Below w2.heap.size w2 (w2.alloc (.cells nM 26)) := (Below.refl _ _).alloc (Nat.le_refl _) _
  have X1 := hide (bx3 w2 nl nl nl 26)
  have hq := hb2.trans (hA2.mono hb2.size)
  replace HB := hide (HB.out.trans (hq.mono HB.out.size))
  replace X0 := hide (X0.out.below hq)
  clear hb2 hA2 hq
  obtain ⟨p0, p1, p2⟩ := X0.out
  obtain ⟨q0, q1, q2⟩ := X1.out
  go_wp2_with fail
  refine (hE _).mono ?_
  rintro e w3 ⟨rfl, hb⟩
  replace HB := hide (HB.out.trans (hb.mono HB.out.size))
  replace X0 := hide (X0.out.below hb)
  replace X1 := hide (X1.out.below hb)
  clear hb p0 p1 p2 q0 q1 q2
  obtain ⟨q0, q1, q2⟩ := X1.out
  go_wp2_with fail
  refine (markMachine_nil _).mono ?_
  rintro e w4 ⟨rfl, hb⟩
  replace HB := hide (HB.out.trans (hb.mono HB.out.size))
  replace X0 := hide (X0.out.below hb)
  replace X1 := hide (X1.out.below hb)
  clear hb q0 q1 q2
  obtain ⟨q0, q1, q2⟩ := X1.out
  go_wp2_with fail
  refine (heldMachine_nil _).mono ?_
  rintro e w5 ⟨rfl, hb⟩
  replace HB := hide (HB.out.trans (hb.mono HB.out.size))
  replace X0 := hide (X0.out.below hb)
  replace X1 := hide (X1.out.below hb)
  clear hb q0 q1 q2
  go_wp2_with fail
  refine (hI _).mono ?_
  rintro e w6 ⟨rfl, hb2⟩
  have hA2 : Below w6.heap.size w6 (w6.alloc (.cells nM 26)) := (Below.refl _ _).alloc (Nat.le_refl _) _
  have X2 := hide (bx3 w6 nl nl nl 26)
  have hq := hb2.trans (hA2.mono hb2.size)
  replace HB := hide (HB.out.trans (hq.mono HB.out.size))
  replace X0 := hide (X0.out.below hq)
  replace X1 := hide (X1.out.below hq)
  clear hb2 hA2 hq hI
  obtain ⟨p0, p1, p2⟩ := X0.out
  obtain ⟨q0, q1, q2⟩ := X2.out
  go_wp2_with fail
  refine (hE _).mono ?_
  rintro e w7 ⟨rfl, hb⟩
  replace HB := hide (HB.out.trans (hb.mono HB.out.size))
  replace X1 := hide (X1.out.below hb)
  clear hb p0 p1 p2 q0 q1 q2 X0 X2
  obtain ⟨q0, q1, q2⟩ := X1.out
  go_wp2_with fail
  refine (heldMachine_nil _).mono ?_
  rintro e w8 ⟨rfl, hb⟩
  replace HB := hide (HB.out.trans (hb.mono HB.out.size))
  clear hb q0 q1 q2 X1 hE
  go_wp2
  go_ret
  exact ⟨rfl, HB.out⟩

set_option maxHeartbeats 8000000 in
theorem walk_yes (C N : Nat) (w : World) (hC : C ≤ 5) (hN : N ≤ 4) (h : sizeB (C : Int) (N : Int) = true) :
    Calls Try.prog 3 #[.int .i64 C, .int .i64 N] w fun e w' => e = .returned (.bool true) ∧ Below w.heap.size w w' := by
  have hS := fun W => specNew_yes C N W hC hN h
  have hI := fun W => implNew_yes C N W hC hN h
  have hE := fun a0 a1 b0 b1 W hs hs' hl hl' => eqMachine_same a0 a1 nl b0 b1 nl C N 0 (fun _ => N) (fun _ _ _ => 0) (fun _ => zLn) (fun _ _ => 0) W hs hs' hl hl' (nil_Sr _ _ _) (nil_Sr _ _ _) (by omega) (fun c hc => by show N ≤ 1048576; omega) (by omega) (fun c hc => by show ([] : List Int).length ≤ 1048576 ∧ 0 ≤ 1048576; decide) (by omega)
  have HCN := hide (And.intro hC hN)
  clear h hC hN
  go_enter Try.func3, Try.ntmps3
  go_wp2_with fail
  refine (hS _).mono ?_
  rintro e w1 ⟨xa, ya, g0, rfl, s0⟩
  have hA1 : Below w1.heap.size w1 (w1.alloc (.cells (mc3 (.slice xa C ya) (full g0 N) nl) 26)) := (Below.refl _ _).alloc (Nat.le_refl _) _
  have X0 := hide (bx3 w1 (.slice xa C ya) (full g0 N) nl 26)
  have HB := hide (s0.bel.trans (hA1.mono s0.bel.size))
  have HV := hide (And.intro (s0.ss.below hA1) (s0.ls.below hA1))
  have HZ := hide (And.intro s0.bel.size (show (w1.alloc (.cells (mc3 (.slice xa C ya) (full g0 N) nl) 26)).heap.size = w1.heap.size + 1 by simp))
  clear s0 hA1 hS
  go_wp2_with fail
  generalize hV1 : (World.alloc _ _) = V1 at X0 HB HV HZ ⊢
  clear hV1
  refine (hI _).mono ?_
  rintro e w2 ⟨g1, g2, ib, rfl, m⟩
  have hA2 : Below w2.heap.size w2 (w2.alloc (.cells (mc3 (full g1 C) (full g2 N) nl) 26)) := (Below.refl _ _).alloc (Nat.le_refl _) _
  have X1 := hide (bx3 w2 (full g1 C) (full g2 N) nl 26)
  have hq := m.bel.trans (hA2.mono m.bel.size)
  replace HB := hide (HB.out.trans (hq.mono HB.out.size))
  replace X0 := hide (X0.out.below hq)
  have HB1 := hide hq
  have HM := hide (And.intro (m.rv.below hA2) (And.intro (m.wc2.below hA2) (m.nol.below hA2)))
  have HMv := hide (And.intro (m.ss.below hA2) (m.ls.below hA2))
  have HQ := hide (And.intro m.ne (And.intro m.lo (And.intro m.hi (And.intro m.wc2.lt (And.intro (fun c hc => (m.rv.wc c hc).lt) hA2.size)))))
  clear m hA2 hq
  obtain ⟨p0, p1, p2⟩ := X0.out
  obtain ⟨q0, q1, q2⟩ := X1.out
  go_wp2_with fail
  generalize hV2 : (World.alloc _ _) = V2 at X0 X1 HB HB1 HM HMv HQ ⊢
  clear hV2 p0 p1 p2 q0 q1 q2
  refine (hE _ _ _ _ _ HMv.out.1 (HV.out.1.below HB1.out) HMv.out.2 (HV.out.2.below HB1.out)).mono ?_
  rintro e w3 ⟨rfl, hb⟩
  replace HB := hide (HB.out.trans (hb.mono HB.out.size))
  replace HB1 := hide (HB1.out.trans (hb.mono HB1.out.size))
  replace X0 := hide (X0.out.below hb)
  replace X1 := hide (X1.out.below hb)
  replace HM := hide (And.intro (HM.out.1.below hb) (And.intro (HM.out.2.1.below hb) (HM.out.2.2.below hb)))
  have hsz3 := hb.size
  have HZ3 := hide hsz3
  clear hb hsz3 HMv
  obtain ⟨q0, q1, q2⟩ := X1.out
  go_wp2_with fail
  refine (markMachinev g1 g2 C N ib _ HM.out.1 HM.out.2.1 HM.out.2.2 HQ.out.1.1 HQ.out.1.2 (by have := HQ.out.2.2.1; have := HQ.out.2.2.2.2.2; have := HZ3.out; omega) HCN.out.1 HCN.out.2).mono ?_
  rintro e w4 ⟨rfl, hc, mv⟩
  have hKb := (ks_bound 1 N HCN.out.2 C).1
  have hheld := fun W h => heldMachinev g1 g2 C N ib W h HCN.out.1 HCN.out.2
  have hSlo : ∀ j, (j = g2 ∨ ∃ c, c < C ∧ j = ib c) → V1.heap.size ≤ j ∧ j < w2.heap.size := by
    rintro j (rfl | ⟨c, hcc, rfl⟩)
    · exact ⟨HQ.out.2.1.2.1, HQ.out.2.2.2.1⟩
    · exact ⟨HQ.out.2.1.2.2 c hcc, HQ.out.2.2.2.2.1 c hcc⟩
  replace HB := hide (below_chg HB.out hc (fun j hj => by have := (hSlo j hj).1; have := HZ.out; omega) (by have := HB.out.size; omega))
  replace HB1 := hide (below_chg HB1.out hc (fun j hj => (hSlo j hj).1) HB1.out.size)
  replace X0 := hide (X0.out.chg hc (fun hj => by have := (hSlo _ hj).1; have := HZ.out; omega))
  replace X1 := hide (X1.out.chg hc (fun hj => by have := (hSlo _ hj).2; omega))
  have HMV := hide mv
  have hKn : ¬ (ks 1 N C + 5 * (N : Int) < 0) := by omega
  generalize ks 1 N C + 5 * (N : Int) = K0 at hheld hKn ⊢
  clear hc mv hKb hSlo q0 q1 q2 HM
  obtain ⟨q0, q1, q2⟩ := X1.out
  go_wp2_with fail
  refine (hheld _ HMV.out).mono ?_
  rintro e w5 ⟨rfl, hb⟩
  replace HB := hide (HB.out.trans (hb.mono HB.out.size))
  replace HB1 := hide (HB1.out.trans (hb.mono HB1.out.size))
  replace X0 := hide (X0.out.below hb)
  replace X1 := hide (X1.out.below hb)
  replace HMV := hide (HMV.out.below hb)
  clear hb q0 q1 q2
  go_wp2_with fail
  refine (hI _).mono ?_
  rintro e w6 ⟨k1, k2, jb, rfl, m⟩
  have hA6 : Below w6.heap.size w6 (w6.alloc (.cells (mc3 (full k1 C) (full k2 N) nl) 26)) := (Below.refl _ _).alloc (Nat.le_refl _) _
  have X2 := hide (bx3 w6 (full k1 C) (full k2 N) nl 26)
  have hq := m.bel.trans (hA6.mono m.bel.size)
  replace HB := hide (HB.out.trans (hq.mono HB.out.size))
  replace HB1 := hide (HB1.out.trans (hq.mono HB1.out.size))
  replace X0 := hide (X0.out.below hq)
  replace X1 := hide (X1.out.below hq)
  replace HMV := hide (HMV.out.below hq)
  have HMv := hide (And.intro (m.ss.below hA6) (m.ls.below hA6))
  clear m hA6 hq hI
  obtain ⟨p0, p1, p2⟩ := X0.out
  obtain ⟨q0, q1, q2⟩ := X2.out
  go_wp2_with fail
  refine (hE _ _ _ _ _ HMv.out.1 (HV.out.1.below HB1.out) HMv.out.2 (HV.out.2.below HB1.out)).mono ?_
  rintro e w7 ⟨rfl, hb⟩
  replace HB := hide (HB.out.trans (hb.mono HB.out.size))
  replace X1 := hide (X1.out.below hb)
  replace HMV := hide (HMV.out.below hb)
  clear hb p0 p1 p2 q0 q1 q2 X0 X2 HMv
  obtain ⟨q0, q1, q2⟩ := X1.out
  go_wp2_with fail
  refine (hheld _ HMV.out).mono ?_
  rintro e w8 ⟨rfl, hb⟩
  replace HB := hide (HB.out.trans (hb.mono HB.out.size))
  clear hb q0 q1 q2 X1 hE hheld HMV
  go_wp2
  go_ret
  exact ⟨rfl, HB.out⟩

theorem walk (c l : Int) (w : World) :
    Calls Try.prog 3 #[.int .i64 c, .int .i64 l] w fun e w' => e = .returned (.bool true) ∧ Below w.heap.size w w' := by
  cases h : sizeB c l with
  | false => exact walk_no c l w h
  | true =>
    have h2 := h
    unfold sizeB at h2
    rw [Bool.and_eq_true] at h2
    have hc : 2 ≤ c ∧ c ≤ 5 := by simpa [inB] using h2.1
    have hl : 1 ≤ l ∧ l ≤ 4 := by simpa [inB] using h2.2
    obtain ⟨C, rfl⟩ : ∃ C : Nat, c = C := ⟨c.toNat, by omega⟩
    obtain ⟨N, rfl⟩ : ∃ N : Nat, l = N := ⟨l.toNat, by omega⟩
    exact walk_yes C N w (by omega) (by omega) h

set_option maxRecDepth 100000 in
theorem lifted (os : Os) (started : os.Started) (H : Type) (enc : TypeId × Value → H) :
    ReturnsInHanded {} Try.checked os 3 .any (Rows.fnExactMachineNewSpec.pre6 enc Try.prog Try.f3 Rows.fnExactMachineNewRow.domain false) (Rows.fnExactMachineNewSpec.post enc Try.prog Try.f3 false true false false) := by
  refine returnsInHanded_of_change (C := Try.checked) own started (by kernel_rfl) Try.func3
    (ChangeSpec.witness6 (enc := enc) (C := Try.checked) false ⟨#[], #[.int .i64 0, .int .i64 0], []⟩ 8 (by kernel_rfl) (by kernel_rfl) (by kernel_rfl) (by kernel_rfl)) ?_
  intro W base args ds gs before hval0 hW hcnd _
  have hval : ∀ (j : Nat) t v, Try.f3.params[j]? = some t → args[j]? = some v → Value.okWide Try.prog W .any base t v := hval0
  have hW' := hW
  obtain ⟨p, q, hA0, hV, rfl, hfz, hnd⟩ := hW
  have hA : DataW.TrodAll enc Try.prog W 0 (fun _ => true) true Try.f3.params.toList args.toList ds p := hA0
  rw [Try.params3] at hA hval
  obtain ⟨v0, vs0, d0, ds0, p0, q0, hargs, rfl, rfl, h0, r0⟩ := trodAll_cons hA
  obtain ⟨v1, vs1, d1, ds1, p1, q1, rfl, rfl, rfl, h1, r1⟩ := trodAll_cons r0
  obtain ⟨rfl, rfl, rfl⟩ := trodAll_nil r1
  obtain rfl : args = #[v0, v1] := by cases args; simp_all
  obtain ⟨rfl, rfl⟩ := trodVars_none hV
  obtain ⟨a0, rfl, rfl, rfl, w0⟩ := open_int Try.underlying2 (hval 0 2 v0 rfl rfl) h0
  obtain ⟨a1, rfl, rfl, rfl, w1⟩ := open_int Try.underlying2 (hval 1 2 v1 rfl rfl) h1
  clear hA0 hval0
  refine (walk a0 a1 W ).mono fun e W' ⟨he, bel⟩ => ?_
  subst he
  exact ⟨_, rfl, _, _, _, [], _, [], hW', trodAll_mk1 (shut_bool Try.underlying4 _), (trodAll_cons_mk (shut_int Try.underlying2 w0) (trodAll_cons_mk (shut_int Try.underlying2 w1) trodAll_mk0)), rfl, bel.frame _, fun h => by cases h⟩

theorem over : Rows.fnExactMachineNewRow.holds Try.pinned (OpenSpec.ofChange Rows.fnExactMachineNewSpec) :=
  OpenClaim.holds_of_wide 3 Try.f3 rfl rfl rfl rfl rfl rfl rfl ⟨rfl, rfl, rfl, rfl, rfl⟩ rfl rfl rfl rfl rfl (by kernel_rfl) Try.func3 (by kernel_rfl)
    (of_decide_eq_true (by kernel_rfl)) (by unfold Func.isWrapper; first | (rw [if_pos (by decide +kernel)]; kernel_rfl) | (rw [if_neg (by decide +kernel)]; exact ⟨rfl, rfl⟩))
    (fun os started H enc _ => lifted os started H enc)

theorem proved : Rows.FnExactMachineNewSaid := over
end Go.Proofs.Ytacgfeddbcoigaa.fnExactMachineNew

namespace Go.Proofs.Ytacgfeddbcoigaa
theorem fnExactMachineNew_holds : Rows.FnExactMachineNewSaid := fnExactMachineNew.proved
end Go.Proofs.Ytacgfeddbcoigaa
