/- Proved: for every number, laws.FnExactTsoNew returns true. No condition. -/
import Derived.Test.YtnodnclpeldpdaaRows
import Derived.Test.YtnodnclpeldpdaaTnC
import Derived.WalkKit
import Derived.ProofKit
import Derived.OpenShut
import Derived.ShutString
import Derived.ChangeOld
import Derived.Below
import Derived.OpenVars
namespace Go.Proofs.Ytnodnclpeldpdaa.fnExactTsoNew
open Go.ChangeShapes Go.WideShapes Go.ChangeAt Go.WideMaps Go.WideElems Go.RowKit
set_option linter.unusedVariables false
set_option linter.unusedSimpArgs false

theorem own : ownKnob Try.prog.godebug = none := by kernel_rfl
theorem laidOut : laidOutB Try.prog = true := by kernel_rfl

set_option maxHeartbeats 8000000 in
theorem walk (n : Int) (w : World) :
    Calls Try.prog 3 #[.int .i64 n] w fun e w' => e = .returned (.bool true) ∧ Below w.heap.size w w' := by
  obtain ⟨zs, C, ok, hz, hC, hI, hS⟩ := new_both n
  have HL := hide (And.intro hz hC)
  clear hz hC
  delta NPost at hI hS
  have HT := hide (zz_tl HL.out.1 HL.out.2)
  go_enter Try.func3, Try.ntmps3
  go_wp2_with fail
  refine (hS _).mono ?_
  rintro e w1 ⟨m0, b0, r0, vr0, tag0, rfl, ta0, hb1⟩
  clear hS
  obtain ⟨xa, ya, xb, yb, xc, yc, rfl, rfl, rfl⟩ := ta0.forms
  obtain ⟨tg0, ta0, ht0⟩ := ta0.tagOff
  have hA1 : Below w1.heap.size w1 (w1.alloc (.cells #[.slice xa zs.length ya, .slice xb C yb, .slice xc C yc] 26)) := (Below.refl _ _).alloc (Nat.le_refl _) _
  have X0 := hide (show B3 _ w1.heap.size _ _ _ from box3 w1 (.slice xa zs.length ya) (.slice xb C yb) (.slice xc C yc) 26)
  have HB := hide (hb1.trans (hA1.mono hb1.size))
  have T0 := hide (ta0.below hA1)
  have HZ1 := hide (And.intro hb1.size (And.intro hA1.size ht0))
  have hs1 : (w1.alloc (.cells #[.slice xa zs.length ya, .slice xb C yb, .slice xc C yc] 26)).heap.size = w1.heap.size + 1 := by simp
  have HS1 := hide hs1
  clear ta0 hb1 hA1 ht0 hs1
  go_wp2_with fail
  refine (hI _).mono ?_
  rintro e w2 ⟨m1, b1, r1, vr1, tag1, rfl, ta1, hb2⟩
  obtain ⟨ua, va, ub, vb, uc, vc, rfl, rfl, rfl⟩ := ta1.forms
  obtain ⟨tg1, ta1, ht1⟩ := ta1.tagOff
  have hA2 : Below w2.heap.size w2 (w2.alloc (.cells #[.slice ua zs.length va, .slice ub C vb, .slice uc C vc] 26)) := (Below.refl _ _).alloc (Nat.le_refl _) _
  have X1 := hide (show B3 _ w2.heap.size _ _ _ from box3 w2 (.slice ua zs.length va) (.slice ub C vb) (.slice uc C vc) 26)
  have hq2 := hb2.trans (hA2.mono hb2.size)
  replace HB := hide (HB.out.trans (hq2.mono HB.out.size))
  replace X0 := hide (X0.out.below hq2)
  replace T0 := hide (T0.out.below hq2)
  have T1 := hide (ta1.below hA2)
  have HZ2 := hide (And.intro hb2.size (And.intro hA2.size ht1))
  rw [HS1.out] at HZ2 T1
  clear ta1 hb2 hA2 hq2 ht1
  obtain ⟨p0, p1, p2⟩ := X0.out
  obtain ⟨q0, q1, q2⟩ := X1.out
  go_wp2_with fail
  refine (eqTso_same _ _ _ _ _ _ zs C z0L z0F C z0Z _ T1.out.tv T0.out.tv HT.out).mono ?_
  rintro e w3 ⟨rfl, hb3⟩
  replace HB := hide (HB.out.trans (hb3.mono HB.out.size))
  replace X0 := hide (X0.out.below hb3)
  replace X1 := hide (X1.out.below hb3)
  replace T0 := hide (T0.out.below hb3)
  replace T1 := hide (T1.out.below hb3)
  have HZ3 := hide hb3.size
  clear hb3 p0 p1 p2 q0 q1 q2
  obtain ⟨q0, q1, q2⟩ := X1.out
  go_wp2_with fail
  refine (markTso_tb T1.out (fun g hg => HZ2.out.2.2 g (by have := HZ2.out.2.1; have := HZ3.out; omega)) (by decide) (by decide) HT.out.mem (by have := HL.out; omega) HT.out.buf.2 (by have := HL.out; omega) HT.out.reg.2).mono ?_
  rintro e w4 ⟨rfl, ta4, hc4⟩
  have hK : 1 ≤ mkK 1 zs.length C z0L C z0Z := mkK_ge _ _ _ _ _ _
  have hheld := fun W (h : Ta W _ _ _ _ _ _ _ _ _ _ _ _ _) => heldTso_ta (w := W) (k := 1) (n := zs.length) (C := C) (L := z0L) (F := z0F) (R := C) (Z := z0Z) (base := w1.heap.size + 1) (mv := .slice ua zs.length va) (bv := .slice ub C vb) (rv := .slice uc C vc) (vb := z0V) (vr := vr1) (tag := tg1) h (by decide) (by decide) HT.out.mem (by have := HL.out; omega) HT.out.buf.2 (by have := HL.out; omega) HT.out.reg.2
  replace HB := hide (below_chg HB.out hc4 (fun j hj => by have := hj.1; have := HZ1.out.1; omega) (by have := HB.out.size; omega))
  replace X0 := hide (X0.out.chg hc4 (fun hj => by have := hj.1; omega))
  replace X1 := hide (X1.out.chg hc4 (fun hj => hj.2 (HZ2.out.2.2 _ (Nat.le_refl _))))
  replace T0 := hide (T0.out.off hc4 (fun j hj => .inr (HZ1.out.2.2 j (by have := hj.1; omega))) (by have := HL.out; omega) (by have := HL.out; omega))
  replace T1 := hide ta4
  generalize mkK 1 zs.length C z0L C z0Z = K0 at hK hheld ⊢
  have hKn : ¬ (K0 < 0) := by omega
  clear ta4 hc4 q0 q1 q2
  obtain ⟨q0, q1, q2⟩ := X1.out
  go_wp2_with fail
  refine (hheld _ T1.out).mono ?_
  rintro e w5 ⟨rfl, hb5⟩
  replace HB := hide (HB.out.trans (hb5.mono HB.out.size))
  replace X0 := hide (X0.out.below hb5)
  replace X1 := hide (X1.out.below hb5)
  replace T0 := hide (T0.out.below hb5)
  replace T1 := hide (T1.out.below hb5)
  clear hb5 q0 q1 q2
  go_wp2_with fail
  refine (hI _).mono ?_
  rintro e w6 ⟨m2, b2, r2, vr2, tag2, rfl, ta2, hb6⟩
  clear hI
  obtain ⟨sa, ta, sb, tb, sc, tc, rfl, rfl, rfl⟩ := ta2.forms
  have hA6 : Below w6.heap.size w6 (w6.alloc (.cells #[.slice sa zs.length ta, .slice sb C tb, .slice sc C tc] 26)) := (Below.refl _ _).alloc (Nat.le_refl _) _
  have X2 := hide (show B3 _ w6.heap.size _ _ _ from box3 w6 (.slice sa zs.length ta) (.slice sb C tb) (.slice sc C tc) 26)
  have hq6 := hb6.trans (hA6.mono hb6.size)
  replace HB := hide (HB.out.trans (hq6.mono HB.out.size))
  replace X0 := hide (X0.out.below hq6)
  replace X1 := hide (X1.out.below hq6)
  replace T0 := hide (T0.out.below hq6)
  replace T1 := hide (T1.out.below hq6)
  have T2 := hide (ta2.below hA6)
  clear ta2 hb6 hA6 hq6
  obtain ⟨p0, p1, p2⟩ := X0.out
  obtain ⟨q0, q1, q2⟩ := X2.out
  go_wp2_with fail
  refine (eqTso_same _ _ _ _ _ _ zs C z0L z0F C z0Z _ T2.out.tv T0.out.tv HT.out).mono ?_
  rintro e w7 ⟨rfl, hb7⟩
  replace HB := hide (HB.out.trans (hb7.mono HB.out.size))
  replace X1 := hide (X1.out.below hb7)
  replace T1 := hide (T1.out.below hb7)
  clear hb7 p0 p1 p2 q0 q1 q2 X0 X2 T0 T2
  obtain ⟨q0, q1, q2⟩ := X1.out
  go_wp2_with fail
  refine (hheld _ T1.out).mono ?_
  rintro e w8 ⟨rfl, hb8⟩
  replace HB := hide (HB.out.trans (hb8.mono HB.out.size))
  clear hb8 q0 q1 q2 X1 T1 hheld
  go_wp2
  go_ret
  exact ⟨rfl, HB.out⟩

set_option maxRecDepth 100000 in
theorem lifted (os : Os) (started : os.Started) (H : Type) (enc : TypeId × Value → H) :
    ReturnsInHanded {} Try.checked os 3 .any (Rows.fnExactTsoNewSpec.pre6 enc Try.prog Try.f3 Rows.fnExactTsoNewRow.domain false) (Rows.fnExactTsoNewSpec.post enc Try.prog Try.f3 false true false false) := by
  refine returnsInHanded_of_change (C := Try.checked) own started (by kernel_rfl) Try.func3
    (ChangeSpec.witness6 (enc := enc) (C := Try.checked) false ⟨#[], #[.int .i64 0], []⟩ 8 (by kernel_rfl) (by kernel_rfl) (by kernel_rfl) (by kernel_rfl)) ?_
  intro W base args ds gs before hval0 hW hcnd _
  have hval : ∀ (j : Nat) t v, Try.f3.params[j]? = some t → args[j]? = some v → Value.okWide Try.prog W .any base t v := hval0
  have hW' := hW
  obtain ⟨p, q, hA0, hV, rfl, hfz, hnd⟩ := hW
  have hA : DataW.TrodAll enc Try.prog W 0 (fun _ => true) true Try.f3.params.toList args.toList ds p := hA0
  rw [Try.params3] at hA hval
  obtain ⟨v0, vs0, d0, ds0, p0, q0, hargs, rfl, rfl, h0, r0⟩ := trodAll_cons hA
  obtain ⟨rfl, rfl, rfl⟩ := trodAll_nil r0
  obtain rfl : args = #[v0] := by cases args; simp_all
  obtain ⟨rfl, rfl⟩ := trodVars_none hV
  obtain ⟨a0, rfl, rfl, rfl, w0⟩ := open_int Try.underlying2 (hval 0 2 v0 rfl rfl) h0
  clear hA0 hval0
  refine (walk a0 W ).mono fun e W' ⟨he, bel⟩ => ?_
  subst he
  exact ⟨_, rfl, _, _, _, [], _, [], hW', trodAll_mk1 (shut_bool Try.underlying4 _), (trodAll_cons_mk (shut_int Try.underlying2 w0) trodAll_mk0), rfl, bel.frame _, fun h => by cases h⟩

theorem over : Rows.fnExactTsoNewRow.holds Try.pinned (OpenSpec.ofChange Rows.fnExactTsoNewSpec) :=
  OpenClaim.holds_of_wide 3 Try.f3 rfl rfl rfl rfl rfl rfl rfl ⟨rfl, rfl, rfl, rfl, rfl⟩ rfl rfl rfl rfl rfl (by kernel_rfl) Try.func3 (by kernel_rfl)
    (of_decide_eq_true (by kernel_rfl)) (by unfold Func.isWrapper; first | (rw [if_pos (by decide +kernel)]; kernel_rfl) | (rw [if_neg (by decide +kernel)]; exact ⟨rfl, rfl⟩))
    (fun os started H enc _ => lifted os started H enc)

theorem proved : Rows.FnExactTsoNewSaid := over
end Go.Proofs.Ytnodnclpeldpdaa.fnExactTsoNew

namespace Go.Proofs.Ytnodnclpeldpdaa
theorem fnExactTsoNew_holds : Rows.FnExactTsoNewSaid := fnExactTsoNew.proved
end Go.Proofs.Ytnodnclpeldpdaa
