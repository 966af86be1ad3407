/- Proved: for every number, laws.FnExactPairNew returns true. No condition. -/
import Derived.Test.YtaifflodnnflfaaRows
import Derived.Test.YtaifflodnnflfaaPrF
import Derived.WalkKit
import Derived.ProofKit
import Derived.OpenShut
import Derived.ShutString
import Derived.ChangeOld
import Derived.Below
import Derived.OpenVars
namespace Go.Proofs.Ytaifflodnnflfaa.fnExactPairNew
open Go.ChangeShapes Go.WideShapes Go.ChangeAt Go.WideMaps Go.WideElems Go.RowKit
set_option linter.unusedVariables false
set_option linter.unusedSimpArgs false

theorem own : ownKnob Try.prog.godebug = none := by kernel_rfl
theorem laidOut : laidOutB Try.prog = true := by kernel_rfl

theorem aNew_len (n : Int) : (aNew n).zl.length + (aNew n).zr.length ≤ 1048576 := by
  unfold aNew
  split
  · simp; omega
  · simp [PA.no]

set_option maxHeartbeats 8000000 in
theorem walk (n : Int) (w : World) :
    Calls Try.prog 4 #[.int .i64 n] w fun e w' => e = .returned (.bool true) ∧ Below w.heap.size w w' := by
  have hS := fun W => specNew_any n W
  have hI := fun W => implNew_any n W
  have HA : Hid ((aNew n).zl.length + (aNew n).zr.length ≤ 1048576) := hide (aNew_len n)
  generalize aNew n = a at hS hI HA
  obtain ⟨al, ar, xu, yu, ok⟩ := a
  simp only [Post] at hS hI HA
  have hneg : ¬ ((1 : Int) + al.length + ar.length < 0) := by omega
  have HB : Hid (Below w.heap.size w w) := hide (Below.refl _ _)
  go_enter Try.func4, Try.ntmps4
  go_wp2_with fail
  refine (hS _).mono ?_
  rintro e w1 ⟨a0, ac0, b0, bc0, rfl, P, hb⟩
  have hA : Below w1.heap.size w1 (w1.alloc (.cells (pq (.slice a0 al.length ac0) (.slice b0 ar.length bc0) xu yu) 27)) := (Below.refl _ _).alloc (Nat.le_refl _) _
  have hq := hb.trans (hA.mono hb.size)
  have HZ0 := hide hb.size
  replace HB := hide (HB.out.trans (hq.mono HB.out.size))
  have HP0 := hide (P.below hA)
  have HX0 := hide (bx4 w1 (.slice a0 al.length ac0) (.slice b0 ar.length bc0) (.bool xu) (.bool yu) 27)
  clear P hb hA hq
  go_wp2_with fail
  refine (hI _).mono ?_
  rintro e w2 ⟨a1, ac1, b1, bc1, rfl, P, hb⟩
  have hA : Below w2.heap.size w2 (w2.alloc (.cells (pq (.slice a1 al.length ac1) (.slice b1 ar.length bc1) xu yu) 27)) := (Below.refl _ _).alloc (Nat.le_refl _) _
  have hq := hb.trans (hA.mono hb.size)
  have HZ1 := hide hb.size
  replace HX0 := hide (HX0.out.below hq)
  replace HP0 := hide (HP0.out.below hq)
  replace HB := hide (HB.out.trans (hq.mono HB.out.size))
  have HP1 := hide (P.below hA)
  have HX1 := hide (bx4 w2 (.slice a1 al.length ac1) (.slice b1 ar.length bc1) (.bool xu) (.bool yu) 27)
  clear P hb hA hq
  simp only [World.size_alloc] at HZ1 HP1
  obtain ⟨x00, x01, x02, x03⟩ := HX0.out
  obtain ⟨x10, x11, x12, x13⟩ := HX1.out
  go_wp2_with fail
  refine (eqPair_same _ _ _ _ al ar xu yu _ HP1.out.l.sl HP1.out.r.sl HP0.out.l.sl HP0.out.r.sl HA.out).mono ?_
  rintro e w3 ⟨rfl, hb⟩
  clear x00 x01 x02 x03 x10 x11 x12 x13
  replace HX0 := hide (HX0.out.below hb)
  replace HX1 := hide (HX1.out.below hb)
  replace HP0 := hide (HP0.out.below hb)
  replace HP1 := hide (HP1.out.below hb)
  replace HB := hide (HB.out.trans (hb.mono HB.out.size))
  have HZw3 := hide hb.size
  clear hb
  simp only [World.size_alloc] at HZw3
  obtain ⟨x10, x11, x12, x13⟩ := HX1.out
  go_wp2_with fail
  refine (markPair_any _ _ al ar xu yu _ _ _ HP1.out HA.out (by have := HZ0.out; have := HZ1.out; have := HZw3.out; omega)).mono ?_
  rintro e w4 ⟨rfl, P, c⟩
  clear x10 x11 x12 x13
  replace HX0 := hide (c.b4 (by have := HZ0.out; have := HZ1.out; have := HZw3.out; omega) HX0.out)
  replace HX1 := hide (c.b4 (by have := HZ0.out; have := HZ1.out; have := HZw3.out; omega) HX1.out)
  replace HP0 := hide (HP0.out.ci c (by have := HZ0.out; have := HZ1.out; have := HZw3.out; omega))
  replace HP1 := hide P
  replace HB := hide (Ci.below HB.out c (by have := HZ0.out; have := HZ1.out; have := HZw3.out; omega) (by have := HZ0.out; have := HZ1.out; have := HZw3.out; omega))
  have HZw4 := hide c.size
  clear P c
  obtain ⟨x10, x11, x12, x13⟩ := HX1.out
  go_wp2_with fail
  refine (heldPair_any _ _ al.length ar.length xu yu _ HP1.out.l.sl HP1.out.r.sl HA.out).mono ?_
  rintro e w5 ⟨rfl, hb⟩
  clear x10 x11 x12 x13
  replace HX0 := hide (HX0.out.below hb)
  replace HX1 := hide (HX1.out.below hb)
  replace HP0 := hide (HP0.out.below hb)
  replace HP1 := hide (HP1.out.below hb)
  replace HB := hide (HB.out.trans (hb.mono HB.out.size))
  clear hb
  go_wp2_with fail
  refine (hI _).mono ?_
  rintro e w6 ⟨a2, ac2, b2, bc2, rfl, P, hb⟩
  have hA : Below w6.heap.size w6 (w6.alloc (.cells (pq (.slice a2 al.length ac2) (.slice b2 ar.length bc2) xu yu) 27)) := (Below.refl _ _).alloc (Nat.le_refl _) _
  have hq := hb.trans (hA.mono hb.size)
  have HZ2 := hide hb.size
  replace HX0 := hide (HX0.out.below hq)
  replace HX1 := hide (HX1.out.below hq)
  replace HP0 := hide (HP0.out.below hq)
  replace HP1 := hide (HP1.out.below hq)
  replace HB := hide (HB.out.trans (hq.mono HB.out.size))
  have HP2 := hide (P.below hA)
  have HX2 := hide (bx4 w6 (.slice a2 al.length ac2) (.slice b2 ar.length bc2) (.bool xu) (.bool yu) 27)
  clear P hb hA hq
  obtain ⟨x00, x01, x02, x03⟩ := HX0.out
  obtain ⟨x20, x21, x22, x23⟩ := HX2.out
  go_wp2_with fail
  refine (eqPair_same _ _ _ _ al ar xu yu _ HP2.out.l.sl HP2.out.r.sl HP0.out.l.sl HP0.out.r.sl HA.out).mono ?_
  rintro e w7 ⟨rfl, hb⟩
  clear x00 x01 x02 x03 x20 x21 x22 x23
  replace HX0 := hide (HX0.out.below hb)
  replace HX1 := hide (HX1.out.below hb)
  replace HX2 := hide (HX2.out.below hb)
  replace HP0 := hide (HP0.out.below hb)
  replace HP1 := hide (HP1.out.below hb)
  replace HP2 := hide (HP2.out.below hb)
  replace HB := hide (HB.out.trans (hb.mono HB.out.size))
  have HZw7 := hide hb.size
  clear hb
  obtain ⟨x10, x11, x12, x13⟩ := HX1.out
  go_wp2_with fail
  refine (heldPair_any _ _ al.length ar.length xu yu _ HP1.out.l.sl HP1.out.r.sl HA.out).mono ?_
  rintro e w8 ⟨rfl, hb⟩
  clear x10 x11 x12 x13
  replace HX0 := hide (HX0.out.below hb)
  replace HX1 := hide (HX1.out.below hb)
  replace HX2 := hide (HX2.out.below hb)
  replace HP0 := hide (HP0.out.below hb)
  replace HP1 := hide (HP1.out.below hb)
  replace HP2 := hide (HP2.out.below hb)
  replace HB := hide (HB.out.trans (hb.mono HB.out.size))
  clear hb
  clear hS hI
  go_wp2
  go_ret
  exact ⟨rfl, HB.out⟩

set_option maxRecDepth 100000 in
theorem lifted (os : Os) (started : os.Started) (H : Type) (enc : TypeId × Value → H) :
    ReturnsInHanded {} Try.checked os 4 .any (Rows.fnExactPairNewSpec.pre6 enc Try.prog Try.f4 Rows.fnExactPairNewRow.domain false) (Rows.fnExactPairNewSpec.post enc Try.prog Try.f4 false true false false) := by
  refine returnsInHanded_of_change (C := Try.checked) own started (by kernel_rfl) Try.func4
    (ChangeSpec.witness6 (enc := enc) (C := Try.checked) false ⟨#[], #[.int .i64 0], []⟩ 8 (by kernel_rfl) (by kernel_rfl) (by kernel_rfl) (by kernel_rfl)) ?_
  intro W base args ds gs before hval0 hW hcnd _
  have hval : ∀ (j : Nat) t v, Try.f4.params[j]? = some t → args[j]? = some v → Value.okWide Try.prog W .any base t v := hval0
  have hW' := hW
  obtain ⟨p, q, hA0, hV, rfl, hfz, hnd⟩ := hW
  have hA : DataW.TrodAll enc Try.prog W 0 (fun _ => true) true Try.f4.params.toList args.toList ds p := hA0
  rw [Try.params4] at hA hval
  obtain ⟨v0, vs0, d0, ds0, p0, q0, hargs, rfl, rfl, h0, r0⟩ := trodAll_cons hA
  obtain ⟨rfl, rfl, rfl⟩ := trodAll_nil r0
  obtain rfl : args = #[v0] := by cases args; simp_all
  obtain ⟨rfl, rfl⟩ := trodVars_none hV
  obtain ⟨a0, rfl, rfl, rfl, w0⟩ := open_int Try.underlying2 (hval 0 2 v0 rfl rfl) h0
  clear hA0 hval0
  refine (walk a0 W ).mono fun e W' ⟨he, bel⟩ => ?_
  subst he
  exact ⟨_, rfl, _, _, _, [], _, [], hW', trodAll_mk1 (shut_bool Try.underlying4 _), (trodAll_cons_mk (shut_int Try.underlying2 w0) trodAll_mk0), rfl, bel.frame _, fun h => by cases h⟩

theorem over : Rows.fnExactPairNewRow.holds Try.pinned (OpenSpec.ofChange Rows.fnExactPairNewSpec) :=
  OpenClaim.holds_of_wide 4 Try.f4 rfl rfl rfl rfl rfl rfl rfl ⟨rfl, rfl, rfl, rfl, rfl⟩ rfl rfl rfl rfl rfl (by kernel_rfl) Try.func4 (by kernel_rfl)
    (of_decide_eq_true (by kernel_rfl)) (by unfold Func.isWrapper; first | (rw [if_pos (by decide +kernel)]; kernel_rfl) | (rw [if_neg (by decide +kernel)]; exact ⟨rfl, rfl⟩))
    (fun os started H enc _ => lifted os started H enc)

theorem proved : Rows.FnExactPairNewSaid := over
end Go.Proofs.Ytaifflodnnflfaa.fnExactPairNew

namespace Go.Proofs.Ytaifflodnnflfaa
theorem fnExactPairNew_holds : Rows.FnExactPairNewSaid := fnExactPairNew.proved
end Go.Proofs.Ytaifflodnnflfaa
