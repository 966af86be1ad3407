/- Proved: for every argument laws.FnExactCodeOf returns true. No condition. -/
import Derived.Test.YtbinjcmfbkhbjaaRows
import Derived.Test.YtbinjcmfbkhbjaaEcN
import Derived.WalkKit
import Derived.ProofKit
import Derived.OpenShut
import Derived.ShutString
import Derived.ChangeOld
import Derived.Below
import Derived.OpenVars
namespace Go.Proofs.Ytbinjcmfbkhbjaa.fnExactCodeOf
open Go.ChangeShapes Go.WideShapes Go.ChangeAt Go.WideMaps Go.WideElems Go.RowKit
set_option linter.unusedVariables false
set_option linter.unusedSimpArgs false

theorem own : ownKnob Try.prog.godebug = none := by kernel_rfl
theorem laidOut : laidOutB Try.prog = true := by kernel_rfl

set_option maxHeartbeats 4000000 in
theorem walk (a0 : Int) (w : World) : Calls Try.prog 7 #[.int .i64 a0] w fun e w' => e = .returned (.bool true) ∧ Below w.heap.size w w' := by
  have hsp := fun w => codeS_any a0 w
  have him := fun w => codeI_any a0 w
  have hl := Ecc.codR_le a0
  generalize Ecc.codR a0 = R at hsp him hl
  generalize inR a0 1000000 = bb at hsp him
  go_enter Try.func7, Try.ntmps7
  go_wp2_with fail
  refine (hsp _).mono ?_
  rintro e w1 ⟨p, rfl, hp1, hb1⟩
  go_wp2_with fail
  refine (him _).mono ?_
  rintro e w2 ⟨g, rfl, hg2, hb2⟩
  have hp2 := hp1.below hb2
  have HPL : Hid (∀ k, p.ownBlock = some k → k < w1.heap.size) := hide (fun k hk => (World.ownsRow.lt hp1 k hk).2)
  have HB2 : Hid (Below w.heap.size w w2) := hide (hb1.trans (hb2.mono hb1.size))
  have HZ := hide (And.intro hb1.size hb2.size)
  clear hp1 hb1 hb2
  go_wp2_with fail
  refine (eq_same g p R _ hg2.sl hp2.sl (by omega)).mono ?_
  rintro e w3 ⟨rfl, hb3⟩
  have hp3 := hp2.below hb3
  have hg3 := hg2.below hb3
  have HB3 : Hid (Below w.heap.size w w3) := hide (HB2.out.trans (hb3.mono HB2.out.size))
  have HZ3 := hide (Nat.le_trans HZ.out.2 hb3.size)
  clear hp2 hg2 hb3 HB2
  go_wp2_with fail
  refine (mark_any g R _ 1 _ (by omega) (by omega) hg3 (by omega)).mono ?_
  rintro e w4 ⟨rfl, hg4, hgr⟩
  have hp4 := hp3.other hg3 HPL.out hgr
  have HB4 : Hid (Below w.heap.size w w4) := hide (HB3.out.trans (below_grown hg3 hgr HZ.out.1 (Nat.le_trans HZ.out.1 HZ3.out)))
  have hm4 : ¬ (1 + (R.length : Int) < 0) := by omega
  clear hp3 hg3 hgr HB3 HZ3 HPL
  go_wp2_with fail
  refine (held_any g R.length 1 _ (by omega) (by omega) hg4.sl (by omega)).mono ?_
  rintro e w5 ⟨rfl, rfl⟩
  go_wp2_with fail
  refine (him _).mono ?_
  rintro e w6 ⟨h, rfl, hh6, hb6⟩
  have hp6 := hp4.below hb6
  have hg6 := hg4.below hb6
  have HB6 : Hid (Below w.heap.size w w6) := hide (HB4.out.trans (hb6.mono HB4.out.size))
  clear hp4 hg4 hb6 HB4
  go_wp2_with fail
  refine (eq_same h p R _ hh6.sl hp6.sl (by omega)).mono ?_
  rintro e w7 ⟨rfl, hb7⟩
  have hg7 := hg6.below hb7
  have HB7 : Hid (Below w.heap.size w w7) := hide (HB6.out.trans (hb7.mono HB6.out.size))
  clear hp6 hg6 hb7 HB6 hh6
  go_wp2_with fail
  refine (held_any g R.length 1 _ (by omega) (by omega) hg7.sl (by omega)).mono ?_
  rintro e w8 ⟨rfl, rfl⟩
  go_wp2
  go_ret
  exact ⟨rfl, HB7.out⟩

set_option maxRecDepth 100000 in
theorem lifted (os : Os) (started : os.Started) (H : Type) (enc : TypeId × Value → H) :
    ReturnsInHanded {} Try.checked os 7 .any (Rows.fnExactCodeOfSpec.pre6 enc Try.prog Try.f7 Rows.fnExactCodeOfRow.domain false) (Rows.fnExactCodeOfSpec.post enc Try.prog Try.f7 false true false false) := by
  refine returnsInHanded_of_change (C := Try.checked) own started (by kernel_rfl) Try.func7
    (ChangeSpec.witness6 (enc := enc) (C := Try.checked) false ⟨#[], #[.int .i64 0], []⟩ 8 (by kernel_rfl) (by kernel_rfl) (by kernel_rfl) (by kernel_rfl)) ?_
  intro W base args ds gs before hval0 hW hcnd _
  have hval : ∀ (j : Nat) t v, Try.f7.params[j]? = some t → args[j]? = some v → Value.okWide Try.prog W .any base t v := hval0
  have hW' := hW
  obtain ⟨p, q, hA0, hV, rfl, hfz, hnd⟩ := hW
  have hA : DataW.TrodAll enc Try.prog W 0 (fun _ => true) true Try.f7.params.toList args.toList ds p := hA0
  rw [Try.params7] at hA hval
  obtain ⟨v0, vs0, d0, ds0, p0, q0, hargs, rfl, rfl, h0, r0⟩ := trodAll_cons hA
  obtain ⟨rfl, rfl, rfl⟩ := trodAll_nil r0
  obtain rfl : args = #[v0] := by cases args; simp_all
  obtain ⟨rfl, rfl⟩ := trodVars_none hV
  obtain ⟨a0, rfl, rfl, rfl, w0⟩ := open_int Try.underlying2 (hval 0 2 v0 rfl rfl) h0
  clear hA0 hval0
  refine (walk a0 W ).mono fun e W' ⟨he, bel⟩ => ?_
  subst he
  exact ⟨_, rfl, _, _, _, [], _, [], hW', trodAll_mk1 (shut_bool Try.underlying4 _), (trodAll_cons_mk (shut_int Try.underlying2 w0) trodAll_mk0), rfl, bel.frame _, fun h => by cases h⟩

theorem over : Rows.fnExactCodeOfRow.holds Try.pinned (OpenSpec.ofChange Rows.fnExactCodeOfSpec) :=
  OpenClaim.holds_of_wide 7 Try.f7 rfl rfl rfl rfl rfl rfl rfl ⟨rfl, rfl, rfl, rfl, rfl⟩ rfl rfl rfl rfl rfl (by kernel_rfl) Try.func7 (by kernel_rfl)
    (of_decide_eq_true (by kernel_rfl)) (by unfold Func.isWrapper; first | (rw [if_pos (by decide +kernel)]; kernel_rfl) | (rw [if_neg (by decide +kernel)]; exact ⟨rfl, rfl⟩))
    (fun os started H enc _ => lifted os started H enc)

theorem proved : Rows.FnExactCodeOfSaid := over
end Go.Proofs.Ytbinjcmfbkhbjaa.fnExactCodeOf

namespace Go.Proofs.Ytbinjcmfbkhbjaa
theorem fnExactCodeOf_holds : Rows.FnExactCodeOfSaid := fnExactCodeOf.proved
end Go.Proofs.Ytbinjcmfbkhbjaa
