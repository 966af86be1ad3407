/- Proved: for every value laws.FnExactLineNew returns true. No condition. -/
import Derived.Test.YtafokmegmkbiaaaRows
import Derived.Test.YtafokmegmkbiaaaLnA
import Derived.WalkKit
import Derived.ProofKit
import Derived.OpenShut
import Derived.ShutString
import Derived.ChangeOld
import Derived.Below
import Derived.OpenVars
namespace Go.Proofs.Ytafokmegmkbiaaa.fnExactLineNew
open Go.ChangeShapes Go.WideShapes Go.ChangeAt Go.WideMaps Go.WideElems Go.RowKit
set_option linter.unusedVariables false

theorem own : ownKnob Try.prog.godebug = none := by kernel_rfl
theorem laidOut : laidOutB Try.prog = true := by kernel_rfl

set_option maxHeartbeats 2000000 in
theorem walk (mem : Int) (w : World) : Calls Try.prog 10 #[.int .i64 mem] w fun e w' => e = .returned (.bool true) ∧ Below w.heap.size w w' := by
  have hsp := fun w => specNew_any mem w
  have him := fun w => implNew_any mem w
  generalize newN mem = n at hsp him
  generalize inB mem 0 1000000 = b at hsp him
  go_enter Try.func10, Try.ntmps10
  go_wp2_with fail
  refine (hsp _).mono ?_
  rintro e w1 ⟨rfl, hb⟩
  have px := lc_here hb n 41
  clear hb
  go_wp2_with fail
  refine (him _).mono ?_
  rintro e w2 ⟨rfl, hb⟩
  have p2 := lc_next px hb
  have qx := lc_here p2.1 n 41
  have py := lc_alloc p2 (.cells (lnC n) 41)
  clear hb px p2
  obtain ⟨_, c0, c1, c2, c3, c4, c5, c6⟩ := id py
  obtain ⟨_, g0, g1, g2, g3, g4, g5, g6⟩ := id qx
  go_wp2_with fail
  refine (eqLine_new n _).mono ?_
  rintro e w3 ⟨rfl, hb⟩
  have p3 := lc_next py hb
  have q3 := lc_next qx hb
  clear hb py qx c0 c1 c2 c3 c4 c5 c6 g0 g1 g2 g3 g4 g5 g6
  obtain ⟨_, g0, g1, g2, g3, g4, g5, g6⟩ := id q3
  go_wp2_with fail
  refine (markLine_new n _).mono ?_
  rintro e w4 ⟨rfl, hb⟩
  have p4 := lc_next p3 hb
  have q4 := lc_next q3 hb
  clear hb p3 q3 g0 g1 g2 g3 g4 g5 g6
  obtain ⟨_, g0, g1, g2, g3, g4, g5, g6⟩ := id q4
  go_wp2_with fail
  refine (heldLine_new n _).mono ?_
  rintro e w5 ⟨rfl, hb⟩
  have p5 := lc_next p4 hb
  have q5 := lc_next q4 hb
  clear hb p4 q4 g0 g1 g2 g3 g4 g5 g6
  go_wp2_with fail
  refine (him _).mono ?_
  rintro e w6 ⟨rfl, hb⟩
  have p6 := lc_next p5 hb
  have q6 := lc_next q5 hb
  have rx := lc_here p6.1 n 41
  have py := lc_alloc p6 (.cells (lnC n) 41)
  have qy := lc_alloc q6 (.cells (lnC n) 41)
  clear hb p5 q5 p6 q6
  obtain ⟨_, c0, c1, c2, c3, c4, c5, c6⟩ := id py
  obtain ⟨_, g0, g1, g2, g3, g4, g5, g6⟩ := id rx
  go_wp2_with fail
  refine (eqLine_new n _).mono ?_
  rintro e w7 ⟨rfl, hb⟩
  have q7 := lc_next qy hb
  clear hb py qy rx c0 c1 c2 c3 c4 c5 c6 g0 g1 g2 g3 g4 g5 g6
  obtain ⟨_, g0, g1, g2, g3, g4, g5, g6⟩ := id q7
  go_wp2_with fail
  refine (heldLine_new n _).mono ?_
  rintro e w8 ⟨rfl, hb⟩
  have q8 := lc_next q7 hb
  clear hb q7 g0 g1 g2 g3 g4 g5 g6
  go_wp2
  go_ret
  exact ⟨rfl, q8.1⟩

set_option maxRecDepth 100000 in
theorem lifted (os : Os) (started : os.Started) (H : Type) (enc : TypeId × Value → H) :
    ReturnsInHanded {} Try.checked os 10 .any (Rows.fnExactLineNewSpec.pre6 enc Try.prog Try.f10 Rows.fnExactLineNewRow.domain false) (Rows.fnExactLineNewSpec.post enc Try.prog Try.f10 false true false false) := by
  refine returnsInHanded_of_change (C := Try.checked) own started (by kernel_rfl) Try.func10
    (ChangeSpec.witness6 (enc := enc) (C := Try.checked) false ⟨#[], #[.int .i64 0], []⟩ 8 (by kernel_rfl) (by kernel_rfl) (by kernel_rfl) (by kernel_rfl)) ?_
  intro W base args ds gs before hval0 hW hcnd _
  have hval : ∀ (j : Nat) t v, Try.f10.params[j]? = some t → args[j]? = some v → Value.okWide Try.prog W .any base t v := hval0
  have hW' := hW
  obtain ⟨p, q, hA0, hV, rfl, hfz, hnd⟩ := hW
  have hA : DataW.TrodAll enc Try.prog W 0 (fun _ => true) true Try.f10.params.toList args.toList ds p := hA0
  rw [Try.params10] at hA hval
  obtain ⟨v0, vs0, d0, ds0, p0, q0, hargs, rfl, rfl, h0, r0⟩ := trodAll_cons hA
  obtain ⟨rfl, rfl, rfl⟩ := trodAll_nil r0
  obtain rfl : args = #[v0] := by cases args; simp_all
  obtain ⟨rfl, rfl⟩ := trodVars_none hV
  obtain ⟨a0, rfl, rfl, rfl, w0⟩ := open_int Try.underlying2 (hval 0 2 v0 rfl rfl) h0
  clear hA0 hval0
  refine (walk a0 W).mono fun e W' ⟨he, bel⟩ => ?_
  subst he
  exact ⟨_, rfl, _, _, _, [], _, [], hW', trodAll_mk1 (shut_bool Try.underlying4 _), (trodAll_cons_mk (shut_int Try.underlying2 w0) trodAll_mk0), rfl, bel.frame _, fun h => by cases h⟩

theorem over : Rows.fnExactLineNewRow.holds Try.pinned (OpenSpec.ofChange Rows.fnExactLineNewSpec) :=
  OpenClaim.holds_of_wide 10 Try.f10 rfl rfl rfl rfl rfl rfl rfl ⟨rfl, rfl, rfl, rfl, rfl⟩ rfl rfl rfl rfl rfl (by kernel_rfl) Try.func10 (by kernel_rfl)
    (of_decide_eq_true (by kernel_rfl)) (by unfold Func.isWrapper; first | (rw [if_pos (by decide +kernel)]; kernel_rfl) | (rw [if_neg (by decide +kernel)]; exact ⟨rfl, rfl⟩))
    (fun os started H enc _ => lifted os started H enc)

theorem proved : Rows.FnExactLineNewSaid := over
end Go.Proofs.Ytafokmegmkbiaaa.fnExactLineNew

namespace Go.Proofs.Ytafokmegmkbiaaa
theorem fnExactLineNew_holds : Rows.FnExactLineNewSaid := fnExactLineNew.proved
end Go.Proofs.Ytafokmegmkbiaaa
