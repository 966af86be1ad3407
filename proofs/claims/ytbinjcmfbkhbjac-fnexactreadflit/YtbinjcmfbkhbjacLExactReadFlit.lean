/- Proved: for every text, of whatever length, laws.FnExactReadFlit returns true. No condition. -/
import Derived.Test.YtbinjcmfbkhbjacRows
import Derived.Test.YtbinjcmfbkhbjacFlD
import Derived.WalkKit
import Derived.ProofKit
import Derived.OpenShut
import Derived.ShutString
import Derived.ChangeOld
import Derived.Below
import Derived.OpenVars
namespace Go.Proofs.Ytbinjcmfbkhbjac.fnExactReadFlit
open Go.ChangeShapes Go.WideShapes Go.ChangeAt Go.WideMaps Go.WideElems Go.RowKit
set_option linter.unusedVariables false
set_option linter.unusedSimpArgs false

theorem own : ownKnob Try.prog.godebug = none := by kernel_rfl
theorem laidOut : laidOutB Try.prog = true := by kernel_rfl

set_option maxHeartbeats 2000000 in
theorem walk (a0 : ByteArray) (w : World) : Calls Try.prog 6 #[.string a0] w fun e w' => e = .returned (.bool true) ∧ Below w.heap.size w w' := by
  by_cases hbig : (1048576 : Int) < (a0.size : Int)
  · go_enter Try.func6, Try.ntmps6
    go_wp2
    go_ret
    exact ⟨rfl, Below.refl _ _⟩
  · have hs := fun w => specRead_any a0 w (by omega)
    have hi := fun w => implRead_any a0 w (by omega)
    generalize Flit.rK a0 = k at hs hi
    generalize Flit.rS a0 = q at hs hi
    generalize Flit.rB a0 = b at hs hi
    generalize Flit.rd a0 = r at hs hi
    go_enter Try.func6, Try.ntmps6
    go_wp2_with fail
    refine (hs _).mono ?_
    rintro e w1 ⟨rfl, hb1⟩
    have h1 := argI_start w1 k q b
    have HB1 := hide hb1
    clear hb1
    go_wp2_with fail
    refine (hi _).mono ?_
    rintro e w2 ⟨rfl, hb2⟩
    have h2 := argI_alloc (argI_next h1 hb2) (.cells #[.int .i64 k, .int .i64 q, .string b] 28)
    clear h1 hb2
    obtain ⟨_, _, c1, c2, c3⟩ := id h2
    go_wp2_with fail
    refine (eqFlit_same k q b _).mono ?_
    rintro e w3 ⟨rfl, hb3⟩
    have h3 := argI_next h2 hb3
    have HB3 : Hid (Below w.heap.size w w3) := hide (HB1.out.trans (h3.1.mono HB1.out.size))
    clear h2 h3 hb3 c1 c2 c3 HB1
    go_wp2
    go_ret
    exact ⟨rfl, HB3.out⟩

set_option maxRecDepth 100000 in
theorem lifted (os : Os) (started : os.Started) (H : Type) (enc : TypeId × Value → H) :
    ReturnsInHanded {} Try.checked os 6 .any (Rows.fnExactReadFlitSpec.pre6 enc Try.prog Try.f6 Rows.fnExactReadFlitRow.domain false) (Rows.fnExactReadFlitSpec.post enc Try.prog Try.f6 false true false false) := by
  refine returnsInHanded_of_change (C := Try.checked) own started (by kernel_rfl) Try.func6
    (ChangeSpec.witness6 (enc := enc) (C := Try.checked) false ⟨#[], #[.string ⟨#[]⟩], []⟩ 8 (by kernel_rfl) (by kernel_rfl) (by kernel_rfl) (by kernel_rfl)) ?_
  intro W base args ds gs before hval0 hW hcnd _
  have hval : ∀ (j : Nat) t v, Try.f6.params[j]? = some t → args[j]? = some v → Value.okWide Try.prog W .any base t v := hval0
  have hW' := hW
  obtain ⟨p, q, hA0, hV, rfl, hfz, hnd⟩ := hW
  have hA : DataW.TrodAll enc Try.prog W 0 (fun _ => true) true Try.f6.params.toList args.toList ds p := hA0
  rw [Try.params6] at hA hval
  obtain ⟨v0, vs0, d0, ds0, p0, q0, hargs, rfl, rfl, h0, r0⟩ := trodAll_cons hA
  obtain ⟨rfl, rfl, rfl⟩ := trodAll_nil r0
  obtain rfl : args = #[v0] := by cases args; simp_all
  obtain ⟨rfl, rfl⟩ := trodVars_none hV
  obtain ⟨a0, rfl, rfl, rfl, w0⟩ := Go.ChangeMaps.open_string Try.underlying9 (hval 0 9 v0 rfl rfl) h0
  clear hA0 hval0
  refine (walk a0 W ).mono fun e W' ⟨he, bel⟩ => ?_
  subst he
  exact ⟨_, rfl, _, _, _, [], _, [], hW', trodAll_mk1 (shut_bool Try.underlying4 _), (trodAll_cons_mk (Go.ChangeMaps.shut_string Try.underlying9 w0) trodAll_mk0), rfl, bel.frame _, fun h => by cases h⟩

theorem over : Rows.fnExactReadFlitRow.holds Try.pinned (OpenSpec.ofChange Rows.fnExactReadFlitSpec) :=
  OpenClaim.holds_of_wide 6 Try.f6 rfl rfl rfl rfl rfl rfl rfl ⟨rfl, rfl, rfl, rfl, rfl⟩ rfl rfl rfl rfl rfl (by kernel_rfl) Try.func6 (by kernel_rfl)
    (of_decide_eq_true (by kernel_rfl)) (by unfold Func.isWrapper; first | (rw [if_pos (by decide +kernel)]; kernel_rfl) | (rw [if_neg (by decide +kernel)]; exact ⟨rfl, rfl⟩))
    (fun os started H enc _ => lifted os started H enc)

theorem proved : Rows.FnExactReadFlitSaid := over
end Go.Proofs.Ytbinjcmfbkhbjac.fnExactReadFlit

namespace Go.Proofs.Ytbinjcmfbkhbjac
theorem fnExactReadFlit_holds : Rows.FnExactReadFlitSaid := fnExactReadFlit.proved
end Go.Proofs.Ytbinjcmfbkhbjac
