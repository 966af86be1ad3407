/- Proved: for every slot laws.FnExactSlotOk returns true and leaves its argument as it read. No condition. -/
import Derived.Test.YtafokmegmkbiaaaRows
import Derived.Test.YtafokmegmkbiaaaSlB
import Derived.WalkKit
import Derived.ProofKit
import Derived.OpenShut
import Derived.ShutString
import Derived.ChangeOld
import Derived.Below
import Derived.OpenVars
namespace Go.Proofs.Ytafokmegmkbiaaa.fnExactSlotOk
open Go.ChangeShapes Go.WideShapes Go.ChangeAt Go.WideMaps Go.WideElems Go.RowKit
set_option linter.unusedVariables false

theorem own : ownKnob Try.prog.godebug = none := by kernel_rfl
theorem laidOut : laidOutB Try.prog = true := by kernel_rfl

set_option maxRecDepth 100000 in
/-- a struct of 4 integers, opened -/
theorem open_s {W : World} {H : Type} {enc : TypeId × Value → H} {base b0 : Nat} {spare : Nat → Bool} {held : Bool} {r : Reach} {v : Value} {d : DataW H} {p : List MemPlace} (hv : Value.okWide Try.prog W r b0 46 v) (h : DataW.Trod enc Try.prog W base spare held 46 v d p) :
    ∃ k0 k1 k2 k3 : Int, v = .agg #[.int .i64 k0, .int .i64 k1, .int .i64 k2, .int .i64 k3] := by
  obtain ⟨cs, rfl, hsz⟩ := okWide_struct Try.underlying46 hv
  obtain ⟨fuel, hf⟩ := h
  obtain ⟨xs, n, _, _, hl, hlen, hg⟩ := DataW.trod_struct Try.underlying46 hf
  have c6 : Try.prog.cellsOf 46 = 4 := by kernel_rfl
  have c1 : Try.prog.cellsOf 2 = 1 := by kernel_rfl
  rw [c6] at hsz
  obtain ⟨l⟩ := cs
  match l, hsz with
  | [a0, a1, a2, a3], _ =>
    match xs, hlen with
    | [x0, x1, x2, x3], _ =>
      have g0 : DataW.trod enc Try.prog W base spare held n 2 (List.take (Try.prog.cellsOf 2) (List.drop 0 [a0, a1, a2, a3])) = some x0 := hg 0 _ rfl
      have g1 : DataW.trod enc Try.prog W base spare held n 2 (List.take (Try.prog.cellsOf 2) (List.drop 1 [a0, a1, a2, a3])) = some x1 := hg 1 _ rfl
      have g2 : DataW.trod enc Try.prog W base spare held n 2 (List.take (Try.prog.cellsOf 2) (List.drop 2 [a0, a1, a2, a3])) = some x2 := hg 2 _ rfl
      have g3 : DataW.trod enc Try.prog W base spare held n 2 (List.take (Try.prog.cellsOf 2) (List.drop 3 [a0, a1, a2, a3])) = some x3 := hg 3 _ rfl
      rw [c1] at g0 g1 g2 g3
      obtain ⟨k0, e0, _⟩ := DataW.trod_int Try.underlying2 g0
      obtain ⟨k1, e1, _⟩ := DataW.trod_int Try.underlying2 g1
      obtain ⟨k2, e2, _⟩ := DataW.trod_int Try.underlying2 g2
      obtain ⟨k3, e3, _⟩ := DataW.trod_int Try.underlying2 g3
      simp at e0 e1 e2 e3
      subst e0 e1 e2 e3
      exact ⟨k0, k1, k2, k3, rfl⟩

set_option maxHeartbeats 1000000 in
theorem walk (st d wt v : Int) (w : World) : Calls Try.prog 5 #[.agg #[.int .i64 st, .int .i64 d, .int .i64 wt, .int .i64 v]] w fun e w' => e = .returned (.bool true) ∧ Below w.heap.size w w' := by
  have m0 := sc_box w st d wt v 46
  go_enter Try.func5, Try.ntmps5
  go_wp2_with fail
  refine (toSlot_any _ _ _ _ _).mono ?_
  rintro e w1 ⟨rfl, hb1⟩
  have m1 := sc_next m0 hb1
  clear hb1 m0
  go_wp2_with fail
  refine (specSlotOk_any _ _ _ _ _).mono ?_
  rintro e w2 ⟨rfl, hb2⟩
  have m2 := sc_next m1 hb2
  clear hb2 m1
  obtain ⟨q, c0, c1, c2, c3⟩ := id m2
  go_wp2_with fail
  refine (toSlot_any _ _ _ _ _).mono ?_
  rintro e w3 ⟨rfl, hb3⟩
  have m3 := sc_next m2 hb3
  clear hb3 m2 q c0 c1 c2 c3
  go_wp2_with fail
  refine (implSlotOk_any _ _ _ _ _).mono ?_
  rintro e w4 ⟨rfl, hb4⟩
  have m4 := sc_next m3 hb4
  clear hb4 m3
  generalize slB st d wt v = b
  go_wp2
  go_ret
  exact ⟨rfl, m4.1⟩

set_option maxRecDepth 100000 in
theorem lifted (os : Os) (started : os.Started) (H : Type) (enc : TypeId × Value → H) :
    ReturnsInHanded {} Try.checked os 5 .any (Rows.fnExactSlotOkSpec.pre6 enc Try.prog Try.f5 Rows.fnExactSlotOkRow.domain false) (Rows.fnExactSlotOkSpec.post enc Try.prog Try.f5 false true false false) := by
  refine returnsInHanded_of_change (C := Try.checked) own started (by kernel_rfl) Try.func5
    (ChangeSpec.witness6 (enc := enc) (C := Try.checked) false ⟨#[], #[.agg #[.int .i64 0, .int .i64 0, .int .i64 0, .int .i64 0]], []⟩ 8 (by kernel_rfl) (by kernel_rfl) (by kernel_rfl) (by kernel_rfl)) ?_
  intro W base args ds gs before hval0 hW hcnd _
  have hval : ∀ (j : Nat) t v, Try.f5.params[j]? = some t → args[j]? = some v → Value.okWide Try.prog W .any base t v := hval0
  have hW' := hW
  obtain ⟨p, q, hA0, hV, rfl, hfz, hnd⟩ := hW
  have hA : DataW.TrodAll enc Try.prog W 0 (fun _ => true) true Try.f5.params.toList args.toList ds p := hA0
  rw [Try.params5] at hA hval
  obtain ⟨v0, vs0, d0, ds0, p0, q0, hargs, rfl, rfl, h0, r0⟩ := trodAll_cons hA
  obtain ⟨rfl, rfl, rfl⟩ := trodAll_nil r0
  obtain rfl : args = #[v0] := by cases args; simp_all
  obtain ⟨rfl, rfl⟩ := trodVars_none hV
  have k0 := h0
  have lt0 : ∀ x ∈ p0, x.block < W.heap.size := by obtain ⟨m, hm⟩ := k0; exact DataW.trod_lt m _ _ _ hm
  obtain ⟨a0_0, a0_1, a0_2, a0_3, rfl⟩ := open_s (hval 0 46 v0 rfl rfl) h0
  clear hA0 hval0
  refine (walk a0_0 a0_1 a0_2 a0_3 W).mono fun e W' ⟨he, bel⟩ => ?_
  subst he
  exact ⟨_, rfl, _, _, _, [], _, [], hW', trodAll_mk1 (shut_bool Try.underlying4 _), (trodAll_cons_mk (Below.trod laidOut (by kernel_rfl) (of_decide_eq_true (by kernel_rfl)) k0 bel lt0) trodAll_mk0), rfl, bel.frame _, fun h => by cases h⟩

theorem over : Rows.fnExactSlotOkRow.holds Try.pinned (OpenSpec.ofChange Rows.fnExactSlotOkSpec) :=
  OpenClaim.holds_of_wide 5 Try.f5 rfl rfl rfl rfl rfl rfl rfl ⟨rfl, rfl, rfl, rfl, rfl⟩ rfl rfl rfl rfl rfl (by kernel_rfl) Try.func5 (by kernel_rfl)
    (of_decide_eq_true (by kernel_rfl)) (by unfold Func.isWrapper; first | (rw [if_pos (by decide +kernel)]; kernel_rfl) | (rw [if_neg (by decide +kernel)]; exact ⟨rfl, rfl⟩))
    (fun os started H enc _ => lifted os started H enc)

theorem proved : Rows.FnExactSlotOkSaid := over
end Go.Proofs.Ytafokmegmkbiaaa.fnExactSlotOk

namespace Go.Proofs.Ytafokmegmkbiaaa
theorem fnExactSlotOk_holds : Rows.FnExactSlotOkSaid := fnExactSlotOk.proved
end Go.Proofs.Ytafokmegmkbiaaa
