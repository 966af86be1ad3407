/- Proved: for every net, of whatever many links, and every two numbers, laws.FnExactNextHop returns true and leaves its argument as it read. No condition. -/
import Derived.Test.YtgjfhaikogobpaaRows
import Derived.Test.YtgjfhaikogobpaaNtF
import Derived.Test.YtgjfhaikogobpaaNtR
import Derived.WalkKit
import Derived.ProofKit
import Derived.OpenShut
import Derived.ShutString
import Derived.ChangeOld
import Derived.Below
import Derived.OpenVars
namespace Go.Proofs.Ytgjfhaikogobpaa.fnExactNextHop
open Go.ChangeShapes Go.WideShapes Go.ChangeAt Go.WideMaps Go.WideElems Go.RowKit
set_option linter.unusedVariables false
set_option linter.unusedSimpArgs false

theorem own : ownKnob Try.prog.godebug = none := by kernel_rfl
theorem laidOut : laidOutB Try.prog = true := by kernel_rfl

set_option maxHeartbeats 4000000 in
theorem walk (N : Int) (v : Value) (n : Nat) (f : Nat → Nat → Int) (a : Int) (b : Int) (w : World) (hv : Sr w v 2 n f) (hn : (n : Int) ≤ 9223372036854775807) :
    Calls Try.prog 5 #[.agg (nt N v), .int .i64 a, .int .i64 b] w fun e w' => e = .returned (.bool true) ∧ Below w.heap.size w w' := by
  have HV := hide hv
  obtain ⟨ad, cap, rfl, _⟩ := hv
  have hB0 : Below w.heap.size w (w.alloc (.cells (nt N (.slice ad n cap)) 24)) := (Below.refl _ _).alloc (Nat.le_refl _) _
  obtain ⟨x0, x1⟩ := bx2 w (.int .i64 N) (.slice ad n cap) 24
  have hto := fun W h hl => toNet_any N (.slice ad n cap) n f W h hl
  go_enter Try.func5, Try.ntmps5
  go_wp2_with fail
  refine (szNet_any N _ n f _ (HV.out.below hB0) hn).mono ?_
  rintro e w1 ⟨r, rfl, hp, hb1'⟩
  have hb1 := hB0.trans (hb1'.mono hB0.size)
  have y0 := keepc hb1' x0
  have y1 := keepc hb1' x1
  clear hb1' hB0 x0 x1
  by_cases hx : r < 0
  · clear hp
    go_wp2
    go_ret
    exact ⟨rfl, hb1⟩
  have hl := hp (by omega)
  clear hp hn
  go_wp2_with fail
  refine (hto _ (HV.out.below hb1) hl).mono ?_
  rintro e w2 ⟨g1, rfl, h2, hb2⟩
  have z0 := keepc hb2 y0
  have z1 := keepc hb2 y1
  have hB2 := hb1.trans (hb2.mono hb1.size)
  clear hb1 hb2 y0 y1
  go_wp2_with fail
  refine (specNext_any N (fl g1 n) n f a b _ h2.sr hl).mono ?_
  rintro e w3 ⟨rfl, hb3⟩
  have y0 := keepc hb3 z0
  have y1 := keepc hb3 z1
  have hB3 := hB2.trans (hb3.mono hB2.size)
  clear hb3 hB2 z0 z1 h2
  generalize hy : nxA N n f a b = y
  go_wp2_with fail
  refine (hto _ (HV.out.below hB3) hl).mono ?_
  rintro e w4 ⟨k1, rfl, h4, hb4⟩
  have hA4 : Below w4.heap.size w4 (w4.alloc (.cells (nt N (fl k1 n)) 27)) := (Below.refl _ _).alloc (Nat.le_refl _) _
  obtain ⟨t0, t1⟩ := bx2 w4 (.int .i64 N) (fl k1 n) 27
  have z0 := keepc hA4 (keepc hb4 y0)
  have z1 := keepc hA4 (keepc hb4 y1)
  have hT4 : Sr (w4.alloc (.cells (nt N (fl k1 n)) 27)) (fl k1 n) 2 n f := h4.sr.below hA4
  have hB4 := (hB3.trans (hb4.mono hB3.size)).trans (hA4.mono (hB3.trans (hb4.mono hB3.size)).size)
  clear hb4 hB3 y0 y1 h4 hA4
  go_wp2_with fail
  refine (implNext_any N (fl k1 n) n f a b _ hT4 hl).mono ?_
  rintro e w5 ⟨rfl, hb5⟩
  rw [hy]
  have y0 := keepc hb5 z0
  have y1 := keepc hb5 z1
  have s0 := keepc hb5 t0
  have s1 := keepc hb5 t1
  have hT5 := hT4.below hb5
  have hB5 := hB4.trans (hb5.mono hB4.size)
  clear hb5 hB4 z0 z1 t0 t1 hT4 hy
  all_goals go_wp2
  all_goals go_region_held3 (fun w' => (w'.cell? ⟨w.heap.size, 0, none⟩ = some (.int .i64 N) ∧ w'.cell? ⟨w.heap.size, 1, none⟩ = some (.slice ad n cap)) ∧ w'.cell? ⟨w4.heap.size, 0, none⟩ = some (.int .i64 N) ∧ w'.cell? ⟨w4.heap.size, 1, none⟩ = some (fl k1 n)) (first | exact ⟨⟨y0, y1⟩, s0, s1⟩ | exact ⟨⟨keepc hb6 y0, keepc hb6 y1⟩, keepc hb6 s0, keepc hb6 s1⟩ | exact ⟨⟨keepc hb7 (keepc hb6 y0), keepc hb7 (keepc hb6 y1)⟩, keepc hb7 (keepc hb6 s0), keepc hb7 (keepc hb6 s1)⟩) (first | (go_at_call 11; refine (hto _ (HV.out.below hB5.drew) hl).mono ?_; rintro e w6 ⟨m1, rfl, h6, hb6⟩) | (go_at_call 13; refine (eqNet_same N _ _ n f _ ((hT5.below ((Below.refl _ _).drew)).below hb6) h6.sr hl).mono ?_; rintro e w7 ⟨rfl, hb7⟩))
  all_goals have HB := hide ((hB5.drew.trans (hb6.mono hB5.drew.size)).trans (hb7.mono (hB5.drew.trans (hb6.mono hB5.drew.size)).size))
  all_goals clear hb7 hB5 hT5 HV hto
  all_goals go_wp2
  all_goals go_ret
  all_goals exact ⟨rfl, HB.out⟩

set_option maxRecDepth 100000 in
theorem lifted (os : Os) (started : os.Started) (H : Type) (enc : TypeId × Value → H) :
    ReturnsInHanded {} Try.checked os 5 .any (Rows.fnExactNextHopSpec.pre6 enc Try.prog Try.f5 Rows.fnExactNextHopRow.domain false) (Rows.fnExactNextHopSpec.post enc Try.prog Try.f5 false true false false) := by
  refine returnsInHanded_of_change (C := Try.checked) own started (by kernel_rfl) Try.func5
    (ChangeSpec.witness6 (enc := enc) (C := Try.checked) false ⟨#[], #[.agg #[.int .i64 0, .slice none 0 0], .int .i64 0, .int .i64 0], []⟩ 8 (by kernel_rfl) (by kernel_rfl) (by kernel_rfl) (by kernel_rfl)) ?_
  intro W base args ds gs before hval0 hW hcnd _
  have hval : ∀ (j : Nat) t v, Try.f5.params[j]? = some t → args[j]? = some v → Value.okWide Try.prog W .any base t v := hval0
  have hW' := hW
  obtain ⟨p, q, hA0, hV, rfl, hfz, hnd⟩ := hW
  have hA : DataW.TrodAll enc Try.prog W 0 (fun _ => true) true Try.f5.params.toList args.toList ds p := hA0
  rw [Try.params5] at hA hval
  obtain ⟨v0, vs0, d0, ds0, p0, q0, hargs, rfl, rfl, h0, r0⟩ := trodAll_cons hA
  obtain ⟨v1, vs1, d1, ds1, p1, q1, rfl, rfl, rfl, h1, r1⟩ := trodAll_cons r0
  obtain ⟨v2, vs2, d2, ds2, p2, q2, rfl, rfl, rfl, h2, r2⟩ := trodAll_cons r1
  obtain ⟨rfl, rfl, rfl⟩ := trodAll_nil r2
  obtain rfl : args = #[v0, v1, v2] := by cases args; simp_all
  obtain ⟨rfl, rfl⟩ := trodVars_none hV
  have k0 := h0
  have lt0 : ∀ x ∈ p0, x.block < W.heap.size := by obtain ⟨m, hm⟩ := k0; exact DataW.trod_lt m _ _ _ hm
  obtain ⟨N0, u0, n0, f0, rfl, hc0, hn0⟩ := open_net (hval 0 24 v0 rfl rfl) h0
  obtain ⟨a1, rfl, rfl, rfl, w1⟩ := open_int Try.underlying2 (hval 1 2 v1 rfl rfl) h1
  obtain ⟨a2, rfl, rfl, rfl, w2⟩ := open_int Try.underlying2 (hval 2 2 v2 rfl rfl) h2
  clear hA0 hval0
  refine (walk N0 u0 n0 f0 a1 a2 W hc0 (by unfold maxLen at hn0; omega)).mono fun e W' ⟨he, bel⟩ => ?_
  subst he
  exact ⟨_, rfl, _, _, _, [], _, [], hW', trodAll_mk1 (shut_bool Try.underlying4 _), (trodAll_cons_mk (Below.trod laidOut (by kernel_rfl) (of_decide_eq_true (by kernel_rfl)) k0 bel lt0) (trodAll_cons_mk (shut_int Try.underlying2 w1) (trodAll_cons_mk (shut_int Try.underlying2 w2) trodAll_mk0))), rfl, bel.frame _, fun h => by cases h⟩

theorem over : Rows.fnExactNextHopRow.holds Try.pinned (OpenSpec.ofChange Rows.fnExactNextHopSpec) :=
  OpenClaim.holds_of_wide 5 Try.f5 rfl rfl rfl rfl rfl rfl rfl ⟨rfl, rfl, rfl, rfl, rfl⟩ rfl rfl rfl rfl rfl (by kernel_rfl) Try.func5 (by kernel_rfl)
    (of_decide_eq_true (by kernel_rfl)) (by unfold Func.isWrapper; first | (rw [if_pos (by decide +kernel)]; kernel_rfl) | (rw [if_neg (by decide +kernel)]; exact ⟨rfl, rfl⟩))
    (fun os started H enc _ => lifted os started H enc)

theorem proved : Rows.FnExactNextHopSaid := over
end Go.Proofs.Ytgjfhaikogobpaa.fnExactNextHop

namespace Go.Proofs.Ytgjfhaikogobpaa
theorem fnExactNextHop_holds : Rows.FnExactNextHopSaid := fnExactNextHop.proved
end Go.Proofs.Ytgjfhaikogobpaa
