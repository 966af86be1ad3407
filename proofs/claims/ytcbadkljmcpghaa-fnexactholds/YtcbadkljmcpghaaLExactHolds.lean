/- Proved: for every cache, of whatever lengths, and every number laws.FnExactHolds returns true and leaves its argument as it read. No condition. -/
import Derived.Test.YtcbadkljmcpghaaRows
import Derived.Test.YtcbadkljmcpghaaCaE
import Derived.Test.YtcbadkljmcpghaaCaP
import Derived.WalkKit
import Derived.ProofKit
import Derived.OpenShut
import Derived.ShutString
import Derived.ChangeOld
import Derived.Below
import Derived.OpenVars
namespace Go.Proofs.Ytcbadkljmcpghaa.fnExactHolds
open Go.ChangeShapes Go.WideShapes Go.ChangeAt Go.WideMaps Go.WideElems Go.RowKit
set_option linter.unusedVariables false
set_option linter.unusedSimpArgs false

theorem own : ownKnob Try.prog.godebug = none := by kernel_rfl
theorem laidOut : laidOutB Try.prog = true := by kernel_rfl

theorem _root_.Go.Proofs.Ytcbadkljmcpghaa.Cg.drew {w : World} {B : Nat} {v : Value} {n : Nat} {L : Nat → Nat} {D : Nat → Sm} {G : Nat} {ib : Nat → Nat} (h : Cg w B v n L D G ib) : Cg w.drew B v n L D G ib := ⟨h.val, h.lo, h.wcG, h.wcI, h.ne, h.inj, h.at_, h.way⟩

set_option maxHeartbeats 2000000 in
theorem walk (u0 : Value) (n0 : Nat) (L0 : Nat → Nat) (D0 : Nat → Sm) (a1 : Int) (w : World) (hv : Cv w u0 n0 L0 D0) (hN : (n0 : Int) ≤ 9223372036854775807) (hG : ∀ c, c < n0 → (L0 c : Int) ≤ 9223372036854775807) :
    Calls Try.prog 9 #[.agg #[u0], .int .i64 a1] w fun e w' => e = .returned (.bool true) ∧ Below w.heap.size w w' := by
  have hB0 : Below w.heap.size w (w.alloc (.cells #[u0] 41)) := (Below.refl _ _).alloc (Nat.le_refl _) _
  have HV := hide hv
  obtain ⟨ad, cap, rfl, _⟩ := hv
  have hx0 : (w.alloc (.cells #[.slice ad n0 cap] 41)).cell? ⟨w.heap.size, 0, none⟩ = some (.slice ad n0 cap) := cell_of_row _ _ 0 _ _ _ (heap_alloc_new _ _)
  go_enter Try.func9, Try.ntmps9
  go_wp2_with fail
  refine (szCache_any _ n0 L0 D0 _ (HV.out.below hB0) hN hG).mono ?_
  rintro e w1 ⟨r, rfl, hp, hb1'⟩
  have hb1 := hB0.trans (hb1'.mono hB0.size)
  have hx1 := keepc hb1' hx0
  clear hb1' hB0 hx0
  by_cases hx : r < 0
  · clear hp
    go_wp2
    go_ret
    exact ⟨rfl, hb1⟩
  obtain ⟨hn, hL⟩ := hp (by omega)
  clear hp hN hG
  go_wp2_with fail
  refine (toCache_any _ n0 L0 D0 _ (HV.out.below hb1) hn hL).mono ?_
  rintro e w2 ⟨g1, ib1, rfl, hc2, hb2⟩
  have hx2 := keepc hb2 hx1
  have hB2 := hb1.trans (hb2.mono hb1.size)
  clear hb1 hb2 hx1
  go_wp2_with fail
  refine (specHolds_any _ n0 L0 D0 a1 _ hc2.cv).mono ?_
  rintro e w3 ⟨rfl, hb3⟩
  have hx3 := keepc hb3 hx2
  have hB3 := hB2.trans (hb3.mono hB2.size)
  clear hb3 hB2 hc2 hx2
  go_wp2_with fail
  refine (toCache_any _ n0 L0 D0 _ (HV.out.below hB3) hn hL).mono ?_
  rintro e w4 ⟨g2, ib2, rfl, hc4', hb4⟩
  have hx4' := keepc hb4 hx3
  have hB4' := hB3.trans (hb4.mono hB3.size)
  have hA4 : Below w4.heap.size w4 (w4.alloc (.cells #[.slice (some ⟨g2, 0, none⟩) n0 n0] 32)) := (Below.refl _ _).alloc (Nat.le_refl _) _
  have hy4 : (w4.alloc (.cells #[.slice (some ⟨g2, 0, none⟩) n0 n0] 32)).cell? ⟨w4.heap.size, 0, none⟩ = some (.slice (some ⟨g2, 0, none⟩) n0 n0) := cell_of_row _ _ 0 _ _ _ (heap_alloc_new _ _)
  have hx4 := keepc hA4 hx4'
  have hc4 := hc4'.below hA4
  have hB4 := hB4'.trans (hA4.mono hB4'.size)
  clear hb4 hB3 hx3 hx4' hc4' hB4' hA4
  go_wp2_with fail
  refine (implHolds_any _ n0 L0 D0 a1 _ hc4.cv).mono ?_
  rintro e w5 ⟨rfl, hb5⟩
  have hx5 := keepc hb5 hx4
  have hy5 := keepc hb5 hy4
  have hB5 := hB4.trans (hb5.mono hB4.size)
  have hc5 := hc4.below hb5
  clear hb5 hB4 hc4 hx4 hy4
  generalize Ca.hldB n0 L0 D0 a1 = y
  cases y
  all_goals go_wp2
  all_goals go_region_held3 (fun w' => w'.cell? ⟨w.heap.size, 0, none⟩ = some (.slice ad n0 cap) ∧ w'.cell? ⟨w4.heap.size, 0, none⟩ = some (.slice (some ⟨g2, 0, none⟩) n0 n0)) (first | exact ⟨hx5, hy5⟩ | exact ⟨keepc hb6 hx5, keepc hb6 hy5⟩ | exact ⟨keepc hb7 (keepc hb6 hx5), keepc hb7 (keepc hb6 hy5)⟩) (first | (go_at_call 28; refine (toCache_any _ n0 L0 D0 _ (HV.out.below hB5.drew) hn hL).mono ?_; rintro e w6 ⟨g3, ib3, rfl, hc6, hb6⟩) | (go_at_call 20; refine (eqCache_same _ _ n0 L0 D0 _ (hc5.drew.below hb6).cv hc6.cv hn hL).mono ?_; rintro e w7 ⟨rfl, hb7⟩))
  all_goals have HB := hide ((hB5.drew.trans (hb6.mono hB5.drew.size)).trans (hb7.mono (hB5.drew.trans (hb6.mono hB5.drew.size)).size))
  all_goals clear hb7 hB5 hc5 HV
  all_goals go_wp2
  all_goals go_ret
  all_goals exact ⟨rfl, HB.out⟩

set_option maxRecDepth 100000 in
theorem lifted (os : Os) (started : os.Started) (H : Type) (enc : TypeId × Value → H) :
    ReturnsInHanded {} Try.checked os 9 .any (Rows.fnExactHoldsSpec.pre6 enc Try.prog Try.f9 Rows.fnExactHoldsRow.domain false) (Rows.fnExactHoldsSpec.post enc Try.prog Try.f9 false true false false) := by
  refine returnsInHanded_of_change (C := Try.checked) own started (by kernel_rfl) Try.func9
    (ChangeSpec.witness6 (enc := enc) (C := Try.checked) false ⟨#[], #[.agg #[.slice none 0 0], .int .i64 0], []⟩ 8 (by kernel_rfl) (by kernel_rfl) (by kernel_rfl) (by kernel_rfl)) ?_
  intro W base args ds gs before hval0 hW hcnd _
  have hval : ∀ (j : Nat) t v, Try.f9.params[j]? = some t → args[j]? = some v → Value.okWide Try.prog W .any base t v := hval0
  have hW' := hW
  obtain ⟨p, q, hA0, hV, rfl, hfz, hnd⟩ := hW
  have hA : DataW.TrodAll enc Try.prog W 0 (fun _ => true) true Try.f9.params.toList args.toList ds p := hA0
  rw [Try.params9] at hA hval
  obtain ⟨v0, vs0, d0, ds0, p0, q0, hargs, rfl, rfl, h0, r0⟩ := trodAll_cons hA
  obtain ⟨v1, vs1, d1, ds1, p1, q1, rfl, rfl, rfl, h1, r1⟩ := trodAll_cons r0
  obtain ⟨rfl, rfl, rfl⟩ := trodAll_nil r1
  obtain rfl : args = #[v0, v1] := by cases args; simp_all
  obtain ⟨rfl, rfl⟩ := trodVars_none hV
  have k0 := h0
  have lt0 : ∀ x ∈ p0, x.block < W.heap.size := by obtain ⟨m, hm⟩ := k0; exact DataW.trod_lt m _ _ _ hm
  obtain ⟨u0, n0, L0, D0, rfl, hc0, hn0, hl0⟩ := open_cache (hval 0 41 v0 rfl rfl) h0
  obtain ⟨a1, rfl, rfl, rfl, w1⟩ := open_int Try.underlying2 (hval 1 2 v1 rfl rfl) h1
  clear hA0 hval0
  refine (walk u0 n0 L0 D0 a1 W hc0 (by unfold maxLen at hn0; omega) (fun c hc => by have := hl0 c hc; unfold maxLen at this; omega)).mono fun e W' ⟨he, bel⟩ => ?_
  subst he
  exact ⟨_, rfl, _, _, _, [], _, [], hW', trodAll_mk1 (shut_bool Try.underlying4 _), (trodAll_cons_mk (Below.trod laidOut (by kernel_rfl) (of_decide_eq_true (by kernel_rfl)) k0 bel lt0) (trodAll_cons_mk (shut_int Try.underlying2 w1) trodAll_mk0)), rfl, bel.frame _, fun h => by cases h⟩

theorem over : Rows.fnExactHoldsRow.holds Try.pinned (OpenSpec.ofChange Rows.fnExactHoldsSpec) :=
  OpenClaim.holds_of_wide 9 Try.f9 rfl rfl rfl rfl rfl rfl rfl ⟨rfl, rfl, rfl, rfl, rfl⟩ rfl rfl rfl rfl rfl (by kernel_rfl) Try.func9 (by kernel_rfl)
    (of_decide_eq_true (by kernel_rfl)) (by unfold Func.isWrapper; first | (rw [if_pos (by decide +kernel)]; kernel_rfl) | (rw [if_neg (by decide +kernel)]; exact ⟨rfl, rfl⟩))
    (fun os started H enc _ => lifted os started H enc)

theorem proved : Rows.FnExactHoldsSaid := over
end Go.Proofs.Ytcbadkljmcpghaa.fnExactHolds

namespace Go.Proofs.Ytcbadkljmcpghaa
theorem fnExactHolds_holds : Rows.FnExactHoldsSaid := fnExactHolds.proved
end Go.Proofs.Ytcbadkljmcpghaa
