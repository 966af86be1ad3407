/- Proved: for every Tso laws.FnExactOutcomeOf returns true and leaves its argument as it read; the listed tables of the library read as the program text lays them (the card ties them). No other condition. -/
import Derived.Test.YtfnnjgbodlngdaaDoorRows
import Derived.Test.YtfnnjgbodlngdaaDoorCards
import Derived.Test.YtfnnjgbodlngdaaDoorTie
import Derived.Lib.LaidTab
import Derived.LaidMore
import Derived.Stop.LaidErr
import Derived.Stop.Joined
import Derived.SevenTiedAt
import Derived.Test.YtfnnjgbodlngdaaDoorOutA
import Derived.Test.YtfnnjgbodlngdaaDoorTsG
import Derived.WalkKit
import Derived.ProofKit
import Derived.OpenShut
import Derived.ShutString
import Derived.ChangeOld
import Derived.Below
import Derived.OpenVars
namespace Go.Proofs.YtfnnjgbodlngdaaDoor.fnExactOutcomeOf
open Go.ChangeShapes Go.WideShapes Go.ChangeAt Go.WideMaps Go.WideElems Go.RowKit
set_option linter.unusedVariables false
set_option linter.unusedSimpArgs false

theorem own : ownKnob Tryd.prog.godebug = none := by kernel_rfl
theorem laidOut : laidOutB Tryd.prog = true := by kernel_rfl

set_option maxHeartbeats 4000000 in
theorem walk (mv bv rv : Value) (zs : List Int) (C : Nat) (L : Nat → Nat) (F : Nat → Nat → Nat → Int) (R : Nat) (Z : Nat → List Int) (w : World) (hv : Tv w mv bv rv zs C L F R Z) (hm : (zs.length : Int) ≤ 9223372036854775807) (hC : (C : Int) ≤ 9223372036854775807) (hL : ∀ c, c < C → (L c : Int) ≤ 9223372036854775807) (hR : (R : Int) ≤ 9223372036854775807) (hZ : ∀ c, c < R → ((Z c).length : Int) ≤ 9223372036854775807) (hp : Pow w) :
    Calls Tryd.prog 4 #[.agg #[mv, bv, rv]] w fun e w' => e = .returned (.bool true) ∧ Below w.heap.size w w' := by
  have hB0 : Below w.heap.size w (w.alloc (.cells #[mv, bv, rv] 37)) := (Below.refl _ _).alloc (Nat.le_refl _) _
  have HV := hide hv
  obtain ⟨x0, x1, x2⟩ := box3 w mv bv rv 37
  obtain ⟨⟨ma, mc, rfl, _⟩, ⟨ba, bc, rfl, _⟩, ⟨ra, rc, rfl, _⟩⟩ := hv
  have hto := fun W h hl => toTso_any (.slice ma zs.length mc) (.slice ba C bc) (.slice ra R rc) zs C L F R Z W (Tv.mem h) (Tv.buf h) (Tv.reg h) hl
  go_enter Tryd.func4, Tryd.ntmps4
  go_wp2_with fail
  refine (szTso_any _ _ _ zs C L F R Z _ (HV.out.below hB0) hm hC hL hR hZ).mono ?_
  rintro e w1 ⟨r, rfl, hps, hb1'⟩
  have hb1 := hB0.trans (hb1'.mono hB0.size)
  have y0 := keepc hb1' x0
  have y1 := keepc hb1' x1
  have y2 := keepc hb1' x2
  clear hb1' hB0 x0 x1 x2
  by_cases hx : r < 0
  · clear hps
    go_wp2
    go_ret
    exact ⟨rfl, hb1⟩
  have hl := hps (by omega)
  clear hps hm hC hL hR hZ
  go_wp2_with fail
  refine (hto _ (HV.out.below hb1) hl).mono ?_
  rintro e w2 ⟨g1, g2, g3, rfl, h2m, h2b, h2r, hb2⟩
  have z0 := keepc hb2 y0
  have z1 := keepc hb2 y1
  have z2 := keepc hb2 y2
  have hB2 := hb1.trans (hb2.mono hb1.size)
  clear hb1 hb2 y0 y1 y2
  go_wp2_with fail
  refine (specOutcome_any _ _ _ zs C L F R Z _ ⟨h2m, h2b, h2r⟩).mono ?_
  rintro e w3 ⟨rfl, hb3⟩
  have y0 := keepc hb3 z0
  have y1 := keepc hb3 z1
  have y2 := keepc hb3 z2
  have hB3 := hB2.trans (hb3.mono hB2.size)
  clear hb3 hB2 z0 z1 z2 h2m h2b h2r
  go_wp2_with fail
  refine (hto _ (HV.out.below hB3) hl).mono ?_
  rintro e w4 ⟨k1, k2, k3, rfl, h4m', h4b', h4r', hb4⟩
  have hA4 : Below w4.heap.size w4 (w4.alloc (.cells #[full k1 zs.length, full k2 C, full k3 R] 42)) := (Below.refl _ _).alloc (Nat.le_refl _) _
  obtain ⟨t0, t1, t2⟩ := box3 w4 (full k1 zs.length) (full k2 C) (full k3 R) 42
  have z0 := keepc hA4 (keepc hb4 y0)
  have z1 := keepc hA4 (keepc hb4 y1)
  have z2 := keepc hA4 (keepc hb4 y2)
  have hT4 : Tv (w4.alloc (.cells #[full k1 zs.length, full k2 C, full k3 R] 42)) (full k1 zs.length) (full k2 C) (full k3 R) zs C L F R Z := ⟨h4m'.below hA4, h4b'.below hA4, h4r'.below hA4⟩
  have hB4 := (hB3.trans (hb4.mono hB3.size)).trans (hA4.mono (hB3.trans (hb4.mono hB3.size)).size)
  clear hb4 hB3 y0 y1 y2 h4m' h4b' h4r' hA4
  go_wp2_with fail
  refine (implOutcome_any _ _ _ zs C L F R Z _ (hp.below hB4) hT4).mono ?_
  rintro e w5 ⟨rfl, hb5⟩
  have y0 := keepc hb5 z0
  have y1 := keepc hb5 z1
  have y2 := keepc hb5 z2
  have s0 := keepc hb5 t0
  have s1 := keepc hb5 t1
  have s2 := keepc hb5 t2
  have hT5 := hT4.below hb5
  have hB5 := hB4.trans (hb5.mono hB4.size)
  clear hp hb5 hB4 z0 z1 z2 t0 t1 t2 hT4
  generalize bstr (ocT zs C L F R Z) = y
  all_goals go_wp2
  all_goals go_region_held3 (fun w' => (w'.cell? ⟨w.heap.size, 0, none⟩ = some (.slice ma zs.length mc) ∧ w'.cell? ⟨w.heap.size, 1, none⟩ = some (.slice ba C bc) ∧ w'.cell? ⟨w.heap.size, 2, none⟩ = some (.slice ra R rc)) ∧ w'.cell? ⟨w4.heap.size, 0, none⟩ = some (full k1 zs.length) ∧ w'.cell? ⟨w4.heap.size, 1, none⟩ = some (full k2 C) ∧ w'.cell? ⟨w4.heap.size, 2, none⟩ = some (full k3 R)) (first | exact ⟨⟨y0, y1, y2⟩, s0, s1, s2⟩ | exact ⟨⟨keepc hb6 y0, keepc hb6 y1, keepc hb6 y2⟩, keepc hb6 s0, keepc hb6 s1, keepc hb6 s2⟩ | exact ⟨⟨keepc hb7 (keepc hb6 y0), keepc hb7 (keepc hb6 y1), keepc hb7 (keepc hb6 y2)⟩, keepc hb7 (keepc hb6 s0), keepc hb7 (keepc hb6 s1), keepc hb7 (keepc hb6 s2)⟩) (first | (go_at_call 13; refine (hto _ (HV.out.below hB5.drew) hl).mono ?_; rintro e w6 ⟨m1, m2, m3, rfl, h6m, h6b, h6r, hb6⟩) | (go_at_call 15; refine (eqTso_same _ _ _ _ _ _ zs C L F R Z _ ((hT5.below ((Below.refl _ _).drew)).below hb6) ⟨h6m, h6b, h6r⟩ hl).mono ?_; rintro e w7 ⟨rfl, hb7⟩))
  all_goals have HB := hide ((hB5.drew.trans (hb6.mono hB5.drew.size)).trans (hb7.mono (hB5.drew.trans (hb6.mono hB5.drew.size)).size))
  all_goals clear hb7 hB5 hT5 HV hto
  all_goals go_wp2
  all_goals go_ret
  all_goals exact ⟨rfl, HB.out⟩

theorem pow_datum : (Rows.laid_internal_strconv_uint64pow10 : DataW Unit) = Lib.tabData .u64 Lib.pow10Tab := by rfl

/-- what the condition gives the walk -/
theorem of_laid {W : World} (h : laidMetH Tryd.prog Rows.fnExactOutcomeOfRow.laid W) : Pow W := by
  have h0 : laidMetH Tryd.prog [("math/bits.deBruijn32tab", Rows.laid_math_bits_deBruijn32tab), ("math/bits.deBruijn64tab", Rows.laid_math_bits_deBruijn64tab), ("internal/strconv.uint64pow10", Rows.laid_internal_strconv_uint64pow10)] W := h
  rw [MakeChecks.laidMetH_plain _ _ _ (by kernel_rfl)] at h0
  have h2 := h0.tail.tail
  rw [pow_datum] at h2
  exact Lib.tabIs_of_head gPow (by kernel_rfl) Tryd.underlying152 Tryd.underlying144 (by kernel_rfl) (by kernel_rfl) h2

/-- the door's own heap meets the condition -/
theorem door_met (os : Os) (args : Array Value) : laidMetH Tryd.prog Rows.fnExactOutcomeOfRow.laid ((World.doorLaid Tryd.prog 400 os).forCall (fun _ _ => 0) ⟨#[], args, []⟩).memory :=
  laidMetH_of_parts3 (fuel := 8) (laidMet_of_run' 8 (by kernel_rfl) (by kernel_rfl)) (by kernel_rfl) (by kernel_rfl)

set_option maxRecDepth 100000 in
theorem lifted (os : Os) (started : os.Started) (H : Type) (enc : TypeId × Value → H) :
    ReturnsInHanded {} Tryd.checked os 4 .any (fun w args => (Rows.fnExactOutcomeOfSpec.pre enc Tryd.prog Tryd.f4 [] false w args ∧ laidMetH Tryd.prog Rows.fnExactOutcomeOfRow.laid w) ∧ sizedMet enc Tryd.prog Tryd.f4 (OpenSpec.ofChange Rows.fnExactOutcomeOfSpec) false w args)
      (Rows.fnExactOutcomeOfSpec.post enc Tryd.prog Tryd.f4 false true false false) := by
  refine returnsInHanded_of_change_and (C := Tryd.checked) (X := fun w _ => laidMetH Tryd.prog Rows.fnExactOutcomeOfRow.laid w) (fun _ _ _ hh h => h.of_heap hh) own started (by kernel_rfl) Tryd.func4
    (ChangeSpec.witness_shaped (enc := enc) (C := Tryd.checked) (os := os) (X := fun w _ => laidMetH Tryd.prog Rows.fnExactOutcomeOfRow.laid w) false (World.doorLaid Tryd.prog 400 os) #[.agg #[.slice none 0 0, .slice none 0 0, .slice none 0 0]] 8 rfl (World.shaped_of_RefB (by kernel_rfl) (by kernel_rfl)) (by kernel_rfl) (by kernel_rfl) (by kernel_rfl) (door_met os _)) ?_
  intro W base args ds gs before hval0 hW _ _ hL _
  have hval : ∀ (j : Nat) t v, Tryd.f4.params[j]? = some t → args[j]? = some v → Value.okWide Tryd.prog W .any base t v := hval0
  have hW' := hW
  obtain ⟨p, q, hA0, hV, rfl, hfz, hnd⟩ := hW
  have hA : DataW.TrodAll enc Tryd.prog W 0 (fun _ => true) true Tryd.f4.params.toList args.toList ds p := hA0
  rw [Tryd.params4] at hA hval
  obtain ⟨v0, vs0, d0, ds0, p0, q0, hargs, rfl, rfl, h0, r0⟩ := trodAll_cons hA
  obtain ⟨rfl, rfl, rfl⟩ := trodAll_nil r0
  obtain rfl : args = #[v0] := by cases args; simp_all
  obtain ⟨rfl, rfl⟩ := trodVars_none hV
  have k0 := h0
  have lt0 : ∀ x ∈ p0, x.block < W.heap.size := by obtain ⟨m, hm⟩ := k0; exact DataW.trod_lt m _ _ _ hm
  obtain ⟨mv0, bv0, rv0, zs0, C0, L0, F0, R0, Z0, rfl, ht0, hm0, ⟨hC0, hl0⟩, hr0, hz0⟩ := open_tso (hval 0 37 v0 rfl rfl) h0
  clear hA0 hval0
  refine (walk mv0 bv0 rv0 zs0 C0 L0 F0 R0 Z0 W ht0 (by unfold maxLen at hm0; omega) (by unfold maxLen at hC0; omega) (fun c hc => by have := hl0 c hc; unfold maxLen at this; omega) (by unfold maxLen at hr0; omega) (fun c hc => by have := hz0 c hc; unfold maxLen at this; omega) (of_laid hL)).mono fun e W' ⟨he, bel⟩ => ?_
  subst he
  exact ⟨_, rfl, _, _, _, [], _, [], hW', trodAll_mk1 (shut_bool Tryd.underlying4 _), (trodAll_cons_mk (Below.trod laidOut (by kernel_rfl) (of_decide_eq_true (by kernel_rfl)) k0 bel lt0) trodAll_mk0), rfl, bel.frame _, fun h => by cases h⟩

theorem row_holds : Rows.FnExactOutcomeOfSaid :=
  OpenClaim.holds_of_wide 4 Tryd.f4 rfl rfl rfl rfl rfl rfl rfl ⟨rfl, rfl, rfl, rfl, rfl⟩ rfl rfl rfl rfl rfl (by kernel_rfl) Tryd.func4 (by kernel_rfl)
    (of_decide_eq_true (by kernel_rfl)) (by unfold Func.isWrapper; first | (rw [if_pos (by decide +kernel)]; kernel_rfl) | (rw [if_neg (by decide +kernel)]; exact ⟨rfl, rfl⟩))
    (fun os started H enc _ => lifted os started H enc)
end Go.Proofs.YtfnnjgbodlngdaaDoor.fnExactOutcomeOf

namespace Go.Proofs.YtfnnjgbodlngdaaDoor
theorem fnExactOutcomeOf_holds : Rows.FnExactOutcomeOfCardSaid :=
  Claim7.holds_tied_plain_at .later [] [.data, .data, .data] true Rows.fnExactOutcomeOfCard.stood.harness false
    fnExactOutcomeOf.row_holds (fun _ h => by cases h) (by kernel_rfl) (fun _ h => by cases h) fnExactOutcomeOf_row_tie rfl ⟨rfl, rfl⟩ (by kernel_rfl) rfl
    (fun f fn hf hfn => by
      obtain rfl : f = 4 := Option.some.inj ((show Tryd.prog.funcNamed "loop.example/g00384/laws.FnExactOutcomeOf" = some 4 by kernel_rfl).symm.trans hf) |>.symm
      obtain rfl : fn = Tryd.f4 := (Option.some.inj (Tryd.func4.symm.trans hfn)).symm
      exact ⟨by kernel_rfl, fun j t ht => by
        rw [Tryd.params4] at ht
        have hm : t ∈ [37] := by simpa using Array.mem_of_getElem? ht
        have hall : ([37].all fun u => !Tryd.prog.wantsStandIn u) = true := by kernel_rfl
        exact (show Tryd.prog.wantsStandIn t = false by simpa using List.all_eq_true.1 hall t hm)⟩)
    (by kernel_rfl)
end Go.Proofs.YtfnnjgbodlngdaaDoor
