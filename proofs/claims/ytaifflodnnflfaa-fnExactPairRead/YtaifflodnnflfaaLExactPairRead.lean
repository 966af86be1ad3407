/- Proved: for every pair, its lists of whatever length, and every number laws.FnExactPairRead returns true and leaves its argument as it read. No condition. -/
import Derived.Test.YtaifflodnnflfaaRows
import Derived.Test.YtaifflodnnflfaaPrN
import Derived.WalkKit
import Derived.ProofKit
import Derived.OpenShut
import Derived.ShutString
import Derived.ChangeOld
import Derived.Below
import Derived.OpenVars
namespace Go.Proofs.Ytaifflodnnflfaa.fnExactPairRead
open Go.ChangeShapes Go.WideShapes Go.ChangeAt Go.WideMaps Go.WideElems Go.RowKit
set_option linter.unusedVariables false
set_option linter.unusedSimpArgs false

theorem own : ownKnob Try.prog.godebug = none := by kernel_rfl
theorem laidOut : laidOutB Try.prog = true := by kernel_rfl

set_option maxHeartbeats 4000000 in
theorem walk (L R : Value) (zl zr : List Int) (lu ru : Bool) (line : Int) (w : World) (hl : Sl w L zl) (hr : Sl w R zr) (hn : (zl.length : Int) ≤ 9223372036854775807) (hm : (zr.length : Int) ≤ 9223372036854775807) :
    Calls Try.prog 5 #[.agg (pq L R lu ru), .int .i64 line] w fun e w' => e = .returned (.bool true) ∧ Below w.heap.size w w' := by
  have HV := hide (And.intro hl hr)
  have hto := fun W h k hn => toPair_any L R zl zr lu ru W h k hn
  have hB0 : Below w.heap.size w (w.alloc (.cells (pq L R lu ru) 24)) := (Below.refl _ _).alloc (Nat.le_refl _) _
  have x := bx4 w L R (.bool lu) (.bool ru) 24
  obtain ⟨x0, x1, x2, x3⟩ := x
  clear hl hr
  go_enter Try.func5, Try.ntmps5
  go_wp2_with fail
  refine (szPair_any L R zl zr lu ru _ (HV.out.1.below hB0) (HV.out.2.below hB0) hn hm).mono ?_
  rintro e w1 ⟨r, rfl, hp, hb1'⟩
  have hb1 := hB0.trans (hb1'.mono hB0.size)
  obtain ⟨y0, y1, y2, y3⟩ := B4.below ⟨x0, x1, x2, x3⟩ hb1'
  clear hb1' hB0 x0 x1 x2 x3
  by_cases hx : r < 0
  · clear hp
    go_wp2
    go_ret
    exact ⟨rfl, hb1⟩
  have HL := hide (hp (by omega))
  clear hp hn hm
  go_wp2_with fail
  refine (hto _ (HV.out.1.below hb1) (HV.out.2.below hb1) HL.out).mono ?_
  rintro e w2 ⟨L2, R2, rfl, h2, hb2⟩
  obtain ⟨z0, z1, z2, z3⟩ := B4.below ⟨y0, y1, y2, y3⟩ hb2
  have hB2 := hb1.trans (hb2.mono hb1.size)
  clear hb1 hb2 y0 y1 y2 y3
  go_wp2_with fail
  refine (specRead_any L2 R2 zl zr lu ru line _ h2.l.sl h2.r.sl HL.out).mono ?_
  rintro e w3 ⟨rfl, hb3⟩
  obtain ⟨y0, y1, y2, y3⟩ := B4.below ⟨z0, z1, z2, z3⟩ hb3
  have hB3 := hB2.trans (hb3.mono hB2.size)
  clear hb3 hB2 z0 z1 z2 z3 h2
  obtain ⟨y, yb, hy⟩ : ∃ y yb, rRead zl zr lu ru line = .tuple #[.int .i64 y, .bool yb] := ⟨_, _, rfl⟩
  rw [hy]
  go_wp2_with fail
  refine (hto _ (HV.out.1.below hB3) (HV.out.2.below hB3) HL.out).mono ?_
  rintro e w4 ⟨L4, R4, rfl, h4, hb4⟩
  obtain ⟨l4, lc4, e4, _⟩ := h4.l.form
  obtain ⟨r4, rc4, f4, _⟩ := h4.r.form
  subst e4 f4
  have hA4 : Below w4.heap.size w4 (w4.alloc (.cells (pq (.slice l4 zl.length lc4) (.slice r4 zr.length rc4) lu ru) 27)) := (Below.refl _ _).alloc (Nat.le_refl _) _
  have hT := bx4 w4 (.slice l4 zl.length lc4) (.slice r4 zr.length rc4) (.bool lu) (.bool ru) 27
  obtain ⟨z0, z1, z2, z3⟩ := (B4.below ⟨y0, y1, y2, y3⟩ hb4).below hA4
  have hT4 := h4.below hA4
  have hB4 := (hB3.trans (hb4.mono hB3.size)).trans (hA4.mono (hB3.trans (hb4.mono hB3.size)).size)
  obtain ⟨t0, t1, t2, t3⟩ := hT
  clear hb4 hB3 y0 y1 y2 y3 h4 hA4
  go_wp2_with fail
  refine (implRead_any _ _ zl zr lu ru line _ hT4.l.sl hT4.r.sl HL.out).mono ?_
  rintro e w5 ⟨rfl, hb5⟩
  rw [hy]
  obtain ⟨y0, y1, y2, y3⟩ := B4.below ⟨z0, z1, z2, z3⟩ hb5
  obtain ⟨s0, s1, s2, s3⟩ := B4.below ⟨t0, t1, t2, t3⟩ hb5
  have hT5 := hT4.below hb5
  have hB5 := hB4.trans (hb5.mono hB4.size)
  clear hb5 hB4 z0 z1 z2 z3 t0 t1 t2 t3 hT4 hy
  cases yb
  all_goals go_wp2
  all_goals go_region_held3 (fun w' => (w'.cell? ⟨w.heap.size, 0, none⟩ = some (L) ∧ w'.cell? ⟨w.heap.size, 1, none⟩ = some (R) ∧ w'.cell? ⟨w.heap.size, 2, none⟩ = some (.bool lu) ∧ w'.cell? ⟨w.heap.size, 3, none⟩ = some (.bool ru)) ∧ (w'.cell? ⟨w4.heap.size, 0, none⟩ = some (.slice l4 zl.length lc4) ∧ w'.cell? ⟨w4.heap.size, 1, none⟩ = some (.slice r4 zr.length rc4) ∧ w'.cell? ⟨w4.heap.size, 2, none⟩ = some (.bool lu) ∧ w'.cell? ⟨w4.heap.size, 3, none⟩ = some (.bool ru))) (first | exact ⟨⟨y0, y1, y2, y3⟩, ⟨s0, s1, s2, s3⟩⟩ | exact ⟨⟨keepc hb6 y0, keepc hb6 y1, keepc hb6 y2, keepc hb6 y3⟩, keepc hb6 s0, keepc hb6 s1, keepc hb6 s2, keepc hb6 s3⟩ | exact ⟨⟨keepc hb7 (keepc hb6 y0), keepc hb7 (keepc hb6 y1), keepc hb7 (keepc hb6 y2), keepc hb7 (keepc hb6 y3)⟩, keepc hb7 (keepc hb6 s0), keepc hb7 (keepc hb6 s1), keepc hb7 (keepc hb6 s2), keepc hb7 (keepc hb6 s3)⟩) (first | (go_at_call 11; refine (hto _ (HV.out.1.below hB5.drew) (HV.out.2.below hB5.drew) HL.out).mono ?_; rintro e w6 ⟨L6, R6, rfl, h6, hb6⟩) | (go_at_call 13; refine (eqPair_same _ _ L6 R6 zl zr lu ru _ ((hT5.below ((Below.refl _ _).drew)).below hb6).l.sl ((hT5.below ((Below.refl _ _).drew)).below hb6).r.sl h6.l.sl h6.r.sl HL.out).mono ?_; rintro e w7 ⟨rfl, hb7⟩))
  all_goals have HB := hide ((hB5.drew.trans (hb6.mono hB5.drew.size)).trans (hb7.mono (hB5.drew.trans (hb6.mono hB5.drew.size)).size))
  all_goals clear hb7 hB5 hT5 HV hto
  all_goals go_wp2
  all_goals go_ret
  all_goals exact ⟨rfl, HB.out⟩

set_option maxRecDepth 100000 in
theorem lifted (os : Os) (started : os.Started) (H : Type) (enc : TypeId × Value → H) :
    ReturnsInHanded {} Try.checked os 5 .any (Rows.fnExactPairReadSpec.pre6 enc Try.prog Try.f5 Rows.fnExactPairReadRow.domain false) (Rows.fnExactPairReadSpec.post enc Try.prog Try.f5 false true false false) := by
  refine returnsInHanded_of_change (C := Try.checked) own started (by kernel_rfl) Try.func5
    (ChangeSpec.witness6 (enc := enc) (C := Try.checked) false ⟨#[], #[.agg #[.slice none 0 0, .slice none 0 0, .bool false, .bool false], .int .i64 0], []⟩ 8 (by kernel_rfl) (by kernel_rfl) (by kernel_rfl) (by kernel_rfl)) ?_
  intro W base args ds gs before hval0 hW hcnd _
  have hval : ∀ (j : Nat) t v, Try.f5.params[j]? = some t → args[j]? = some v → Value.okWide Try.prog W .any base t v := hval0
  have hW' := hW
  obtain ⟨p, q, hA0, hV, rfl, hfz, hnd⟩ := hW
  have hA : DataW.TrodAll enc Try.prog W 0 (fun _ => true) true Try.f5.params.toList args.toList ds p := hA0
  rw [Try.params5] at hA hval
  obtain ⟨v0, vs0, d0, ds0, p0, q0, hargs, rfl, rfl, h0, r0⟩ := trodAll_cons hA
  obtain ⟨v1, vs1, d1, ds1, p1, q1, rfl, rfl, rfl, h1, r1⟩ := trodAll_cons r0
  obtain ⟨rfl, rfl, rfl⟩ := trodAll_nil r1
  obtain rfl : args = #[v0, v1] := by cases args; simp_all
  obtain ⟨rfl, rfl⟩ := trodVars_none hV
  have k0 := h0
  have lt0 : ∀ x ∈ p0, x.block < W.heap.size := by obtain ⟨m, hm⟩ := k0; exact DataW.trod_lt m _ _ _ hm
  obtain ⟨L0, R0, zl0, zr0, lu0, ru0, rfl, hc0, hd0, hn0, hm0⟩ := open_pair (hval 0 24 v0 rfl rfl) h0
  obtain ⟨a1, rfl, rfl, rfl, w1⟩ := open_int Try.underlying2 (hval 1 2 v1 rfl rfl) h1
  clear hA0 hval0
  refine (walk L0 R0 zl0 zr0 lu0 ru0 a1 W hc0 hd0 (by unfold maxLen at hn0; omega) (by unfold maxLen at hm0; omega)).mono fun e W' ⟨he, bel⟩ => ?_
  subst he
  exact ⟨_, rfl, _, _, _, [], _, [], hW', trodAll_mk1 (shut_bool Try.underlying4 _), (trodAll_cons_mk (Below.trod laidOut (by kernel_rfl) (of_decide_eq_true (by kernel_rfl)) k0 bel lt0) (trodAll_cons_mk (shut_int Try.underlying2 w1) trodAll_mk0)), rfl, bel.frame _, fun h => by cases h⟩

theorem over : Rows.fnExactPairReadRow.holds Try.pinned (OpenSpec.ofChange Rows.fnExactPairReadSpec) :=
  OpenClaim.holds_of_wide 5 Try.f5 rfl rfl rfl rfl rfl rfl rfl ⟨rfl, rfl, rfl, rfl, rfl⟩ rfl rfl rfl rfl rfl (by kernel_rfl) Try.func5 (by kernel_rfl)
    (of_decide_eq_true (by kernel_rfl)) (by unfold Func.isWrapper; first | (rw [if_pos (by decide +kernel)]; kernel_rfl) | (rw [if_neg (by decide +kernel)]; exact ⟨rfl, rfl⟩))
    (fun os started H enc _ => lifted os started H enc)

theorem proved : Rows.FnExactPairReadSaid := over
end Go.Proofs.Ytaifflodnnflfaa.fnExactPairRead

namespace Go.Proofs.Ytaifflodnnflfaa
theorem fnExactPairRead_holds : Rows.FnExactPairReadSaid := fnExactPairRead.proved
end Go.Proofs.Ytaifflodnnflfaa
