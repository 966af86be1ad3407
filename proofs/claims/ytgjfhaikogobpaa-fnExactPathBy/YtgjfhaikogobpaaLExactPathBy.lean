/- Proved: for every net, of whatever many links, and every two numbers, laws.FnExactPathBy returns true and leaves its argument as it read. No condition. -/
import Derived.Test.YtgjfhaikogobpaaRows
import Derived.Test.YtgjfhaikogobpaaNtF
import Derived.Test.YtgjfhaikogobpaaNtU
import Derived.Test.YtgjfhaikogobpaaNtS
import Derived.Test.YtgjfhaikogobpaaFM
import Derived.WalkKit
import Derived.ProofKit
import Derived.OpenShut
import Derived.ShutString
import Derived.ChangeOld
import Derived.Below
import Derived.OpenVars
namespace Go.Proofs.Ytgjfhaikogobpaa.fnExactPathBy
open Go.ChangeShapes Go.WideShapes Go.ChangeAt Go.WideMaps Go.WideElems Go.RowKit
set_option linter.unusedVariables false
set_option linter.unusedSimpArgs false

theorem own : ownKnob Try.prog.godebug = none := by kernel_rfl
theorem laidOut : laidOutB Try.prog = true := by kernel_rfl

set_option maxHeartbeats 4000000 in
theorem walk (N : Int) (v : Value) (n : Nat) (f : Nat → Nat → Int) (a : Int) (b : Int) (w : World) (hv : Sr w v 2 n f) (hn : (n : Int) ≤ 9223372036854775807) :
    Calls Try.prog 6 #[.agg (nt N v), .int .i64 a, .int .i64 b] w fun e w' => e = .returned (.bool true) ∧ Below w.heap.size w w' := by
  have HV := hide hv
  obtain ⟨ad, cap, rfl, _⟩ := hv
  have hB0 : Below w.heap.size w (w.alloc (.cells (nt N (.slice ad n cap)) 24)) := (Below.refl _ _).alloc (Nat.le_refl _) _
  obtain ⟨x0, x1⟩ := bx2 w (.int .i64 N) (.slice ad n cap) 24
  have hto := fun W h hl => toNet_any N (.slice ad n cap) n f W h hl
  have HP6 := hide (pth_le N n f a b)
  go_enter Try.func6, Try.ntmps6
  go_wp2_with fail
  refine (szNet_any N _ n f _ (HV.out.below hB0) hn).mono ?_
  rintro e w1 ⟨r, rfl, hp, hb1'⟩
  have hb1 := hB0.trans (hb1'.mono hB0.size)
  have y0 := keepc hb1' x0
  have y1 := keepc hb1' x1
  have HZ1 : Hid (w.heap.size < w1.heap.size) := hide (by have := hb1'.size; simp at this; omega)
  clear hb1' hB0 x0 x1
  by_cases hx : r < 0
  · clear hp
    go_wp2
    go_ret
    exact ⟨rfl, hb1⟩
  have hl := hp (by omega)
  clear hp hn
  have hsp := fun g W h => specPath_any N (fl g n) n f a b W h hl
  have him := fun g W h => implPath_any N (fl g n) n f a b W h hl
  generalize pthA N n f a b = P at hsp him HP6
  have hP6 := HP6.out
  go_wp2_with fail
  refine (hto _ (HV.out.below hb1) hl).mono ?_
  rintro e w2 ⟨g1, rfl, h2, hb2⟩
  have z0 := keepc hb2 y0
  have z1 := keepc hb2 y1
  have hB2 := hb1.trans (hb2.mono hb1.size)
  clear hb1 hb2 y0 y1
  go_wp2_with fail
  refine (hsp g1 _ h2.sr).mono ?_
  rintro e w3 ⟨us, rfl, hus, hb3⟩
  have y0 := keepc hb3 z0
  have y1 := keepc hb3 z1
  have hB3 := hB2.trans (hb3.mono hB2.size)
  clear hb3 hB2 z0 z1 h2 hsp
  go_wp2_with fail
  refine (hto _ (HV.out.below hB3) hl).mono ?_
  rintro e w4 ⟨k1, rfl, h4, hb4⟩
  have hA4 : Below w4.heap.size w4 (w4.alloc (.cells (nt N (fl k1 n)) 27)) := (Below.refl _ _).alloc (Nat.le_refl _) _
  obtain ⟨t0, t1⟩ := bx2 w4 (.int .i64 N) (fl k1 n) 27
  have z0 := keepc hA4 (keepc hb4 y0)
  have z1 := keepc hA4 (keepc hb4 y1)
  have hus4 := (hus.below hb4).below hA4
  have h4' : Orow (w4.alloc (.cells (nt N (fl k1 n)) 27)) w3.heap.size 42 2 (fl k1 n) n n f := h4.below hA4
  have HK : Hid ((∀ j, us.ownBlock = some j → j ≠ k1) ∧ w.heap.size ≠ k1 ∧ w4.heap.size ≠ k1 ∧ w.heap.size ≤ k1 ∧ k1 < w4.heap.size + 1) := by
    have hk := h4.blk
    have h9 := hB3.size
    have h8 := HZ1.out
    exact hide ⟨fun j hj => by have := (World.ownsRow.lt hus j hj).2; omega, by have := World.block_lt_of_cell? _ _ y0; simp at this; omega, by omega, by omega, by omega⟩
  have hB4 := (hB3.trans (hb4.mono hB3.size)).trans (hA4.mono (hB3.trans (hb4.mono hB3.size)).size)
  clear hb4 hB3 y0 y1 h4 hA4 hus
  have hz4 : (w4.alloc (.cells (nt N (fl k1 n)) 27)).heap.size = w4.heap.size + 1 := by simp
  go_wp2_with fail
  refine (him k1 _ h4'.sr).mono ?_
  rintro e w5 ⟨ug, rfl, hug, hb5⟩
  have y0 := keepc hb5 z0
  have y1 := keepc hb5 z1
  have s0 := keepc hb5 t0
  have s1 := keepc hb5 t1
  have hT5 := h4'.below hb5
  have hus5 := hus4.below hb5
  have HG : Hid ((∀ j, ug.ownBlock = some j → j ≠ k1) ∧ (∀ j, ug.ownBlock = some j → w.heap.size < j ∧ w4.heap.size < j) ∧ ∀ j, us.ownBlock = some j → ug.ownBlock ≠ some j) := by
    refine hide ⟨fun j hj => ?_, fun j hj => ?_, fun j hj hj2 => ?_⟩
    · have h1 := (World.ownsRow.lt hug j hj).1
      have h2 := HK.out.2.2.2.2
      omega
    · have h1 := (World.ownsRow.lt hug j hj).1
      have h2 := World.block_lt_of_cell? _ _ z0
      simp at h2
      omega
    · have h1 := (World.ownsRow.lt hug j hj2).1
      have h2 := (World.ownsRow.lt hus4 j hj).2
      omega
  have hB5 := hB4.trans (hb5.mono hB4.size)
  clear hb5 hB4 z0 z1 t0 t1 h4' hus4 hz4
  go_wp2_with fail
  refine (eq_same ug us P _ hug.sl hus5.sl (by omega)).mono ?_
  rintro e w6 ⟨rfl, hb6⟩
  have z0 := keepc hb6 y0
  have z1 := keepc hb6 y1
  have t0 := keepc hb6 s0
  have t1 := keepc hb6 s1
  have hT6 := hT5.below hb6
  have hus6 := hus5.below hb6
  have hug6 := hug.below hb6
  have hB6 := hB5.trans (hb6.mono hB5.size)
  clear hb6 hB5 y0 y1 s0 s1 hT5 hus5 hug
  go_wp2
  go_region_held3 (fun w' => (w'.cell? ⟨w.heap.size, 0, none⟩ = some (.int .i64 N) ∧ w'.cell? ⟨w.heap.size, 1, none⟩ = some (.slice ad n cap)) ∧ w'.cell? ⟨w4.heap.size, 0, none⟩ = some (.int .i64 N) ∧ w'.cell? ⟨w4.heap.size, 1, none⟩ = some (fl k1 n)) (first | exact ⟨⟨z0, z1⟩, t0, t1⟩ | exact ⟨⟨keepc hb7 z0, keepc hb7 z1⟩, keepc hb7 t0, keepc hb7 t1⟩ | exact ⟨⟨keepc hb8 (keepc hb7 z0), keepc hb8 (keepc hb7 z1)⟩, keepc hb8 (keepc hb7 t0), keepc hb8 (keepc hb7 t1)⟩) (first | (go_at_call 11; refine (hto _ (HV.out.below hB6.drew) hl).mono ?_; rintro e w7 ⟨m1, rfl, h7, hb7⟩) | (go_at_call 13; refine (eqNet_same N _ _ n f _ ((hT6.sr.below ((Below.refl _ _).drew)).below hb7) h7.sr hl).mono ?_; rintro e w8 ⟨rfl, hb8⟩))
  all_goals have hd7 : Below w6.heap.size w6 w6.drew := (Below.refl _ _).drew
  all_goals have y0 := keepc hb8 (keepc hb7 (keepc hd7 z0))
  all_goals have y1 := keepc hb8 (keepc hb7 (keepc hd7 z1))
  all_goals have s0 := keepc hb8 (keepc hb7 (keepc hd7 t0))
  all_goals have s1 := keepc hb8 (keepc hb7 (keepc hd7 t1))
  all_goals have hT8 := ((hT6.below hd7).below hb7).below hb8
  all_goals have hus8 := ((hus6.below hd7).below hb7).below hb8
  all_goals have hug8 := ((hug6.below hd7).below hb7).below hb8
  all_goals have hB8 := (hB6.drew.trans (hb7.mono hB6.drew.size)).trans (hb8.mono (hB6.drew.trans (hb7.mono hB6.drew.size)).size)
  all_goals clear hb7 hb8 hd7 hB6 z0 z1 t0 t1 hT6 hus6 hug6 h7
  have hMk := markNet_any N (some ⟨k1, 0, none⟩) k1 n n 1 w8 (by decide) (by decide) hl (fun _ => rfl) (fun hp => hT8.wc hp)
  have hz9 : 0 ≤ 1 + ((n * 2 : Nat) : Int) := by omega
  generalize 1 + ((n * 2 : Nat) : Int) = zk at hMk hz9
  have hzk : decide (zk < 0) = false := by simpa using hz9
  go_wp2_with fail
  refine hMk.mono ?_
  rintro e w9 ⟨rfl, hmg⟩
  have hch := hmg.ch
  have z0 := hch.cell HK.out.2.1 y0
  have z1 := hch.cell HK.out.2.1 y1
  have hus9 := hus8.chg hch (fun j hj => HK.out.1 j hj)
  have hug9 := hug8.chg hch (fun j hj => HG.out.1 j hj)
  have hB9 : Below w.heap.size w w9 := below_chg hB8 hch (fun j hj => by rw [hj]; exact HK.out.2.2.2.1) hB8.size
  clear hmg hch hMk y0 y1 s0 s1 hT8 hus8 hug8 hB8
  go_wp2_with fail
  refine (eq_same ug us P _ hug9.sl hus9.sl (by omega)).mono ?_
  rintro e w10 ⟨rfl, hb10⟩
  have y0 := keepc hb10 z0
  have y1 := keepc hb10 z1
  have hus10 := hus9.below hb10
  have hug10 := hug9.below hb10
  have hB10 := hB9.trans (hb10.mono hB9.size)
  clear hb10 hB9 z0 z1 hus9 hug9
  go_wp2_with fail
  refine (mark_any ug P _ 1 _ (by decide) (by decide) hug10 (by omega)).mono ?_
  rintro e w11 ⟨rfl, hug11, hg11⟩
  have z0 : w11.cell? ⟨w.heap.size, 0, none⟩ = some (.int .i64 N) := (World.cell?_of_block (hg11.block w.heap.size (World.block_lt_of_cell? _ _ y0) (fun e => by have := (HG.out.2.1 _ e.symm).1; omega))).trans y0
  have z1 : w11.cell? ⟨w.heap.size, 1, none⟩ = some (.slice ad n cap) := (World.cell?_of_block (hg11.block w.heap.size (World.block_lt_of_cell? _ _ y0) (fun e => by have := (HG.out.2.1 _ e.symm).1; omega))).trans y1
  have hus11 : Ow w11 w2.heap.size us P := by
    refine World.ownsRow.kept hus10 hg11 ?_
    cases hv : us.ownBlock with
    | none => exact .inl rfl
    | some k => exact .inr (fun e => HG.out.2.2 k hv e.symm)
  have hB11 : Below w.heap.size w w11 := hB10.grown hg11 hB10.size (fun k hk => by have := (HG.out.2.1 k hk).1; omega)
  clear hg11 hug10 hus10 hB10 y0 y1
  have hz11 : 0 ≤ 1 + (P.length : Int) := by omega
  obtain ⟨zm, hzm⟩ : ∃ zm, 1 + (P.length : Int) = zm := ⟨_, rfl⟩
  have hhd := fun W h => held_any ug P.length 1 W (by decide) (by decide) h (by omega)
  rw [hzm] at hz11 hhd ⊢
  clear hzm
  have hzd : decide (zm < 0) = false := by simpa using hz11
  have hzn : (zm != zm) = false := by simp
  go_wp2_with fail
  refine (hhd _ hug11.sl).mono ?_
  rintro e w12 ⟨rfl, rfl⟩
  go_wp2_with fail
  refine (hto _ (HV.out.below hB11) hl).mono ?_
  rintro e w13 ⟨k3, rfl, h13, hb13⟩
  have y0 := keepc hb13 z0
  have y1 := keepc hb13 z1
  have hus13 := hus11.below hb13
  have hug13 := hug11.below hb13
  have hB13 := hB11.trans (hb13.mono hB11.size)
  clear hb13 hB11 z0 z1 hus11 hug11
  go_wp2_with fail
  refine (him k3 _ h13.sr).mono ?_
  rintro e w14 ⟨uh, rfl, huh, hb14⟩
  have hus14 := hus13.below hb14
  have hug14 := hug13.below hb14
  have hB14 := hB13.trans (hb14.mono hB13.size)
  clear hb14 hB13 hus13 hug13 y0 y1 h13
  go_wp2_with fail
  refine (eq_same uh us P _ huh.sl hus14.sl (by omega)).mono ?_
  rintro e w15 ⟨rfl, hb15⟩
  have hug15 := hug14.below hb15
  have hB15 := hB14.trans (hb15.mono hB14.size)
  clear hb15 hB14 hug14 huh hus14
  go_wp2_with fail
  refine (hhd _ hug15.sl).mono ?_
  rintro e w16 ⟨rfl, rfl⟩
  clear hhd
  go_wp2
  go_ret
  exact ⟨rfl, hB15⟩

set_option maxRecDepth 100000 in
theorem lifted (os : Os) (started : os.Started) (H : Type) (enc : TypeId × Value → H) :
    ReturnsInHanded {} Try.checked os 6 .any (Rows.fnExactPathBySpec.pre6 enc Try.prog Try.f6 Rows.fnExactPathByRow.domain false) (Rows.fnExactPathBySpec.post enc Try.prog Try.f6 false true false false) := by
  refine returnsInHanded_of_change (C := Try.checked) own started (by kernel_rfl) Try.func6
    (ChangeSpec.witness6 (enc := enc) (C := Try.checked) false ⟨#[], #[.agg #[.int .i64 0, .slice none 0 0], .int .i64 0, .int .i64 0], []⟩ 8 (by kernel_rfl) (by kernel_rfl) (by kernel_rfl) (by kernel_rfl)) ?_
  intro W base args ds gs before hval0 hW hcnd _
  have hval : ∀ (j : Nat) t v, Try.f6.params[j]? = some t → args[j]? = some v → Value.okWide Try.prog W .any base t v := hval0
  have hW' := hW
  obtain ⟨p, q, hA0, hV, rfl, hfz, hnd⟩ := hW
  have hA : DataW.TrodAll enc Try.prog W 0 (fun _ => true) true Try.f6.params.toList args.toList ds p := hA0
  rw [Try.params6] at hA hval
  obtain ⟨v0, vs0, d0, ds0, p0, q0, hargs, rfl, rfl, h0, r0⟩ := trodAll_cons hA
  obtain ⟨v1, vs1, d1, ds1, p1, q1, rfl, rfl, rfl, h1, r1⟩ := trodAll_cons r0
  obtain ⟨v2, vs2, d2, ds2, p2, q2, rfl, rfl, rfl, h2, r2⟩ := trodAll_cons r1
  obtain ⟨rfl, rfl, rfl⟩ := trodAll_nil r2
  obtain rfl : args = #[v0, v1, v2] := by cases args; simp_all
  obtain ⟨rfl, rfl⟩ := trodVars_none hV
  have k0 := h0
  have lt0 : ∀ x ∈ p0, x.block < W.heap.size := by obtain ⟨m, hm⟩ := k0; exact DataW.trod_lt m _ _ _ hm
  obtain ⟨N0, u0, n0, f0, rfl, hc0, hn0⟩ := open_net (hval 0 24 v0 rfl rfl) h0
  obtain ⟨a1, rfl, rfl, rfl, w1⟩ := open_int Try.underlying2 (hval 1 2 v1 rfl rfl) h1
  obtain ⟨a2, rfl, rfl, rfl, w2⟩ := open_int Try.underlying2 (hval 2 2 v2 rfl rfl) h2
  clear hA0 hval0
  refine (walk N0 u0 n0 f0 a1 a2 W hc0 (by unfold maxLen at hn0; omega)).mono fun e W' ⟨he, bel⟩ => ?_
  subst he
  exact ⟨_, rfl, _, _, _, [], _, [], hW', trodAll_mk1 (shut_bool Try.underlying4 _), (trodAll_cons_mk (Below.trod laidOut (by kernel_rfl) (of_decide_eq_true (by kernel_rfl)) k0 bel lt0) (trodAll_cons_mk (shut_int Try.underlying2 w1) (trodAll_cons_mk (shut_int Try.underlying2 w2) trodAll_mk0))), rfl, bel.frame _, fun h => by cases h⟩

theorem over : Rows.fnExactPathByRow.holds Try.pinned (OpenSpec.ofChange Rows.fnExactPathBySpec) :=
  OpenClaim.holds_of_wide 6 Try.f6 rfl rfl rfl rfl rfl rfl rfl ⟨rfl, rfl, rfl, rfl, rfl⟩ rfl rfl rfl rfl rfl (by kernel_rfl) Try.func6 (by kernel_rfl)
    (of_decide_eq_true (by kernel_rfl)) (by unfold Func.isWrapper; first | (rw [if_pos (by decide +kernel)]; kernel_rfl) | (rw [if_neg (by decide +kernel)]; exact ⟨rfl, rfl⟩))
    (fun os started H enc _ => lifted os started H enc)

theorem proved : Rows.FnExactPathBySaid := over
end Go.Proofs.Ytgjfhaikogobpaa.fnExactPathBy

namespace Go.Proofs.Ytgjfhaikogobpaa
theorem fnExactPathBy_holds : Rows.FnExactPathBySaid := fnExactPathBy.proved
end Go.Proofs.Ytgjfhaikogobpaa
