/- Proved: for every slot, core and line laws.FnExactAsked returns true and leaves its arguments as they read. No condition. -/
import Derived.Test.YtafokmegmkbiaaaRows
import Derived.Test.YtafokmegmkbiaaaSlK
import Derived.Test.YtafokmegmkbiaaaSlL
import Derived.WalkKit
import Derived.ProofKit
import Derived.OpenShut
import Derived.ShutString
import Derived.ChangeOld
import Derived.Below
import Derived.OpenVars
namespace Go.Proofs.Ytafokmegmkbiaaa.fnExactAsked
open Go.ChangeShapes Go.WideShapes Go.ChangeAt Go.WideMaps Go.WideElems Go.RowKit
set_option linter.unusedVariables false

theorem own : ownKnob Try.prog.godebug = none := by kernel_rfl
theorem laidOut : laidOutB Try.prog = true := by kernel_rfl

set_option maxRecDepth 100000 in
/-- a struct of 4 integers, opened -/
theorem open_s {W : World} {H : Type} {enc : TypeId × Value → H} {base b0 : Nat} {spare : Nat → Bool} {held : Bool} {r : Reach} {v : Value} {d : DataW H} {p : List MemPlace} (hv : Value.okWide Try.prog W r b0 46 v) (h : DataW.Trod enc Try.prog W base spare held 46 v d p) :
    ∃ k0 k1 k2 k3 : Int, v = .agg #[.int .i64 k0, .int .i64 k1, .int .i64 k2, .int .i64 k3] := by
  obtain ⟨cs, rfl, hsz⟩ := okWide_struct Try.underlying46 hv
  obtain ⟨fuel, hf⟩ := h
  obtain ⟨xs, n, _, _, hl, hlen, hg⟩ := DataW.trod_struct Try.underlying46 hf
  have c6 : Try.prog.cellsOf 46 = 4 := by kernel_rfl
  have c1 : Try.prog.cellsOf 2 = 1 := by kernel_rfl
  rw [c6] at hsz
  obtain ⟨l⟩ := cs
  match l, hsz with
  | [a0, a1, a2, a3], _ =>
    match xs, hlen with
    | [x0, x1, x2, x3], _ =>
      have g0 : DataW.trod enc Try.prog W base spare held n 2 (List.take (Try.prog.cellsOf 2) (List.drop 0 [a0, a1, a2, a3])) = some x0 := hg 0 _ rfl
      have g1 : DataW.trod enc Try.prog W base spare held n 2 (List.take (Try.prog.cellsOf 2) (List.drop 1 [a0, a1, a2, a3])) = some x1 := hg 1 _ rfl
      have g2 : DataW.trod enc Try.prog W base spare held n 2 (List.take (Try.prog.cellsOf 2) (List.drop 2 [a0, a1, a2, a3])) = some x2 := hg 2 _ rfl
      have g3 : DataW.trod enc Try.prog W base spare held n 2 (List.take (Try.prog.cellsOf 2) (List.drop 3 [a0, a1, a2, a3])) = some x3 := hg 3 _ rfl
      rw [c1] at g0 g1 g2 g3
      obtain ⟨k0, e0, _⟩ := DataW.trod_int Try.underlying2 g0
      obtain ⟨k1, e1, _⟩ := DataW.trod_int Try.underlying2 g1
      obtain ⟨k2, e2, _⟩ := DataW.trod_int Try.underlying2 g2
      obtain ⟨k3, e3, _⟩ := DataW.trod_int Try.underlying2 g3
      simp at e0 e1 e2 e3
      subst e0 e1 e2 e3
      exact ⟨k0, k1, k2, k3, rfl⟩

set_option maxHeartbeats 2000000 in
theorem walk_none (st d wt v core line : Int) (n0 n1 n2 n3 k dd c vv : Int) (w : World)
    (hsp : ∀ w, Calls Try.prog 25 #[slV st d wt v, .int .i64 core, .int .i64 line] w (AnswersV w ((n0, n1, n2, n3), 0, dd, c) vv core line))
    (him : ∀ w, Calls Try.prog 16 #[slV st d wt v, .int .i64 core, .int .i64 line] w (AnswersV w ((n0, n1, n2, n3), 0, dd, c) vv core line)) :
    Calls Try.prog 6 #[slV st d wt v, .int .i64 core, .int .i64 line] w fun e w' => e = .returned (.bool true) ∧ Below w.heap.size w w' := by
  have m0 := sc_box w st d wt v 46
  go_enter Try.func6, Try.ntmps6
  go_wp2_with fail
  refine (toSlot_any _ _ _ _ _).mono ?_
  rintro e w1 ⟨rfl, hb⟩
  have hz1 := hb.size
  simp only [World.size_alloc] at hz1
  have m1 := sc_next m0 hb
  clear hb m0
  go_wp2_with fail
  refine (hsp _).mono ?_
  rintro e w2 ⟨tv, rfl, hb, ht⟩
  obtain rfl := told_none ht
  have hz2 := hb.size
  clear ht
  have m2 := sc_next m1 hb
  clear hb m1
  have px := sc_here m2.1 n0 n1 n2 n3 25
  have mx := sc_alloc m2 (.cells #[.int .i64 n0, .int .i64 n1, .int .i64 n2, .int .i64 n3] 25)
  clear m2
  obtain ⟨_, c0, c1, c2, c3⟩ := id mx
  go_wp2_with fail
  refine (toSlot_any _ _ _ _ _).mono ?_
  rintro e w3 ⟨rfl, hb⟩
  have hz3 := hb.size
  simp only [World.size_alloc] at hz3
  clear c0 c1 c2 c3
  have m3 := sc_next mx hb
  have p3 := sc_next px hb
  clear hb mx px
  go_wp2_with fail
  refine (him _).mono ?_
  rintro e w4 ⟨tv, rfl, hb, ht⟩
  obtain rfl := told_none ht
  have hz4 := hb.size
  clear ht
  have m4 := sc_next m3 hb
  have p4 := sc_next p3 hb
  clear hb m3 p3
  have qx := sc_here m4.1 n0 n1 n2 n3 25
  have mx := sc_alloc m4 (.cells #[.int .i64 n0, .int .i64 n1, .int .i64 n2, .int .i64 n3] 25)
  have px := sc_alloc p4 (.cells #[.int .i64 n0, .int .i64 n1, .int .i64 n2, .int .i64 n3] 25)
  clear m4 p4
  obtain ⟨_, c0, c1, c2, c3⟩ := id px
  obtain ⟨_, g0, g1, g2, g3⟩ := id qx
  go_wp2_with fail
  refine (eqSlot_same _ _ _ _ _).mono ?_
  rintro e w5 ⟨rfl, hb⟩
  clear c0 c1 c2 c3
  clear g0 g1 g2 g3
  have m5 := sc_next mx hb
  have p5 := sc_next px hb
  have q5 := sc_next qx hb
  clear hb mx px qx
  go_wp2_with fail
  refine (eqMsgS_none _).mono ?_
  rintro e w6 ⟨rfl, hb⟩
  have m6 := sc_next m5 hb
  have p6 := sc_next p5 hb
  have q6 := sc_next q5 hb
  clear hb m5 p5 q5
  go_wp2_with fail
  refine (mark_none _).mono ?_
  rintro e w7 ⟨rfl, rfl⟩
  go_wp2_with fail
  refine (held_none _).mono ?_
  rintro e w8 ⟨rfl, rfl⟩
  obtain ⟨_, c0, c1, c2, c3⟩ := id m6
  go_wp2_with fail
  refine (toSlot_any _ _ _ _ _).mono ?_
  rintro e w9 ⟨rfl, hb⟩
  clear c0 c1 c2 c3
  have m9 := sc_next m6 hb
  have p9 := sc_next p6 hb
  have q9 := sc_next q6 hb
  clear hb m6 p6 q6
  go_wp2_with fail
  refine (him _).mono ?_
  rintro e w10 ⟨tv, rfl, hb, ht⟩
  obtain rfl := told_none ht
  have hz10 := hb.size
  clear ht
  have m10 := sc_next m9 hb
  have p10 := sc_next p9 hb
  have q10 := sc_next q9 hb
  clear hb m9 p9 q9
  have rx := sc_here m10.1 n0 n1 n2 n3 25
  have mx := sc_alloc m10 (.cells #[.int .i64 n0, .int .i64 n1, .int .i64 n2, .int .i64 n3] 25)
  have px := sc_alloc p10 (.cells #[.int .i64 n0, .int .i64 n1, .int .i64 n2, .int .i64 n3] 25)
  have qx := sc_alloc q10 (.cells #[.int .i64 n0, .int .i64 n1, .int .i64 n2, .int .i64 n3] 25)
  clear m10 p10 q10
  obtain ⟨_, c0, c1, c2, c3⟩ := id px
  obtain ⟨_, g0, g1, g2, g3⟩ := id rx
  go_wp2_with fail
  refine (eqSlot_same _ _ _ _ _).mono ?_
  rintro e w11 ⟨rfl, hb⟩
  clear c0 c1 c2 c3
  clear g0 g1 g2 g3
  have m11 := sc_next mx hb
  have p11 := sc_next px hb
  have q11 := sc_next qx hb
  have r11 := sc_next rx hb
  clear hb mx px qx rx
  go_wp2_with fail
  refine (eqMsgS_none _).mono ?_
  rintro e w12 ⟨rfl, hb⟩
  have m12 := sc_next m11 hb
  have p12 := sc_next p11 hb
  have q12 := sc_next q11 hb
  have r12 := sc_next r11 hb
  clear hb m11 p11 q11 r11
  go_wp2_with fail
  refine (held_none _).mono ?_
  rintro e w13 ⟨rfl, rfl⟩
  go_wp2
  go_ret
  exact ⟨rfl, m12.1⟩

set_option maxHeartbeats 2000000 in
theorem walk_one (st d wt v core line : Int) (n0 n1 n2 n3 k dd c vv : Int) (w : World) (hk : ¬ k = 0)
    (hsp : ∀ w, Calls Try.prog 25 #[slV st d wt v, .int .i64 core, .int .i64 line] w (AnswersV w ((n0, n1, n2, n3), k, dd, c) vv core line))
    (him : ∀ w, Calls Try.prog 16 #[slV st d wt v, .int .i64 core, .int .i64 line] w (AnswersV w ((n0, n1, n2, n3), k, dd, c) vv core line)) :
    Calls Try.prog 6 #[slV st d wt v, .int .i64 core, .int .i64 line] w fun e w' => e = .returned (.bool true) ∧ Below w.heap.size w w' := by
  have m0 := sc_box w st d wt v 46
  go_enter Try.func6, Try.ntmps6
  go_wp2_with fail
  refine (toSlot_any _ _ _ _ _).mono ?_
  rintro e w1 ⟨rfl, hb⟩
  have hz1 := hb.size
  simp only [World.size_alloc] at hz1
  have m1 := sc_next m0 hb
  clear hb m0
  go_wp2_with fail
  refine (hsp _).mono ?_
  rintro e w2 ⟨tv, rfl, hb, ht⟩
  obtain ⟨A, hlA, rfl, a2⟩ := told_one ht hk
  have hz2 := hb.size
  clear ht
  have m2 := sc_next m1 hb
  clear hb m1
  have ltA := a2.lt
  have px := sc_here m2.1 n0 n1 n2 n3 25
  have mx := sc_alloc m2 (.cells #[.int .i64 n0, .int .i64 n1, .int .i64 n2, .int .i64 n3] 25)
  have ax := holds_alloc a2 (.cells #[.int .i64 n0, .int .i64 n1, .int .i64 n2, .int .i64 n3] 25)
  clear m2 a2
  obtain ⟨_, c0, c1, c2, c3⟩ := id mx
  go_wp2_with fail
  refine (toSlot_any _ _ _ _ _).mono ?_
  rintro e w3 ⟨rfl, hb⟩
  have hz3 := hb.size
  simp only [World.size_alloc] at hz3
  clear c0 c1 c2 c3
  have m3 := sc_next mx hb
  have p3 := sc_next px hb
  have a3 := ax.next hb
  clear hb mx px ax
  go_wp2_with fail
  refine (him _).mono ?_
  rintro e w4 ⟨tv, rfl, hb, ht⟩
  obtain ⟨B, hlB, rfl, b4⟩ := told_one ht hk
  have hz4 := hb.size
  clear ht
  have m4 := sc_next m3 hb
  have p4 := sc_next p3 hb
  have a4 := a3.next hb
  clear hb m3 p3 a3
  have ltB := b4.lt
  have qx := sc_here m4.1 n0 n1 n2 n3 25
  have mx := sc_alloc m4 (.cells #[.int .i64 n0, .int .i64 n1, .int .i64 n2, .int .i64 n3] 25)
  have px := sc_alloc p4 (.cells #[.int .i64 n0, .int .i64 n1, .int .i64 n2, .int .i64 n3] 25)
  have ax := holds_alloc a4 (.cells #[.int .i64 n0, .int .i64 n1, .int .i64 n2, .int .i64 n3] 25)
  have bx := holds_alloc b4 (.cells #[.int .i64 n0, .int .i64 n1, .int .i64 n2, .int .i64 n3] 25)
  clear m4 p4 a4 b4
  obtain ⟨_, c0, c1, c2, c3⟩ := id px
  obtain ⟨_, g0, g1, g2, g3⟩ := id qx
  go_wp2_with fail
  refine (eqSlot_same _ _ _ _ _).mono ?_
  rintro e w5 ⟨rfl, hb⟩
  clear c0 c1 c2 c3
  clear g0 g1 g2 g3
  have m5 := sc_next mx hb
  have p5 := sc_next px hb
  have q5 := sc_next qx hb
  have a5 := ax.next hb
  have b5 := bx.next hb
  clear hb mx px qx ax bx
  go_wp2_with fail
  refine (eqMsgS_one B A _ _ _ _ _ _ _ b5 a5).mono ?_
  rintro e w6 ⟨rfl, hb⟩
  have m6 := sc_next m5 hb
  have p6 := sc_next p5 hb
  have q6 := sc_next q5 hb
  have a6 := a5.next hb
  have b6 := b5.next hb
  clear hb m5 p5 q5 a5 b5
  go_wp2_with fail
  refine (mark_one B _ _ _ _ _ _ _ b6).mono ?_
  rintro e w7 ⟨rfl, rfl⟩
  have m7 := m6.mark (B := B) (by omega) (by omega)
  have p7 := p6.mark (B := B) (by omega) (by omega)
  have a7 := marked_other (B := B) a6 (by omega)
  have b7 := marked_self b6
  clear m6 p6 q6 a6 b6
  generalize marked w6 B = w7 at m7 p7 a7 b7 ⊢
  go_wp2_with fail
  refine (held_one B _ b7).mono ?_
  rintro e w8 ⟨rfl, rfl⟩
  obtain ⟨_, c0, c1, c2, c3⟩ := id m7
  go_wp2_with fail
  refine (toSlot_any _ _ _ _ _).mono ?_
  rintro e w9 ⟨rfl, hb⟩
  clear c0 c1 c2 c3
  have m9 := sc_next m7 hb
  have p9 := sc_next p7 hb
  have a9 := a7.next hb
  have b9 := b7.next hb
  clear hb m7 p7 a7 b7
  go_wp2_with fail
  refine (him _).mono ?_
  rintro e w10 ⟨tv, rfl, hb, ht⟩
  obtain ⟨C, hlC, rfl, c10⟩ := told_one ht hk
  have hz10 := hb.size
  clear ht
  have m10 := sc_next m9 hb
  have p10 := sc_next p9 hb
  have a10 := a9.next hb
  have b10 := b9.next hb
  clear hb m9 p9 a9 b9
  have rx := sc_here m10.1 n0 n1 n2 n3 25
  have mx := sc_alloc m10 (.cells #[.int .i64 n0, .int .i64 n1, .int .i64 n2, .int .i64 n3] 25)
  have px := sc_alloc p10 (.cells #[.int .i64 n0, .int .i64 n1, .int .i64 n2, .int .i64 n3] 25)
  have ax := holds_alloc a10 (.cells #[.int .i64 n0, .int .i64 n1, .int .i64 n2, .int .i64 n3] 25)
  have bx := holds_alloc b10 (.cells #[.int .i64 n0, .int .i64 n1, .int .i64 n2, .int .i64 n3] 25)
  have cx := holds_alloc c10 (.cells #[.int .i64 n0, .int .i64 n1, .int .i64 n2, .int .i64 n3] 25)
  clear m10 p10 a10 b10 c10
  obtain ⟨_, y0, y1, y2, y3⟩ := id px
  obtain ⟨_, g0, g1, g2, g3⟩ := id rx
  go_wp2_with fail
  refine (eqSlot_same _ _ _ _ _).mono ?_
  rintro e w11 ⟨rfl, hb⟩
  clear y0 y1 y2 y3
  clear g0 g1 g2 g3
  have m11 := sc_next mx hb
  have p11 := sc_next px hb
  have r11 := sc_next rx hb
  have a11 := ax.next hb
  have b11 := bx.next hb
  have c11 := cx.next hb
  clear hb mx px rx ax bx cx
  go_wp2_with fail
  refine (eqMsgS_one C A _ _ _ _ _ _ _ c11 a11).mono ?_
  rintro e w12 ⟨rfl, hb⟩
  have m12 := sc_next m11 hb
  have p12 := sc_next p11 hb
  have r12 := sc_next r11 hb
  have a12 := a11.next hb
  have b12 := b11.next hb
  have c12 := c11.next hb
  clear hb m11 p11 r11 a11 b11 c11
  go_wp2_with fail
  refine (held_one B _ b12).mono ?_
  rintro e w13 ⟨rfl, rfl⟩
  go_wp2
  go_ret
  exact ⟨rfl, m12.1⟩

theorem walk (st d wt v core line : Int) (w : World) : Calls Try.prog 6 #[slV st d wt v, .int .i64 core, .int .i64 line] w fun e w' => e = .returned (.bool true) ∧ Below w.heap.size w w' := by
  have hsp := fun w => specAsked_any (st, d, wt, v) core line w
  have him := fun w => implAsked_any (st, d, wt, v) core line w
  generalize mvd (st, d, wt, v) (frm core line) (askM (st, d, wt, v)) = m at hsp him
  obtain ⟨⟨n0, n1, n2, n3⟩, k, dd, c⟩ := m
  by_cases hk : k = 0
  · subst hk
    exact walk_none st d wt v core line n0 n1 n2 n3 0 dd c _ w hsp him
  · exact walk_one st d wt v core line n0 n1 n2 n3 k dd c _ w hk hsp him

set_option maxRecDepth 100000 in
theorem lifted (os : Os) (started : os.Started) (H : Type) (enc : TypeId × Value → H) :
    ReturnsInHanded {} Try.checked os 6 .any (Rows.fnExactAskedSpec.pre6 enc Try.prog Try.f6 Rows.fnExactAskedRow.domain false) (Rows.fnExactAskedSpec.post enc Try.prog Try.f6 false true false false) := by
  refine returnsInHanded_of_change (C := Try.checked) own started (by kernel_rfl) Try.func6
    (ChangeSpec.witness6 (enc := enc) (C := Try.checked) false ⟨#[], #[.agg #[.int .i64 0, .int .i64 0, .int .i64 0, .int .i64 0], .int .i64 0, .int .i64 0], []⟩ 8 (by kernel_rfl) (by kernel_rfl) (by kernel_rfl) (by kernel_rfl)) ?_
  intro W base args ds gs before hval0 hW hcnd _
  have hval : ∀ (j : Nat) t v, Try.f6.params[j]? = some t → args[j]? = some v → Value.okWide Try.prog W .any base t v := hval0
  have hW' := hW
  obtain ⟨p, q, hA0, hV, rfl, hfz, hnd⟩ := hW
  have hA : DataW.TrodAll enc Try.prog W 0 (fun _ => true) true Try.f6.params.toList args.toList ds p := hA0
  rw [Try.params6] at hA hval
  obtain ⟨v0, vs0, d0, ds0, p0, q0, hargs, rfl, rfl, h0, r0⟩ := trodAll_cons hA
  obtain ⟨v1, vs1, d1, ds1, p1, q1, rfl, rfl, rfl, h1, r1⟩ := trodAll_cons r0
  obtain ⟨v2, vs2, d2, ds2, p2, q2, rfl, rfl, rfl, h2, r2⟩ := trodAll_cons r1
  obtain ⟨rfl, rfl, rfl⟩ := trodAll_nil r2
  obtain rfl : args = #[v0, v1, v2] := by cases args; simp_all
  obtain ⟨rfl, rfl⟩ := trodVars_none hV
  have k0 := h0
  have lt0 : ∀ x ∈ p0, x.block < W.heap.size := by obtain ⟨m, hm⟩ := k0; exact DataW.trod_lt m _ _ _ hm
  obtain ⟨a0_0, a0_1, a0_2, a0_3, rfl⟩ := open_s (hval 0 46 v0 rfl rfl) h0
  obtain ⟨a1, rfl, rfl, rfl, w1⟩ := open_int Try.underlying2 (hval 1 2 v1 rfl rfl) h1
  obtain ⟨a2, rfl, rfl, rfl, w2⟩ := open_int Try.underlying2 (hval 2 2 v2 rfl rfl) h2
  clear hA0 hval0
  refine (walk a0_0 a0_1 a0_2 a0_3 a1 a2 W).mono fun e W' ⟨he, bel⟩ => ?_
  subst he
  exact ⟨_, rfl, _, _, _, [], _, [], hW', trodAll_mk1 (shut_bool Try.underlying4 _), (trodAll_cons_mk (Below.trod laidOut (by kernel_rfl) (of_decide_eq_true (by kernel_rfl)) k0 bel lt0) (trodAll_cons_mk (shut_int Try.underlying2 w1) (trodAll_cons_mk (shut_int Try.underlying2 w2) trodAll_mk0))), rfl, bel.frame _, fun h => by cases h⟩

theorem over : Rows.fnExactAskedRow.holds Try.pinned (OpenSpec.ofChange Rows.fnExactAskedSpec) :=
  OpenClaim.holds_of_wide 6 Try.f6 rfl rfl rfl rfl rfl rfl rfl ⟨rfl, rfl, rfl, rfl, rfl⟩ rfl rfl rfl rfl rfl (by kernel_rfl) Try.func6 (by kernel_rfl)
    (of_decide_eq_true (by kernel_rfl)) (by unfold Func.isWrapper; first | (rw [if_pos (by decide +kernel)]; kernel_rfl) | (rw [if_neg (by decide +kernel)]; exact ⟨rfl, rfl⟩))
    (fun os started H enc _ => lifted os started H enc)

theorem proved : Rows.FnExactAskedSaid := over
end Go.Proofs.Ytafokmegmkbiaaa.fnExactAsked

namespace Go.Proofs.Ytafokmegmkbiaaa
theorem fnExactAsked_holds : Rows.FnExactAskedSaid := fnExactAsked.proved
end Go.Proofs.Ytafokmegmkbiaaa
