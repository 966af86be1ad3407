/- Proved: for every line, whatever its lists, laws.FnExactLineOk returns true and leaves its argument as it read. No condition. -/
import Derived.Test.YtjhaloeahidplaaRows
import Derived.Test.YtjhaloeahidplaaLqC
import Derived.Test.YtjhaloeahidplaaLqD
import Derived.Test.YtjhaloeahidplaaLqF
import Derived.WalkKit
import Derived.ProofKit
import Derived.OpenShut
import Derived.ShutString
import Derived.ChangeOld
import Derived.Below
import Derived.OpenVars
import Derived.Deep.RegionHeld3
import Derived.Deep.SlicePairs
namespace Go.Proofs.Ytjhaloeahidplaa.fnExactLineOk
open Go.ChangeShapes Go.WideShapes Go.ChangeAt Go.WideMaps Go.WideElems Go.RowKit
set_option linter.unusedVariables false
set_option linter.unusedSimpArgs false

theorem own : ownKnob Try.prog.godebug = none := by kernel_rfl
theorem laidOut : laidOutB Try.prog = true := by kernel_rfl

theorem keep14 {w W W' : World} {p0 p1 p2 p3 p4 p5 p6 p7 p8 p9 p10 p11 p12 p13 : Addr} {x0 x1 x2 x3 x4 x5 x6 x7 x8 x9 x10 x11 x12 x13 : Value} (h : Below w.heap.size w W ∧ W.cell? p0 = some x0 ∧ W.cell? p1 = some x1 ∧ W.cell? p2 = some x2 ∧ W.cell? p3 = some x3 ∧ W.cell? p4 = some x4 ∧ W.cell? p5 = some x5 ∧ W.cell? p6 = some x6 ∧ W.cell? p7 = some x7 ∧ W.cell? p8 = some x8 ∧ W.cell? p9 = some x9 ∧ W.cell? p10 = some x10 ∧ W.cell? p11 = some x11 ∧ W.cell? p12 = some x12 ∧ W.cell? p13 = some x13) (hb : Below W.heap.size W W') : Below w.heap.size w W' ∧ W'.cell? p0 = some x0 ∧ W'.cell? p1 = some x1 ∧ W'.cell? p2 = some x2 ∧ W'.cell? p3 = some x3 ∧ W'.cell? p4 = some x4 ∧ W'.cell? p5 = some x5 ∧ W'.cell? p6 = some x6 ∧ W'.cell? p7 = some x7 ∧ W'.cell? p8 = some x8 ∧ W'.cell? p9 = some x9 ∧ W'.cell? p10 = some x10 ∧ W'.cell? p11 = some x11 ∧ W'.cell? p12 = some x12 ∧ W'.cell? p13 = some x13 := ⟨h.1.trans (hb.mono h.1.size), keepc hb h.2.1, keepc hb h.2.2.1, keepc hb h.2.2.2.1, keepc hb h.2.2.2.2.1, keepc hb h.2.2.2.2.2.1, keepc hb h.2.2.2.2.2.2.1, keepc hb h.2.2.2.2.2.2.2.1, keepc hb h.2.2.2.2.2.2.2.2.1, keepc hb h.2.2.2.2.2.2.2.2.2.1, keepc hb h.2.2.2.2.2.2.2.2.2.2.1, keepc hb h.2.2.2.2.2.2.2.2.2.2.2.1, keepc hb h.2.2.2.2.2.2.2.2.2.2.2.2.1, keepc hb h.2.2.2.2.2.2.2.2.2.2.2.2.2.1, keepc hb h.2.2.2.2.2.2.2.2.2.2.2.2.2.2⟩

theorem Sl.drew {w : World} {v : Value} {zs : List Int} (h : Sl w v zs) : Sl w.drew v zs := h
theorem Sr.drew {w : World} {v : Value} {m n : Nat} {f : Nat → Nat → Int} (h : Sr w v m n f) : Sr w.drew v m n f := h

set_option maxHeartbeats 4000000 in
theorem walk (mem ow : Int) (sa : Option Addr) (sc : Nat) (zs : List Int) (bu wt ac : Int) (qa : Option Addr) (qn qc : Nat) (f : Nat → Nat → Int) (w : World) (hs : Sl w (.slice sa zs.length sc) zs) (hq : Sr w (.slice qa qn qc) 2 qn f) (hS : (zs.length : Int) ≤ 9223372036854775807) (hQ : (qn : Int) ≤ 9223372036854775807) :
    Calls Try.prog 4 #[.agg (ln7 mem ow (.slice sa zs.length sc) bu wt ac (.slice qa qn qc))] w fun e w' => e = .returned (.bool true) ∧ Below w.heap.size w w' := by
  have la := lb_box w mem ow (.slice sa zs.length sc) bu wt ac (.slice qa qn qc) 40
  obtain ⟨_, a0, a1, a2, a3, a4, a5, a6⟩ := id la
  go_enter Try.func4, Try.ntmps4
  go_wp2_with fail
  refine (szLine_any mem ow sa zs.length sc bu wt ac qa qn qc _ hS hQ).mono ?_
  rintro e w1 ⟨hb, rfl | ⟨r, rfl, hr, hn1, hn2⟩⟩
  · replace la := la.next hb
    clear hb a0 a1 a2 a3 a4 a5 a6
    go_wp2
    go_ret
    exact ⟨rfl, la.1⟩
  · replace la := la.next hb
    clear hb a0 a1 a2 a3 a4 a5 a6
    obtain ⟨_, a0, a1, a2, a3, a4, a5, a6⟩ := id la
    have hl : zs.length ≤ 1048576 := hn1
    have hrr : decide (r < 0) = false := by simp; omega
    have hsp := fun w sv' q' h1 h2 => specLineOk_any mem ow sv' zs bu wt ac q' qn qn f w h1 hl h2 hn2
    have him := fun w sv' q' h1 h2 => implLineOk_any mem ow sv' zs bu wt ac q' qn qn f w h1 hl h2 hn2
    generalize lineB mem ow zs bu wt ac qn f = z at hsp him
    go_wp2_with fail
    refine (toLine_any mem ow _ zs bu wt ac _ qn f _ (hs.below la.1) hl (hq.below la.1) hn2).mono ?_
    rintro e w2 ⟨sv1, g1, rfl, hs1, hq1, hb⟩
    replace la := la.next hb
    clear hb a0 a1 a2 a3 a4 a5 a6
    go_wp2_with fail
    refine (hsp _ _ _ hs1 hq1).mono ?_
    rintro e w2' ⟨rfl, hb⟩
    replace la := la.next hb
    clear hb hs1 hq1 hsp
    obtain ⟨_, a0, a1, a2, a3, a4, a5, a6⟩ := id la
    go_wp2_with fail
    refine (toLine_any mem ow _ zs bu wt ac _ qn f _ (hs.below la.1) hl (hq.below la.1) hn2).mono ?_
    rintro e w3 ⟨sv2, g2, rfl, hs2, hq2, hb⟩
    replace la := la.next hb
    have lx := lb_here la.1 mem ow sv2 bu wt ac (.slice (some ⟨g2, 0, none⟩) qn qn) 45
    have hbx : Below w3.heap.size w3 (w3.alloc (.cells (ln7 mem ow sv2 bu wt ac (.slice (some ⟨g2, 0, none⟩) qn qn)) 45)) := (Below.refl _ _).alloc (Nat.le_refl _) _
    replace la := la.next hbx
    replace hs2 := hs2.below hbx
    replace hq2 := hq2.below hbx
    clear hb hbx a0 a1 a2 a3 a4 a5 a6
    obtain ⟨svad, svcap, hsv2, _⟩ := id hs2
    subst hsv2
    obtain ⟨_, x0, x1, x2, x3, x4, x5, x6⟩ := id lx
    go_wp2_with fail
    refine (him _ _ _ hs2 hq2).mono ?_
    rintro e w4 ⟨rfl, hb⟩
    replace la := la.next hb
    replace lx := lx.next hb
    replace hs2 := hs2.below hb
    replace hq2 := hq2.below hb
    clear hb him x0 x1 x2 x3 x4 x5 x6
    obtain ⟨_, a0, a1, a2, a3, a4, a5, a6⟩ := id la
    obtain ⟨_, x0, x1, x2, x3, x4, x5, x6⟩ := id lx
    have hzz : (z != z) = false := by simp
    go_wp2
    go_region_held3 (fun w' => Below w.heap.size w w' ∧ w'.cell? ⟨w3.heap.size, 0, none⟩ = some (.int .i64 mem) ∧ w'.cell? ⟨w3.heap.size, 1, none⟩ = some (.int .i64 ow) ∧ w'.cell? ⟨w3.heap.size, 2, none⟩ = some (.slice svad zs.length svcap) ∧ w'.cell? ⟨w3.heap.size, 3, none⟩ = some (.int .i64 bu) ∧ w'.cell? ⟨w3.heap.size, 4, none⟩ = some (.int .i64 wt) ∧ w'.cell? ⟨w3.heap.size, 5, none⟩ = some (.int .i64 ac) ∧ w'.cell? ⟨w3.heap.size, 6, none⟩ = some (.slice (some ⟨g2, 0, none⟩) qn qn) ∧ w'.cell? ⟨w.heap.size, 0, none⟩ = some (.int .i64 mem) ∧ w'.cell? ⟨w.heap.size, 1, none⟩ = some (.int .i64 ow) ∧ w'.cell? ⟨w.heap.size, 2, none⟩ = some (.slice sa zs.length sc) ∧ w'.cell? ⟨w.heap.size, 3, none⟩ = some (.int .i64 bu) ∧ w'.cell? ⟨w.heap.size, 4, none⟩ = some (.int .i64 wt) ∧ w'.cell? ⟨w.heap.size, 5, none⟩ = some (.int .i64 ac) ∧ w'.cell? ⟨w.heap.size, 6, none⟩ = some (.slice qa qn qc)) (first | exact ⟨la.1.drew, x0, x1, x2, x3, x4, x5, x6, a0, a1, a2, a3, a4, a5, a6⟩ | exact keep14 (by assumption) hbk) (first | (go_at_call 15; refine (toLine_any mem ow _ zs bu wt ac _ qn f _ ?_ hl ?_ hn2).mono ?_; exact hs.below la.1.drew; exact hq.below la.1.drew; rintro e w5 ⟨sv3, g3, rfl, hs3, hq3, hbk⟩; have hsx := (Sl.drew hs2).below hbk; have hqx := (Sr.drew hq2).below hbk) | (go_at_call 17; refine (eqLine_any mem ow _ _ zs bu wt ac _ _ qn f _ ?_ ?_ hl ?_ ?_ hn2).mono ?_; exact hsx; exact hs3; exact hqx; exact hq3; rintro e w6 ⟨rfl, hbk⟩))
    all_goals go_wp2
    all_goals go_ret
    rename_i hH
    exact ⟨rfl, hH.1⟩

set_option maxRecDepth 100000 in
/-- a line, opened -/
theorem open_line {W : World} {H : Type} {enc : TypeId × Value → H} {base b0 : Nat} {spare : Nat → Bool} {held : Bool} {r : Reach} {v : Value} {d : DataW H} {p : List MemPlace} (hv : Value.okWide Try.prog W r b0 40 v) (h : DataW.Trod enc Try.prog W base spare held 40 v d p) :
    ∃ (mem ow : Int) (sa : Option Addr) (sn sc : Nat) (zs : List Int) (bu wt ac : Int) (qa : Option Addr) (qn qc : Nat) (f : Nat → Nat → Int), v = .agg (ln7 mem ow (.slice sa sn sc) bu wt ac (.slice qa qn qc)) ∧ Sl W (.slice sa sn sc) zs ∧ zs.length = sn ∧ Sr W (.slice qa qn qc) 2 qn f ∧ sn ≤ maxLen ∧ qn ≤ maxLen := by
  obtain ⟨cs, rfl, hsz⟩ := okWide_struct Try.underlying40 hv
  obtain ⟨fuel, hf⟩ := h
  obtain ⟨xs, n, _, _, hl, hlen, hg⟩ := DataW.trod_struct Try.underlying40 hf
  have c7 : Try.prog.cellsOf 40 = 7 := by kernel_rfl
  have c1 : Try.prog.cellsOf 2 = 1 := by kernel_rfl
  have cS : Try.prog.cellsOf 37 = 1 := by kernel_rfl
  have cQ : Try.prog.cellsOf 38 = 1 := by kernel_rfl
  rw [c7] at hsz
  obtain ⟨l⟩ := cs
  match l, hsz with
  | [b0, b1, b2, b3, b4, b5, b6], _ =>
    match xs, hlen with
    | [x0, x1, x2, x3, x4, x5, x6], _ =>
      have g0 : DataW.trod enc Try.prog W base spare held n 2 (List.take (Try.prog.cellsOf 2) (List.drop 0 [b0, b1, b2, b3, b4, b5, b6])) = some x0 := hg 0 _ rfl
      have g1 : DataW.trod enc Try.prog W base spare held n 2 (List.take (Try.prog.cellsOf 2) (List.drop 1 [b0, b1, b2, b3, b4, b5, b6])) = some x1 := hg 1 _ rfl
      have g2 : DataW.trod enc Try.prog W base spare held n 37 (List.take (Try.prog.cellsOf 37) (List.drop 2 [b0, b1, b2, b3, b4, b5, b6])) = some x2 := hg 2 _ rfl
      have g3 : DataW.trod enc Try.prog W base spare held n 2 (List.take (Try.prog.cellsOf 2) (List.drop 3 [b0, b1, b2, b3, b4, b5, b6])) = some x3 := hg 3 _ rfl
      have g4 : DataW.trod enc Try.prog W base spare held n 2 (List.take (Try.prog.cellsOf 2) (List.drop 4 [b0, b1, b2, b3, b4, b5, b6])) = some x4 := hg 4 _ rfl
      have g5 : DataW.trod enc Try.prog W base spare held n 2 (List.take (Try.prog.cellsOf 2) (List.drop 5 [b0, b1, b2, b3, b4, b5, b6])) = some x5 := hg 5 _ rfl
      have g6 : DataW.trod enc Try.prog W base spare held n 38 (List.take (Try.prog.cellsOf 38) (List.drop 6 [b0, b1, b2, b3, b4, b5, b6])) = some x6 := hg 6 _ rfl
      rw [c1] at g0 g1 g3 g4 g5
      rw [cS] at g2
      rw [cQ] at g6
      obtain ⟨k0, e0, _⟩ := DataW.trod_int Try.underlying2 g0
      obtain ⟨k1, e1, _⟩ := DataW.trod_int Try.underlying2 g1
      obtain ⟨k3, e3, _⟩ := DataW.trod_int Try.underlying2 g3
      obtain ⟨k4, e4, _⟩ := DataW.trod_int Try.underlying2 g4
      obtain ⟨k5, e5, _⟩ := DataW.trod_int Try.underlying2 g5
      simp at e0 e1 e3 e4 e5
      subst e0 e1 e3 e4 e5
      obtain ⟨sa, sn, sc, zs, rfl, hS, hz, hm⟩ : ∃ (sa : Option Addr) (sn sc : Nat) (zs : List Int), b2 = .slice sa sn sc ∧ Sl W (.slice sa sn sc) zs ∧ zs.length = sn ∧ sn ≤ maxLen := by
        rcases open_ints Try.underlying37 Try.underlying2 (by kernel_rfl) g2 with ⟨hcs, _⟩ | ⟨x, l, c, zs, hcs, _, hl, hm, hz, _, hcell, hwz⟩
        · simp at hcs
          exact ⟨none, 0, 0, [], hcs, ⟨none, 0, rfl, fun hp => absurd hp (by simp)⟩, rfl, Nat.zero_le _⟩
        · simp at hcs
          have hz' : l ≤ zs.length := by rw [hz]; split <;> omega
          obtain ⟨h1, h2⟩ := sl_of_row (w := W) (x := x) (len := l) (cap := c) (z := zs) (by omega) hcell
          exact ⟨some x, l, c, zs.take l, hcs, h2, h1, by omega⟩
      obtain ⟨qa, qn, qc, f, rfl, hR, hm2⟩ : ∃ (qa : Option Addr) (qn qc : Nat) (f : Nat → Nat → Int), b6 = .slice qa qn qc ∧ Sr W (.slice qa qn qc) 2 qn f ∧ qn ≤ maxLen := by
        rcases Go.Deep.open_slice_pairs Try.underlying38 Try.underlying97 (by kernel_rfl) rfl rfl (by kernel_rfl) (by kernel_rfl) g6 with ⟨hcs, _⟩ | ⟨a, len, cap, m, n', V0, V1, D0, D1, P0, P1, hcs, _, hlc, hcm, hmm, _, hx⟩
        · simp at hcs
          exact ⟨none, 0, 0, fun _ _ => 0, hcs, ⟨none, 0, rfl, fun hp => absurd hp (by simp)⟩, Nat.zero_le _⟩
        · simp at hcs
          have hlm : len ≤ m := by rw [hmm]; split <;> omega
          refine ⟨some a, len, cap, fun i j => if j = 0 then intOf (V0 i) else intOf (V1 i), hcs, ⟨some a, cap, rfl, fun hp => ?_⟩, by omega⟩
          obtain ⟨ab, ao, spot⟩ := a
          have h0 := (hx 0 (by omega)).1
          have hspot : spot = none := by simpa [Addr.add] using World.cell?_spot h0
          subst hspot
          refine ⟨ab, ao, rfl, fun j hj i hi => ?_⟩
          obtain ⟨t0, t1, u0, u1⟩ := hx j (by omega)
          rw [addr_add] at t0 t1
          obtain ⟨k0, f0, _⟩ := DataW.trod_int Try.underlying2 u0
          obtain ⟨k1, f1, _⟩ := DataW.trod_int Try.underlying2 u1
          simp at f0 f1
          match i, hi with
          | 0, _ => dsimp only; rw [Nat.add_zero, t0, f0]; simp [intOf]
          | 1, _ => dsimp only; rw [show ao + j * 2 + 1 = ao + (j * 2 + 1) by omega, t1, f1]; simp [intOf]
      exact ⟨_, _, _, _, _, zs, _, _, _, _, _, _, f, rfl, hS, hz, hR, hm, hm2⟩

set_option maxRecDepth 100000 in
theorem lifted (os : Os) (started : os.Started) (H : Type) (enc : TypeId × Value → H) :
    ReturnsInHanded {} Try.checked os 4 .any (Rows.fnExactLineOkSpec.pre6 enc Try.prog Try.f4 Rows.fnExactLineOkRow.domain false) (Rows.fnExactLineOkSpec.post enc Try.prog Try.f4 false true false false) := by
  refine returnsInHanded_of_change (C := Try.checked) own started (by kernel_rfl) Try.func4
    (ChangeSpec.witness6 (enc := enc) (C := Try.checked) false ⟨#[], #[.agg (ln7 0 0 (.slice none 0 0) 0 0 0 (.slice none 0 0))], []⟩ 8 (by kernel_rfl) (by kernel_rfl) (by kernel_rfl) (by kernel_rfl)) ?_
  intro W base args ds gs before hval0 hW hcnd _
  have hval : ∀ (j : Nat) t v, Try.f4.params[j]? = some t → args[j]? = some v → Value.okWide Try.prog W .any base t v := hval0
  have hW' := hW
  obtain ⟨p, q, hA0, hV, rfl, hfz, hnd⟩ := hW
  have hA : DataW.TrodAll enc Try.prog W 0 (fun _ => true) true Try.f4.params.toList args.toList ds p := hA0
  rw [Try.params4] at hA hval
  obtain ⟨v0, vs0, d0, ds0, p0, q0, hargs, rfl, rfl, h0, r0⟩ := trodAll_cons hA
  obtain ⟨rfl, rfl, rfl⟩ := trodAll_nil r0
  obtain rfl : args = #[v0] := by cases args; simp_all
  obtain ⟨rfl, rfl⟩ := trodVars_none hV
  have k0 := h0
  have lt0 : ∀ x ∈ p0, x.block < W.heap.size := by obtain ⟨m, hm⟩ := k0; exact DataW.trod_lt m _ _ _ hm
  obtain ⟨mem, ow, sa, sn, sc, zs, bu, wt, ac, qa, qn, qc, f, rfl, hS, hz, hR, hm1, hm2⟩ := open_line (hval 0 40 v0 rfl rfl) h0
  clear hA0 hval0
  subst hz
  refine (walk mem ow sa sc zs bu wt ac qa qn qc f W hS hR (by unfold maxLen at hm1; omega) (by unfold maxLen at hm2; omega)).mono fun e W' ⟨he, bel⟩ => ?_
  subst he
  exact ⟨_, rfl, _, _, _, [], _, [], hW', trodAll_mk1 (shut_bool Try.underlying4 _), trodAll_cons_mk (Below.trod laidOut (by kernel_rfl) (of_decide_eq_true (by kernel_rfl)) k0 bel lt0) trodAll_mk0, rfl, bel.frame _, fun h => by cases h⟩

theorem over : Rows.fnExactLineOkRow.holds Try.pinned (OpenSpec.ofChange Rows.fnExactLineOkSpec) :=
  OpenClaim.holds_of_wide 4 Try.f4 rfl rfl rfl rfl rfl rfl rfl ⟨rfl, rfl, rfl, rfl, rfl⟩ rfl rfl rfl rfl rfl (by kernel_rfl) Try.func4 (by kernel_rfl)
    (of_decide_eq_true (by kernel_rfl)) (by unfold Func.isWrapper; first | (rw [if_pos (by decide +kernel)]; kernel_rfl) | (rw [if_neg (by decide +kernel)]; exact ⟨rfl, rfl⟩))
    (fun os started H enc _ => lifted os started H enc)

theorem proved : Rows.FnExactLineOkSaid := over
end Go.Proofs.Ytjhaloeahidplaa.fnExactLineOk

namespace Go.Proofs.Ytjhaloeahidplaa
theorem fnExactLineOk_holds : Rows.FnExactLineOkSaid := fnExactLineOk.proved
end Go.Proofs.Ytjhaloeahidplaa
