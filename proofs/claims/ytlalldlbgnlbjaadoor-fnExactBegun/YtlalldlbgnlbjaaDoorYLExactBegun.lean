/- Proved: for every line, number and request laws.FnExactBegun returns true and leaves its arguments as they read; the listed variables (errors.errorType, impl.errBusy, impl.errOwns) read as the program's text lays them (the card ties them). No other condition. -/
import Derived.Test.YtlalldlbgnlbjaaDoorRows
import Derived.Test.YtlalldlbgnlbjaaDoorCards
import Derived.Test.YtlalldlbgnlbjaaDoorTie
import Derived.Test.YtlalldlbgnlbjaaDoorYtBegun40
import Derived.OpenVars
import Derived.Stop.Joined
import Derived.SevenTiedAt
import Derived.ShutString
import Derived.ChangeOld
import Derived.OpenShut
import Derived.ProofKit
import Derived.LaidHandle
import Derived.LaidLaws
import Derived.LaidMore
import Derived.Deep.SlicePairs
namespace Go.Proofs.YtlalldlbgnlbjaaDoor.fnExactBegun
open Go.ChangeShapes Go.WideShapes Go.ChangeAt Go.WideMaps Go.WideElems Go.RowKit
set_option linter.unusedVariables false
set_option linter.unusedSimpArgs false

theorem own : ownKnob Tryd.prog.godebug = none := by kernel_rfl
theorem laidOut : laidOutB Tryd.prog = true := by kernel_rfl
theorem gBusy : Tryd.prog.globalNamed "loop.example/g00384/impl.errBusy" = some 1 := by kernel_rfl
theorem gOwns : Tryd.prog.globalNamed "loop.example/g00384/impl.errOwns" = some 2 := by kernel_rfl
theorem gTyp : Tryd.prog.globalNamed "errors.errorType" = some 3 := by kernel_rfl
theorem tBusy : (Tryd.prog.globals[1]?).map (·.type) = some 64 := by kernel_rfl
theorem tOwns : (Tryd.prog.globals[2]?).map (·.type) = some 64 := by kernel_rfl
theorem cellsE : Tryd.prog.cellsOf 158 = 1 := by kernel_rfl
theorem cellsS : Tryd.prog.cellsOf 9 = 1 := by kernel_rfl
theorem star : "*" ++ "errors.errorString" = "*errors.errorString" := by decide
theorem rowE (u : TypeId) (h : Tryd.prog.typeName? 3 u = some "*errors.errorString") : u = 136 :=
  typeName_ptr_named (nm := "errors.errorString") (by rw [star]; kernel_rfl) (by kernel_rfl) (by decide) u (by rw [star]; exact h)
theorem rt : (Tryd.prog.cutTypes.find? (·.1 == "internal/reflectlite.rtype")).map (·.2) = some 120 := by kernel_rfl
theorem oneRow : ((List.range (270 - 100)).filter fun t => Tryd.prog.rowNamed t [101, 114, 114, 111, 114]) = [64] := by kernel_rfl
theorem typesN : Tryd.prog.types.size = 270 - 100 := by kernel_rfl

set_option maxRecDepth 100000 in
/-- what the condition gives the walk -/
theorem gl_of_laid {W : World} (h : laidMetH Tryd.prog Rows.fnExactBegunRow.laid W) : ∃ E, Gl E W := by
  have h' : laidMet Tryd.prog [("loop.example/g00384/impl.errBusy", Rows.laid_loop_example_g00384_impl_errBusy), ("loop.example/g00384/impl.errOwns", Rows.laid_loop_example_g00384_impl_errOwns)] W ∧ handlesMet Tryd.prog [("errors.errorType", Rows.laid_errors_errorType)] W := h
  obtain ⟨⟨ps, ⟨g0, t0, cs0, f0, p0, q0, hg0, ht0, hv0, hd0, ⟨g1, t1, cs1, f1', p1, q1, hg1, ht1, hv1, hd1, hq1, e1⟩, e0⟩, hnd, hrows⟩, h2⟩ := h'
  obtain rfl := Option.some.inj (gBusy.symm.trans hg0)
  obtain rfl := Option.some.inj (gOwns.symm.trans hg1)
  obtain rfl := Option.some.inj (tBusy.symm.trans ht0)
  obtain rfl := Option.some.inj (tOwns.symm.trans ht1)
  have hq1' : q1 = [] := hq1
  subst hq1'
  subst e1
  subst e0
  obtain ⟨l0⟩ := cs0
  obtain ⟨l1⟩ := cs1
  have ok0 : ∀ u v, l0 = [.iface u v] → Value.okWide Tryd.prog W .any 0 u v := fun u v e => by
    subst e
    exact (hrows 1 0 (by simp [MemPlace.row])).2 u v (by simpa using World.var?_cell hg0 hv0 0)
  have ok1 : ∀ u v, l1 = [.iface u v] → Value.okWide Tryd.prog W .any 0 u v := fun u v e => by
    subst e
    exact (hrows 2 0 (by simp [MemPlace.row])).2 u v (by simpa using World.var?_cell hg1 hv1 0)
  obtain ⟨a0, s0, rfl, _⟩ := errorString_of_trod Tryd.underlying64 rowE Tryd.underlying136 Tryd.underlying158 rfl rfl Tryd.underlying9 cellsE cellsS hd0 ok0
  obtain ⟨a1, s1, rfl, _⟩ := errorString_of_trod Tryd.underlying64 rowE Tryd.underlying136 Tryd.underlying158 rfl rfl Tryd.underlying9 cellsE cellsS hd1 ok1
  obtain ⟨name, u, ty, k1, k2, k3, k4, k5⟩ := h2 _ (List.mem_singleton.2 rfl)
  have en : name = [101, 114, 114, 111, 114] := (Option.some.inj k1).symm
  subst en
  obtain rfl := Option.some.inj (rt.symm.trans k2)
  have hm : ty ∈ (List.range (270 - 100)).filter fun t => Tryd.prog.rowNamed t [101, 114, 114, 111, 114] := List.mem_filter.2 ⟨List.mem_range.2 (by rw [← typesN]; exact k3), k4⟩
  rw [oneRow] at hm
  obtain rfl := List.mem_singleton.1 hm
  have hh : typeHandle Tryd.prog 64 = .pointer (some ⟨4, 64, none⟩) := by kernel_rfl
  rw [hh] at k5
  have ct := World.var?_cell gTyp k5 0
  have cb := World.var?_cell hg0 hv0 0
  have co := World.var?_cell hg1 hv1 0
  have hlt : 3 < W.heap.size := World.block_lt_of_cell? W ⟨3, 0, none⟩ (by simpa using ct)
  exact ⟨(a0, a1), by simpa using cb, by simpa using co, by simpa using ct, by omega⟩

set_option maxRecDepth 100000 in
/-- a line, opened -/
theorem open_line {W : World} {H : Type} {enc : TypeId × Value → H} {base b0 : Nat} {spare : Nat → Bool} {held : Bool} {r : Reach} {v : Value} {d : DataW H} {p : List MemPlace} (hv : Value.okWide Tryd.prog W r b0 25 v) (h : DataW.Trod enc Tryd.prog W base spare held 25 v d p) :
    ∃ (mem ow : Int) (sa : Option Addr) (sn sc : Nat) (zs : List Int) (bu wt ac : Int) (qa : Option Addr) (qn qc : Nat) (f : Nat → Nat → Int), v = .agg (ln7 mem ow (.slice sa sn sc) bu wt ac (.slice qa qn qc)) ∧ Sl W (.slice sa sn sc) zs ∧ zs.length = sn ∧ Sr W (.slice qa qn qc) 2 qn f ∧ sn ≤ maxLen ∧ qn ≤ maxLen := by
  obtain ⟨cs, rfl, hsz⟩ := okWide_struct Tryd.underlying25 hv
  obtain ⟨fuel, hf⟩ := h
  obtain ⟨xs, n, _, _, hl, hlen, hg⟩ := DataW.trod_struct Tryd.underlying25 hf
  have c7 : Tryd.prog.cellsOf 25 = 7 := by kernel_rfl
  have c1 : Tryd.prog.cellsOf 2 = 1 := by kernel_rfl
  have cS : Tryd.prog.cellsOf 22 = 1 := by kernel_rfl
  have cQ : Tryd.prog.cellsOf 23 = 1 := by kernel_rfl
  rw [c7] at hsz
  obtain ⟨l⟩ := cs
  match l, hsz with
  | [b0, b1, b2, b3, b4, b5, b6], _ =>
    match xs, hlen with
    | [x0, x1, x2, x3, x4, x5, x6], _ =>
      have g0 : DataW.trod enc Tryd.prog W base spare held n 2 (List.take (Tryd.prog.cellsOf 2) (List.drop 0 [b0, b1, b2, b3, b4, b5, b6])) = some x0 := hg 0 _ rfl
      have g1 : DataW.trod enc Tryd.prog W base spare held n 2 (List.take (Tryd.prog.cellsOf 2) (List.drop 1 [b0, b1, b2, b3, b4, b5, b6])) = some x1 := hg 1 _ rfl
      have g2 : DataW.trod enc Tryd.prog W base spare held n 22 (List.take (Tryd.prog.cellsOf 22) (List.drop 2 [b0, b1, b2, b3, b4, b5, b6])) = some x2 := hg 2 _ rfl
      have g3 : DataW.trod enc Tryd.prog W base spare held n 2 (List.take (Tryd.prog.cellsOf 2) (List.drop 3 [b0, b1, b2, b3, b4, b5, b6])) = some x3 := hg 3 _ rfl
      have g4 : DataW.trod enc Tryd.prog W base spare held n 2 (List.take (Tryd.prog.cellsOf 2) (List.drop 4 [b0, b1, b2, b3, b4, b5, b6])) = some x4 := hg 4 _ rfl
      have g5 : DataW.trod enc Tryd.prog W base spare held n 2 (List.take (Tryd.prog.cellsOf 2) (List.drop 5 [b0, b1, b2, b3, b4, b5, b6])) = some x5 := hg 5 _ rfl
      have g6 : DataW.trod enc Tryd.prog W base spare held n 23 (List.take (Tryd.prog.cellsOf 23) (List.drop 6 [b0, b1, b2, b3, b4, b5, b6])) = some x6 := hg 6 _ rfl
      rw [c1] at g0 g1 g3 g4 g5
      rw [cS] at g2
      rw [cQ] at g6
      obtain ⟨k0, e0, _⟩ := DataW.trod_int Tryd.underlying2 g0
      obtain ⟨k1, e1, _⟩ := DataW.trod_int Tryd.underlying2 g1
      obtain ⟨k3, e3, _⟩ := DataW.trod_int Tryd.underlying2 g3
      obtain ⟨k4, e4, _⟩ := DataW.trod_int Tryd.underlying2 g4
      obtain ⟨k5, e5, _⟩ := DataW.trod_int Tryd.underlying2 g5
      simp at e0 e1 e3 e4 e5
      subst e0 e1 e3 e4 e5
      obtain ⟨sa, sn, sc, zs, rfl, hS, hz, hm⟩ : ∃ (sa : Option Addr) (sn sc : Nat) (zs : List Int), b2 = .slice sa sn sc ∧ Sl W (.slice sa sn sc) zs ∧ zs.length = sn ∧ sn ≤ maxLen := by
        rcases open_ints Tryd.underlying22 Tryd.underlying2 (by kernel_rfl) g2 with ⟨hcs, _⟩ | ⟨x, l, c, zs, hcs, _, hl, hm, hz, _, hcell, hwz⟩
        · simp at hcs
          exact ⟨none, 0, 0, [], hcs, ⟨none, 0, rfl, fun hp => absurd hp (by simp)⟩, rfl, Nat.zero_le _⟩
        · simp at hcs
          have hz' : l ≤ zs.length := by rw [hz]; split <;> omega
          obtain ⟨h1, h2⟩ := sl_of_row (w := W) (x := x) (len := l) (cap := c) (z := zs) (by omega) hcell
          exact ⟨some x, l, c, zs.take l, hcs, h2, h1, by omega⟩
      obtain ⟨qa, qn, qc, f, rfl, hR, hm2⟩ : ∃ (qa : Option Addr) (qn qc : Nat) (f : Nat → Nat → Int), b6 = .slice qa qn qc ∧ Sr W (.slice qa qn qc) 2 qn f ∧ qn ≤ maxLen := by
        rcases Go.Deep.open_slice_pairs Tryd.underlying23 Tryd.underlying27 (by kernel_rfl) rfl rfl (by kernel_rfl) (by kernel_rfl) g6 with ⟨hcs, _⟩ | ⟨a, len, cap, m, n', V0, V1, D0, D1, P0, P1, hcs, _, hlc, hcm, hmm, _, hx⟩
        · simp at hcs
          exact ⟨none, 0, 0, fun _ _ => 0, hcs, ⟨none, 0, rfl, fun hp => absurd hp (by simp)⟩, Nat.zero_le _⟩
        · simp at hcs
          have hlm : len ≤ m := by rw [hmm]; split <;> omega
          refine ⟨some a, len, cap, fun i j => if j = 0 then intOf (V0 i) else intOf (V1 i), hcs, ⟨some a, cap, rfl, fun hp => ?_⟩, by omega⟩
          obtain ⟨ab, ao, spot⟩ := a
          have h0 := (hx 0 (by omega)).1
          have hspot : spot = none := by simpa [Addr.add] using World.cell?_spot h0
          subst hspot
          refine ⟨ab, ao, rfl, fun j hj i hi => ?_⟩
          obtain ⟨t0, t1, u0, u1⟩ := hx j (by omega)
          rw [addr_add] at t0 t1
          obtain ⟨k0, f0, _⟩ := DataW.trod_int Tryd.underlying2 u0
          obtain ⟨k1, f1, _⟩ := DataW.trod_int Tryd.underlying2 u1
          simp at f0 f1
          match i, hi with
          | 0, _ => dsimp only; rw [Nat.add_zero, t0, f0]; simp [intOf]
          | 1, _ => dsimp only; rw [show ao + j * 2 + 1 = ao + (j * 2 + 1) by omega, t1, f1]; simp [intOf]
      exact ⟨_, _, _, _, _, zs, _, _, _, _, _, _, f, rfl, hS, hz, hR, hm, hm2⟩

set_option maxRecDepth 100000 in
/-- a struct of 2 integers, opened -/
theorem open_q {W : World} {H : Type} {enc : TypeId × Value → H} {base b0 : Nat} {spare : Nat → Bool} {held : Bool} {r : Reach} {v : Value} {d : DataW H} {p : List MemPlace} (hv : Value.okWide Tryd.prog W r b0 27 v) (h : DataW.Trod enc Tryd.prog W base spare held 27 v d p) :
    ∃ k0 k1 : Int, v = .agg #[.int .i64 k0, .int .i64 k1] := by
  obtain ⟨cs, rfl, hsz⟩ := okWide_struct Tryd.underlying27 hv
  obtain ⟨fuel, hf⟩ := h
  obtain ⟨xs, n, _, _, hl, hlen, hg⟩ := DataW.trod_struct Tryd.underlying27 hf
  have c6 : Tryd.prog.cellsOf 27 = 2 := by kernel_rfl
  have c1 : Tryd.prog.cellsOf 2 = 1 := by kernel_rfl
  rw [c6] at hsz
  obtain ⟨l⟩ := cs
  match l, hsz with
  | [a0, a1], _ =>
    match xs, hlen with
    | [x0, x1], _ =>
      have g0 : DataW.trod enc Tryd.prog W base spare held n 2 (List.take (Tryd.prog.cellsOf 2) (List.drop 0 [a0, a1])) = some x0 := hg 0 _ rfl
      have g1 : DataW.trod enc Tryd.prog W base spare held n 2 (List.take (Tryd.prog.cellsOf 2) (List.drop 1 [a0, a1])) = some x1 := hg 1 _ rfl
      rw [c1] at g0 g1
      obtain ⟨k0, e0, _⟩ := DataW.trod_int Tryd.underlying2 g0
      obtain ⟨k1, e1, _⟩ := DataW.trod_int Tryd.underlying2 g1
      simp at e0 e1
      subst e0 e1
      exact ⟨k0, k1, rfl⟩

/-- the door's own heap meets the condition -/
theorem door_met (os : Os) (args : Array Value) : laidMetH Tryd.prog Rows.fnExactBegunRow.laid ((World.doorLaid Tryd.prog 400 os).forCall (fun _ _ => 0) ⟨#[], args, []⟩).memory :=
  laidMetH_of_parts3 (fuel := 8) (laidMet_of_run' 8 (by kernel_rfl) (by kernel_rfl)) (by kernel_rfl) (by kernel_rfl)

set_option maxRecDepth 100000 in
theorem lifted (os : Os) (started : os.Started) (H : Type) (enc : TypeId × Value → H) :
    ReturnsInHanded {} Tryd.checked os 3 .any (fun w args => (Rows.fnExactBegunSpec.pre enc Tryd.prog Tryd.f3 [] false w args ∧ laidMetH Tryd.prog Rows.fnExactBegunRow.laid w) ∧ sizedMet enc Tryd.prog Tryd.f3 (OpenSpec.ofChange Rows.fnExactBegunSpec) false w args)
      (Rows.fnExactBegunSpec.post enc Tryd.prog Tryd.f3 false true false false) := by
  refine returnsInHanded_of_change_and (C := Tryd.checked) (X := fun w _ => laidMetH Tryd.prog Rows.fnExactBegunRow.laid w) (fun _ _ _ hh h => h.of_heap hh) own started (by kernel_rfl) Tryd.func3
    (ChangeSpec.witness_shaped (enc := enc) (C := Tryd.checked) (os := os) (X := fun w _ => laidMetH Tryd.prog Rows.fnExactBegunRow.laid w) false (World.doorLaid Tryd.prog 400 os) #[.agg (ln7 0 0 (.slice none 0 0) 0 0 0 (.slice none 0 0)), .int .i64 0, .agg #[.int .i64 0, .int .i64 0]] 8 rfl (World.shaped_of_RefB (by kernel_rfl) (by kernel_rfl)) (by kernel_rfl) (by kernel_rfl) (by kernel_rfl) (door_met os _)) ?_
  intro W base args ds gs before hval0 hW _ _ hL _
  have hval : ∀ (j : Nat) t v, Tryd.f3.params[j]? = some t → args[j]? = some v → Value.okWide Tryd.prog W .any base t v := hval0
  have hW' := hW
  obtain ⟨p, q, hA0, hV, rfl, hfz, hnd⟩ := hW
  have hA : DataW.TrodAll enc Tryd.prog W 0 (fun _ => true) true Tryd.f3.params.toList args.toList ds p := hA0
  rw [Tryd.params3] at hA hval
  obtain ⟨v0, vs0, d0, ds0, p0, q0, hargs, rfl, rfl, h0, r0⟩ := trodAll_cons hA
  obtain ⟨v1, vs1, d1, ds1, p1, q1, rfl, rfl, rfl, h1, r1⟩ := trodAll_cons r0
  obtain ⟨v2, vs2, d2, ds2, p2, q2, rfl, rfl, rfl, h2, r2⟩ := trodAll_cons r1
  obtain ⟨rfl, rfl, rfl⟩ := trodAll_nil r2
  obtain rfl : args = #[v0, v1, v2] := by cases args; simp_all
  have k0 := h0
  have lt0 : ∀ x ∈ p0, x.block < W.heap.size := by obtain ⟨m, hm⟩ := k0; exact DataW.trod_lt m _ _ _ hm
  have k2 := h2
  have lt2 : ∀ x ∈ p2, x.block < W.heap.size := by obtain ⟨m, hm⟩ := k2; exact DataW.trod_lt m _ _ _ hm
  obtain ⟨mem, ow, sa, sn, sc, zs, bu, wt, ac, qa, qn, qc, f, rfl, hS, hz, hQ, hm, hn⟩ := open_line (hval 0 25 v0 rfl rfl) h0
  obtain ⟨a1, rfl, rfl, rfl, w1⟩ := open_int Tryd.underlying2 (hval 1 2 v1 rfl rfl) h1
  obtain ⟨c, t, rfl⟩ := open_q (hval 2 27 v2 rfl rfl) h2
  subst hz
  obtain ⟨E, hg⟩ := gl_of_laid hL
  obtain ⟨_, _, _, _, dv0, _, _, _, _, _, dv1, _, rfl, _⟩ := trodVars_two hV
  clear hA0 hval0
  have big : ∀ k : Nat, k ≤ maxLen → (k : Int) ≤ 9223372036854775807 := fun k hk => by unfold maxLen at hk; omega
  have hq : qn = (qL qn f).length := (qL_len qn f).symm
  have hQ2 : Sr W (.slice qa (qL qn f).length qc) 2 (qL qn f).length (f2 (qL qn f)) := by
    have := Sg.congr (show Sg W (.slice qa qn qc) 2 qn (gF f) from hQ) (f' := gF (f2 (qL qn f))) (fun j hj i hi => by simp only [gF]; rw [qL_get qn f j i hj hi])
    rw [← hq]; exact this
  have hw := walkExactBegun E a1 c t ⟨mem, ow, zs, bu, wt, ac, qL qn f⟩ sa sc qa qc W hS hQ2 (big _ hm) (by rw [qL_len]; exact big _ hn) hg
  simp only [qL_len] at hw
  refine hw.mono fun e W' ⟨he, bel⟩ => ?_
  subst he
  exact ⟨_, rfl, _, _, _, [], _, _, hW', trodAll_mk1 (shut_bool Tryd.underlying4 _), (trodAll_cons_mk (Below.trod laidOut (by kernel_rfl) (of_decide_eq_true (by kernel_rfl)) k0 bel lt0) (trodAll_cons_mk (shut_int Tryd.underlying2 w1) (trodAll_cons_mk (Below.trod laidOut (by kernel_rfl) (of_decide_eq_true (by kernel_rfl)) k2 bel lt2) trodAll_mk0))), bel.trodVars laidOut (by kernel_rfl) hV, bel.frame _, fun h => by cases h⟩

theorem row_holds : Rows.FnExactBegunSaid :=
  OpenClaim.holds_of_wide 3 Tryd.f3 rfl rfl rfl rfl rfl rfl rfl ⟨rfl, rfl, rfl, rfl, rfl⟩ rfl rfl rfl rfl rfl (by kernel_rfl) Tryd.func3 (by kernel_rfl)
    (of_decide_eq_true (by kernel_rfl)) (by unfold Func.isWrapper; first | (rw [if_pos (by decide +kernel)]; kernel_rfl) | (rw [if_neg (by decide +kernel)]; exact ⟨rfl, rfl⟩))
    (fun os started H enc _ => lifted os started H enc)
end Go.Proofs.YtlalldlbgnlbjaaDoor.fnExactBegun

namespace Go.Proofs.YtlalldlbgnlbjaaDoor
theorem fnExactBegun_holds : Rows.FnExactBegunCardSaid :=
  Claim7.holds_tied_plain_at .later [] [.handle, .sentinel, .sentinel] true Rows.fnExactBegunCard.stood.harness true
    fnExactBegun.row_holds (fun _ h => by cases h) (by kernel_rfl) (fun _ h => by cases h) fnExactBegun_row_tie rfl ⟨rfl, rfl⟩ (by kernel_rfl) rfl
    (fun f fn hf hfn => by
      obtain rfl : f = 3 := Option.some.inj ((show Tryd.prog.funcNamed "loop.example/g00384/laws.FnExactBegun" = some 3 by kernel_rfl).symm.trans hf) |>.symm
      obtain rfl : fn = Tryd.f3 := (Option.some.inj (Tryd.func3.symm.trans hfn)).symm
      exact ⟨by kernel_rfl, fun j t ht => by
        rw [Tryd.params3] at ht
        have hm : t ∈ [25, 2, 27] := by simpa using Array.mem_of_getElem? ht
        have hall : ([25, 2, 27].all fun u => !Tryd.prog.wantsStandIn u) = true := by kernel_rfl
        exact (show Tryd.prog.wantsStandIn t = false by simpa using List.all_eq_true.1 hall t hm)⟩)
    (by kernel_rfl)
end Go.Proofs.YtlalldlbgnlbjaaDoor
