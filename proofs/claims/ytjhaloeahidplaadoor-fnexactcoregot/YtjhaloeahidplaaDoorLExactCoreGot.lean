/- Proved: for every slot and every message laws.FnExactCoreGot returns true and leaves its arguments as they read; the listed table reads as the program's text lays it (the card ties it). No other condition. -/
import Derived.Test.YtjhaloeahidplaaDoorRows
import Derived.Test.YtjhaloeahidplaaDoorCards
import Derived.Test.YtjhaloeahidplaaDoorTie
import Derived.Test.YtjhaloeahidplaaDoorSlY
import Derived.Test.YtjhaloeahidplaaDoorSlZ
import Derived.OpenVars
import Derived.Stop.Joined
import Derived.SevenTiedAt
import Derived.ShutString
import Derived.ChangeOld
namespace Go.Proofs.YtjhaloeahidplaaDoor.fnExactCoreGot
open Go.ChangeShapes Go.WideShapes Go.ChangeAt Go.WideMaps Go.WideElems Go.RowKit
set_option linter.unusedVariables false
set_option linter.unusedSimpArgs false

theorem own : ownKnob Tryd.prog.godebug = none := by kernel_rfl
theorem laidOut : laidOutB Tryd.prog = true := by kernel_rfl

set_option maxRecDepth 100000 in
/-- a struct of 4 integers, opened -/
theorem open_s {W : World} {H : Type} {enc : TypeId × Value → H} {base b0 : Nat} {spare : Nat → Bool} {held : Bool} {r : Reach} {v : Value} {d : DataW H} {p : List MemPlace} (hv : Value.okWide Tryd.prog W r b0 62 v) (h : DataW.Trod enc Tryd.prog W base spare held 62 v d p) :
    ∃ k0 k1 k2 k3 : Int, v = .agg #[.int .i64 k0, .int .i64 k1, .int .i64 k2, .int .i64 k3] := by
  obtain ⟨cs, rfl, hsz⟩ := okWide_struct Tryd.underlying62 hv
  obtain ⟨fuel, hf⟩ := h
  obtain ⟨xs, n, _, _, hl, hlen, hg⟩ := DataW.trod_struct Tryd.underlying62 hf
  have c6 : Tryd.prog.cellsOf 62 = 4 := by kernel_rfl
  have c1 : Tryd.prog.cellsOf 2 = 1 := by kernel_rfl
  rw [c6] at hsz
  obtain ⟨l⟩ := cs
  match l, hsz with
  | [a0, a1, a2, a3], _ =>
    match xs, hlen with
    | [x0, x1, x2, x3], _ =>
      have g0 : DataW.trod enc Tryd.prog W base spare held n 2 (List.take (Tryd.prog.cellsOf 2) (List.drop 0 [a0, a1, a2, a3])) = some x0 := hg 0 _ rfl
      have g1 : DataW.trod enc Tryd.prog W base spare held n 2 (List.take (Tryd.prog.cellsOf 2) (List.drop 1 [a0, a1, a2, a3])) = some x1 := hg 1 _ rfl
      have g2 : DataW.trod enc Tryd.prog W base spare held n 2 (List.take (Tryd.prog.cellsOf 2) (List.drop 2 [a0, a1, a2, a3])) = some x2 := hg 2 _ rfl
      have g3 : DataW.trod enc Tryd.prog W base spare held n 2 (List.take (Tryd.prog.cellsOf 2) (List.drop 3 [a0, a1, a2, a3])) = some x3 := hg 3 _ rfl
      rw [c1] at g0 g1 g2 g3
      obtain ⟨k0, e0, _⟩ := DataW.trod_int Tryd.underlying2 g0
      obtain ⟨k1, e1, _⟩ := DataW.trod_int Tryd.underlying2 g1
      obtain ⟨k2, e2, _⟩ := DataW.trod_int Tryd.underlying2 g2
      obtain ⟨k3, e3, _⟩ := DataW.trod_int Tryd.underlying2 g3
      simp at e0 e1 e2 e3
      subst e0 e1 e2 e3
      exact ⟨k0, k1, k2, k3, rfl⟩

set_option maxRecDepth 100000 in
/-- a struct of 6 integers, opened -/
theorem open_m {W : World} {H : Type} {enc : TypeId × Value → H} {base b0 : Nat} {spare : Nat → Bool} {held : Bool} {r : Reach} {v : Value} {d : DataW H} {p : List MemPlace} (hv : Value.okWide Tryd.prog W r b0 63 v) (h : DataW.Trod enc Tryd.prog W base spare held 63 v d p) :
    ∃ k0 k1 k2 k3 k4 k5 : Int, v = .agg #[.int .i64 k0, .int .i64 k1, .int .i64 k2, .int .i64 k3, .int .i64 k4, .int .i64 k5] := by
  obtain ⟨cs, rfl, hsz⟩ := okWide_struct Tryd.underlying63 hv
  obtain ⟨fuel, hf⟩ := h
  obtain ⟨xs, n, _, _, hl, hlen, hg⟩ := DataW.trod_struct Tryd.underlying63 hf
  have c6 : Tryd.prog.cellsOf 63 = 6 := by kernel_rfl
  have c1 : Tryd.prog.cellsOf 2 = 1 := by kernel_rfl
  rw [c6] at hsz
  obtain ⟨l⟩ := cs
  match l, hsz with
  | [a0, a1, a2, a3, a4, a5], _ =>
    match xs, hlen with
    | [x0, x1, x2, x3, x4, x5], _ =>
      have g0 : DataW.trod enc Tryd.prog W base spare held n 2 (List.take (Tryd.prog.cellsOf 2) (List.drop 0 [a0, a1, a2, a3, a4, a5])) = some x0 := hg 0 _ rfl
      have g1 : DataW.trod enc Tryd.prog W base spare held n 2 (List.take (Tryd.prog.cellsOf 2) (List.drop 1 [a0, a1, a2, a3, a4, a5])) = some x1 := hg 1 _ rfl
      have g2 : DataW.trod enc Tryd.prog W base spare held n 2 (List.take (Tryd.prog.cellsOf 2) (List.drop 2 [a0, a1, a2, a3, a4, a5])) = some x2 := hg 2 _ rfl
      have g3 : DataW.trod enc Tryd.prog W base spare held n 2 (List.take (Tryd.prog.cellsOf 2) (List.drop 3 [a0, a1, a2, a3, a4, a5])) = some x3 := hg 3 _ rfl
      have g4 : DataW.trod enc Tryd.prog W base spare held n 2 (List.take (Tryd.prog.cellsOf 2) (List.drop 4 [a0, a1, a2, a3, a4, a5])) = some x4 := hg 4 _ rfl
      have g5 : DataW.trod enc Tryd.prog W base spare held n 2 (List.take (Tryd.prog.cellsOf 2) (List.drop 5 [a0, a1, a2, a3, a4, a5])) = some x5 := hg 5 _ rfl
      rw [c1] at g0 g1 g2 g3 g4 g5
      obtain ⟨k0, e0, _⟩ := DataW.trod_int Tryd.underlying2 g0
      obtain ⟨k1, e1, _⟩ := DataW.trod_int Tryd.underlying2 g1
      obtain ⟨k2, e2, _⟩ := DataW.trod_int Tryd.underlying2 g2
      obtain ⟨k3, e3, _⟩ := DataW.trod_int Tryd.underlying2 g3
      obtain ⟨k4, e4, _⟩ := DataW.trod_int Tryd.underlying2 g4
      obtain ⟨k5, e5, _⟩ := DataW.trod_int Tryd.underlying2 g5
      simp at e0 e1 e2 e3 e4 e5
      subst e0 e1 e2 e3 e4 e5
      exact ⟨k0, k1, k2, k3, k4, k5, rfl⟩

theorem walk (st d wt v mk mf mt ml mw md : Int) (w : World) (htab : Tab w) : Calls Tryd.prog 8 #[slV st d wt v, .agg (six mk mf mt ml mw md)] w fun e w' => e = .returned (.bool true) ∧ Below w.heap.size w w' := by
  have hsp := fun w => specCoreGot_any (st, d, wt, v) mk mf mt ml mw md w
  have him := fun w h => implCoreGot_any (st, d, wt, v) mk mf mt ml mw md w h
  generalize mvd (st, d, wt, v) (rtM mk mf mt ml mw md) (gotM mk mw md (st, d, wt, v)) = m at hsp him
  obtain ⟨⟨n0, n1, n2, n3⟩, k, dd, c⟩ := m
  by_cases hk : k = 0
  · subst hk
    exact walk_none st d wt v mk mf mt ml mw md n0 n1 n2 n3 0 dd c w htab hsp him
  · exact walk_one st d wt v mk mf mt ml mw md n0 n1 n2 n3 k dd c w hk htab hsp him

/-- the door's own heap meets the condition -/
theorem door_met (os : Os) (args : Array Value) : laidMetH Tryd.prog Rows.fnExactCoreGotRow.laid ((World.doorLaid Tryd.prog 400 os).forCall (fun _ _ => 0) ⟨#[], args, []⟩).memory :=
  laidMetH_of_parts3 (fuel := 8) (laidMet_of_run' 8 (by kernel_rfl) (by kernel_rfl)) (by kernel_rfl) (by kernel_rfl)

set_option maxRecDepth 100000 in
theorem lifted (os : Os) (started : os.Started) (H : Type) (enc : TypeId × Value → H) :
    ReturnsInHanded {} Tryd.checked os 8 .any (fun w args => (Rows.fnExactCoreGotSpec.pre enc Tryd.prog Tryd.f8 [] false w args ∧ laidMetH Tryd.prog Rows.fnExactCoreGotRow.laid w) ∧ sizedMet enc Tryd.prog Tryd.f8 (OpenSpec.ofChange Rows.fnExactCoreGotSpec) false w args)
      (Rows.fnExactCoreGotSpec.post enc Tryd.prog Tryd.f8 false true false false) := by
  refine returnsInHanded_of_change_and (C := Tryd.checked) (X := fun w _ => laidMetH Tryd.prog Rows.fnExactCoreGotRow.laid w) (fun _ _ _ hh h => h.of_heap hh) own started (by kernel_rfl) Tryd.func8
    (ChangeSpec.witness_shaped (enc := enc) (C := Tryd.checked) (os := os) (X := fun w _ => laidMetH Tryd.prog Rows.fnExactCoreGotRow.laid w) false (World.doorLaid Tryd.prog 400 os) #[.agg #[.int .i64 0, .int .i64 0, .int .i64 0, .int .i64 0], .agg #[.int .i64 0, .int .i64 0, .int .i64 0, .int .i64 0, .int .i64 0, .int .i64 0]] 8 rfl (World.shaped_of_RefB (by kernel_rfl) (by kernel_rfl)) (by kernel_rfl) (by kernel_rfl) (by kernel_rfl) (door_met os _)) ?_
  intro W base args ds gs before hval0 hW _ _ hL _
  have hval : ∀ (j : Nat) t v, Tryd.f8.params[j]? = some t → args[j]? = some v → Value.okWide Tryd.prog W .any base t v := hval0
  have hW' := hW
  obtain ⟨p, q, hA0, hV, rfl, hfz, hnd⟩ := hW
  have hA : DataW.TrodAll enc Tryd.prog W 0 (fun _ => true) true Tryd.f8.params.toList args.toList ds p := hA0
  rw [Tryd.params8] at hA hval
  obtain ⟨v0, vs0, d0, ds0, p0, q0, hargs, rfl, rfl, h0, r0⟩ := trodAll_cons hA
  obtain ⟨v1, vs1, d1, ds1, p1, q1, rfl, rfl, rfl, h1, r1⟩ := trodAll_cons r0
  obtain ⟨rfl, rfl, rfl⟩ := trodAll_nil r1
  obtain rfl : args = #[v0, v1] := by cases args; simp_all
  have k0 := h0
  have lt0 : ∀ x ∈ p0, x.block < W.heap.size := by obtain ⟨m, hm⟩ := k0; exact DataW.trod_lt m _ _ _ hm
  obtain ⟨a0_0, a0_1, a0_2, a0_3, rfl⟩ := open_s (hval 0 62 v0 rfl rfl) h0
  have k1 := h1
  have lt1 : ∀ x ∈ p1, x.block < W.heap.size := by obtain ⟨m, hm⟩ := k1; exact DataW.trod_lt m _ _ _ hm
  obtain ⟨a1_0, a1_1, a1_2, a1_3, a1_4, a1_5, rfl⟩ := open_m (hval 1 63 v1 rfl rfl) h1
  obtain ⟨g, tt, cs, fuel, dv, pv, rfl, hg, htt, hvar, hd, rfl⟩ := trodVars_one hV
  clear hA0 hval0
  refine (walk a0_0 a0_1 a0_2 a0_3 a1_0 a1_1 a1_2 a1_3 a1_4 a1_5 W  (tab_of_laid hL)).mono fun e W' ⟨he, bel⟩ => ?_
  subst he
  exact ⟨_, rfl, _, _, _, [], _, _, hW', trodAll_mk1 (shut_bool Tryd.underlying4 _), (trodAll_cons_mk (Below.trod laidOut (by kernel_rfl) (of_decide_eq_true (by kernel_rfl)) k0 bel lt0) (trodAll_cons_mk (Below.trod laidOut (by kernel_rfl) (of_decide_eq_true (by kernel_rfl)) k1 bel lt1) trodAll_mk0)), bel.trodVars laidOut (by kernel_rfl) hV, bel.frame _, fun h => by cases h⟩

theorem row_holds : Rows.FnExactCoreGotSaid :=
  OpenClaim.holds_of_wide 8 Tryd.f8 rfl rfl rfl rfl rfl rfl rfl ⟨rfl, rfl, rfl, rfl, rfl⟩ rfl rfl rfl rfl rfl (by kernel_rfl) Tryd.func8 (by kernel_rfl)
    (of_decide_eq_true (by kernel_rfl)) (by unfold Func.isWrapper; first | (rw [if_pos (by decide +kernel)]; kernel_rfl) | (rw [if_neg (by decide +kernel)]; exact ⟨rfl, rfl⟩))
    (fun os started H enc _ => lifted os started H enc)
end Go.Proofs.YtjhaloeahidplaaDoor.fnExactCoreGot

namespace Go.Proofs.YtjhaloeahidplaaDoor
theorem fnExactCoreGot_holds : Rows.FnExactCoreGotCardSaid :=
  Claim7.holds_tied_plain_at .later [] [.data] true Rows.fnExactCoreGotCard.stood.harness true
    fnExactCoreGot.row_holds (fun _ h => by cases h) (by kernel_rfl) (fun _ h => by cases h) fnExactCoreGot_row_tie rfl ⟨rfl, rfl⟩ (by kernel_rfl) rfl
    (fun f fn hf hfn => by
      obtain rfl : f = 8 := Option.some.inj ((show Tryd.prog.funcNamed "loop.example/g00384/laws.FnExactCoreGot" = some 8 by kernel_rfl).symm.trans hf) |>.symm
      obtain rfl : fn = Tryd.f8 := (Option.some.inj (Tryd.func8.symm.trans hfn)).symm
      exact ⟨by kernel_rfl, fun j t ht => by
        rw [Tryd.params8] at ht
        have hm : t ∈ [62, 63] := by simpa using Array.mem_of_getElem? ht
        have hall : ([62, 63].all fun u => !Tryd.prog.wantsStandIn u) = true := by kernel_rfl
        exact (show Tryd.prog.wantsStandIn t = false by simpa using List.all_eq_true.1 hall t hm)⟩)
    (by kernel_rfl)
end Go.Proofs.YtjhaloeahidplaaDoor
