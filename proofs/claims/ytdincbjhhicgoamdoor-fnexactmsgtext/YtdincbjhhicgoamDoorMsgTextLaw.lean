/- Proved: for every message laws.FnExactMsgText returns true and leaves its argument as it read; the listed tables (the program's own and the library's powers of ten) read as the program's text lays them (the card ties them). No other condition. -/
import Derived.Test.YtdincbjhhicgoamDoorRows
import Derived.Test.YtdincbjhhicgoamDoorCards
import Derived.Test.YtdincbjhhicgoamDoorTie
import Derived.Test.YtdincbjhhicgoamDoorMsgH
import Derived.Lib.LaidTab
import Derived.Stop.LaidErr
import Derived.OpenVars
import Derived.Stop.Joined
import Derived.SevenTiedAt
namespace Go.Proofs.YtdincbjhhicgoamDoor
open Go.ChangeShapes Go.WideShapes Go.ChangeAt Go.WideMaps Go.WideElems Go.RowKit
set_option linter.unusedVariables false

theorem own : ownKnob Tryd.prog.godebug = none := by kernel_rfl
theorem laidOut : laidOutB Tryd.prog = true := by kernel_rfl

set_option maxHeartbeats 1000000 in
theorem implText_no (k f t l wt d : Int) (w : World) (ht : Tab w) (hok : okB k f t l wt d = false) :
    Calls Tryd.prog 7 #[.agg #[.int .i64 k, .int .i64 f, .int .i64 t, .int .i64 l, .int .i64 wt, .int .i64 d]] w fun e w' => e = .returned (.string (bstr [])) ∧ Below w.heap.size w w' := by
  have mb := mc_box w k f t l wt d 25
  have htb := ht.below mb.1
  go_enter Tryd.func7, Tryd.ntmps7
  go_wp2_with fail
  refine (implOk_any _ _ _ _ _ _ _ htb).mono ?_
  rintro e w1 ⟨rfl, hb1⟩
  have m1 := mc_next mb hb1
  clear mb hb1 htb ht
  go_wp2
  go_ret
  exact ⟨rfl, m1.1⟩

/-- the text of any message -/
def textB (k f t l wt d : Int) : List UInt8 := if okB k f t l wt d then text k.toNat (f + t) l wt d else []

theorem ok_kind {k f t l wt d : Int} (h : okB k f t l wt d = true) : 1 ≤ k ∧ k ≤ 9 := by
  unfold okB at h
  simp only [Bool.and_eq_true, inB, decide_eq_true_eq] at h
  exact h.1.1.1.1

theorem specText_any (k f t l wt d : Int) (w : World) :
    Calls Tryd.prog 5 #[.agg #[.int .i64 k, .int .i64 f, .int .i64 t, .int .i64 l, .int .i64 wt, .int .i64 d]] w fun e w' => e = .returned (.string (bstr (textB k f t l wt d))) ∧ Below w.heap.size w w' := by
  unfold textB
  cases hok : okB k f t l wt d with
  | false => exact specText_no k f t l wt d w hok
  | true =>
    have hk := ok_kind hok
    obtain ⟨n, rfl⟩ := Int.eq_ofNat_of_zero_le (by omega : 0 ≤ k)
    exact specText_yes n f t l wt d w (by omega) (by omega) hok

theorem implText_any (k f t l wt d : Int) (w : World) (ht : Tab w) (hp : Pow w) :
    Calls Tryd.prog 7 #[.agg #[.int .i64 k, .int .i64 f, .int .i64 t, .int .i64 l, .int .i64 wt, .int .i64 d]] w fun e w' => e = .returned (.string (bstr (textB k f t l wt d))) ∧ Below w.heap.size w w' := by
  unfold textB
  cases hok : okB k f t l wt d with
  | false => exact implText_no k f t l wt d w ht hok
  | true =>
    have hk := ok_kind hok
    obtain ⟨n, rfl⟩ := Int.eq_ofNat_of_zero_le (by omega : 0 ≤ k)
    exact implText_yes n f t l wt d w (by omega) (by omega) ht hp hok

set_option maxHeartbeats 1000000 in
theorem walk (k f t l wt d : Int) (w : World) (ht : Tab w) (hp : Pow w) :
    Calls Tryd.prog 3 #[.agg #[.int .i64 k, .int .i64 f, .int .i64 t, .int .i64 l, .int .i64 wt, .int .i64 d]] w fun e w' => e = .returned (.bool true) ∧ Below w.heap.size w w' := by
  have mb := mc_box w k f t l wt d 23
  go_enter Tryd.func3, Tryd.ntmps3
  go_wp2_with fail
  refine (toMsg_any _ _ _ _ _ _ _).mono ?_
  rintro e w1 ⟨rfl, hb1⟩
  have m1 := mc_next mb hb1
  clear mb hb1
  go_wp2_with fail
  refine (specText_any _ _ _ _ _ _ _).mono ?_
  rintro e w2 ⟨rfl, hb2⟩
  have m2 := mc_next m1 hb2
  clear m1 hb2
  obtain ⟨_, q0, q1, q2, q3, q4, q5⟩ := id m2
  go_wp2_with fail
  refine (toMsg_any _ _ _ _ _ _ _).mono ?_
  rintro e w3 ⟨rfl, hb3⟩
  have m3 := mc_next m2 hb3
  clear m2 hb3 q0 q1 q2 q3 q4 q5
  go_wp2_with fail
  refine (implText_any _ _ _ _ _ _ _ (ht.below m3.1) (hp.below m3.1)).mono ?_
  rintro e w4 ⟨rfl, hb4⟩
  have m4 := mc_next m3 hb4
  clear m3 hb4
  generalize bstr (textB k f t l wt d) = x
  go_wp2
  go_ret
  exact ⟨rfl, m4.1⟩

/-- a struct of six integers, opened -/
theorem open_msg {W : World} {H : Type} {enc : TypeId × Value → H} {base b0 : Nat} {spare : Nat → Bool} {held : Bool} {r : Reach} {v : Value} {d : DataW H} {p : List MemPlace} (hv : Value.okWide Tryd.prog W r b0 23 v) (h : DataW.Trod enc Tryd.prog W base spare held 23 v d p) :
    ∃ k f t l wt e : Int, v = .agg #[.int .i64 k, .int .i64 f, .int .i64 t, .int .i64 l, .int .i64 wt, .int .i64 e] := by
  obtain ⟨cs, rfl, hsz⟩ := okWide_struct Tryd.underlying23 hv
  obtain ⟨fuel, hf⟩ := h
  obtain ⟨xs, n, _, _, hl, hlen, hg⟩ := DataW.trod_struct Tryd.underlying23 hf
  have c6 : Tryd.prog.cellsOf 23 = 6 := by kernel_rfl
  have c1 : Tryd.prog.cellsOf 2 = 1 := by kernel_rfl
  rw [c6] at hsz
  obtain ⟨l⟩ := cs
  match l, hsz with
  | [a0, a1, a2, a3, a4, a5], _ =>
    match xs, hlen with
    | [x0, x1, x2, x3, x4, x5], _ =>
      have g0 : DataW.trod enc Tryd.prog W base spare held n 2 (List.take (Tryd.prog.cellsOf 2) (List.drop 0 [a0, a1, a2, a3, a4, a5])) = some x0 := hg 0 _ rfl
      have g1 : DataW.trod enc Tryd.prog W base spare held n 2 (List.take (Tryd.prog.cellsOf 2) (List.drop 1 [a0, a1, a2, a3, a4, a5])) = some x1 := hg 1 _ rfl
      have g2 : DataW.trod enc Tryd.prog W base spare held n 2 (List.take (Tryd.prog.cellsOf 2) (List.drop 2 [a0, a1, a2, a3, a4, a5])) = some x2 := hg 2 _ rfl
      have g3 : DataW.trod enc Tryd.prog W base spare held n 2 (List.take (Tryd.prog.cellsOf 2) (List.drop 3 [a0, a1, a2, a3, a4, a5])) = some x3 := hg 3 _ rfl
      have g4 : DataW.trod enc Tryd.prog W base spare held n 2 (List.take (Tryd.prog.cellsOf 2) (List.drop 4 [a0, a1, a2, a3, a4, a5])) = some x4 := hg 4 _ rfl
      have g5 : DataW.trod enc Tryd.prog W base spare held n 2 (List.take (Tryd.prog.cellsOf 2) (List.drop 5 [a0, a1, a2, a3, a4, a5])) = some x5 := hg 5 _ rfl
      rw [c1] at g0 g1 g2 g3 g4 g5
      obtain ⟨k0, e0, _⟩ := DataW.trod_int Tryd.underlying2 g0
      obtain ⟨k1, e1, _⟩ := DataW.trod_int Tryd.underlying2 g1
      obtain ⟨k2, e2, _⟩ := DataW.trod_int Tryd.underlying2 g2
      obtain ⟨k3, e3, _⟩ := DataW.trod_int Tryd.underlying2 g3
      obtain ⟨k4, e4, _⟩ := DataW.trod_int Tryd.underlying2 g4
      obtain ⟨k5, e5, _⟩ := DataW.trod_int Tryd.underlying2 g5
      simp at e0 e1 e2 e3 e4 e5
      subst e0 e1 e2 e3 e4 e5
      exact ⟨k0, k1, k2, k3, k4, k5, rfl⟩

theorem pow_datum : (Rows.laid_internal_strconv_uint64pow10 : DataW Unit) = Lib.tabData .u64 Lib.pow10Tab := by rfl

/-- what the condition gives the walks -/
theorem of_laid {W : World} (h : laidMetH Tryd.prog Rows.fnExactMsgTextRow.laid W) : Tab W ∧ Pow W := by
  have h0 : laidMetH Tryd.prog [("math/bits.deBruijn32tab", Rows.laid_math_bits_deBruijn32tab), ("math/bits.deBruijn64tab", Rows.laid_math_bits_deBruijn64tab), ("internal/strconv.uint64pow10", Rows.laid_internal_strconv_uint64pow10), ("loop.example/g00384/impl.msgShapes", Rows.laid_loop_example_g00384_impl_msgShapes)] W := h
  rw [MakeChecks.laidMetH_plain _ _ _ (by kernel_rfl)] at h0
  have h2 := h0.tail.tail
  have h3 := h2.tail
  rw [pow_datum] at h2
  exact ⟨tab_of_met h3, Lib.tabIs_of_head gPow (by kernel_rfl) Tryd.underlying84 Tryd.underlying70 (by kernel_rfl) (by kernel_rfl) h2⟩

/-- the door's own heap meets the condition -/
theorem door_met (os : Os) (args : Array Value) : laidMetH Tryd.prog Rows.fnExactMsgTextRow.laid ((World.doorLaid Tryd.prog 400 os).forCall (fun _ _ => 0) ⟨#[], args, []⟩).memory :=
  laidMetH_of_parts3 (fuel := 8) (laidMet_of_run' 8 (by kernel_rfl) (by kernel_rfl)) (by kernel_rfl) (by kernel_rfl)

set_option maxRecDepth 100000 in
theorem lifted (os : Os) (started : os.Started) (H : Type) (enc : TypeId × Value → H) :
    ReturnsInHanded {} Tryd.checked os 3 .any (fun w args => (Rows.fnExactMsgTextSpec.pre enc Tryd.prog Tryd.f3 [] false w args ∧ laidMetH Tryd.prog Rows.fnExactMsgTextRow.laid w) ∧ sizedMet enc Tryd.prog Tryd.f3 (OpenSpec.ofChange Rows.fnExactMsgTextSpec) false w args)
      (Rows.fnExactMsgTextSpec.post enc Tryd.prog Tryd.f3 false true false false) := by
  refine returnsInHanded_of_change_and (C := Tryd.checked) (X := fun w _ => laidMetH Tryd.prog Rows.fnExactMsgTextRow.laid w) (fun _ _ _ hh h => h.of_heap hh) own started (by kernel_rfl) Tryd.func3
    (ChangeSpec.witness_shaped (enc := enc) (C := Tryd.checked) (os := os) (X := fun w _ => laidMetH Tryd.prog Rows.fnExactMsgTextRow.laid w) false (World.doorLaid Tryd.prog 400 os) #[.agg #[.int .i64 0, .int .i64 0, .int .i64 0, .int .i64 0, .int .i64 0, .int .i64 0]] 8 rfl (World.shaped_of_RefB (by kernel_rfl) (by kernel_rfl)) (by kernel_rfl) (by kernel_rfl) (by kernel_rfl) (door_met os _)) ?_
  intro W base args ds gs before hval0 hW _ _ hL _
  have hval : ∀ (j : Nat) t v, Tryd.f3.params[j]? = some t → args[j]? = some v → Value.okWide Tryd.prog W .any base t v := hval0
  have hW' := hW
  obtain ⟨p, q, hA0, hV, rfl, hfz, hnd⟩ := hW
  have hA : DataW.TrodAll enc Tryd.prog W 0 (fun _ => true) true Tryd.f3.params.toList args.toList ds p := hA0
  rw [Tryd.params3] at hA hval
  obtain ⟨v0, vs0, d0, ds0, p0, q0, hargs, rfl, rfl, h0, r0⟩ := trodAll_cons hA
  obtain ⟨rfl, rfl, rfl⟩ := trodAll_nil r0
  obtain rfl : args = #[v0] := by cases args; simp_all
  have k0 := h0
  have lt0 : ∀ x ∈ p0, x.block < W.heap.size := by obtain ⟨m, hm⟩ := k0; exact DataW.trod_lt m _ _ _ hm
  obtain ⟨k, f, t, l, wt, e, rfl⟩ := open_msg (hval 0 23 v0 rfl rfl) h0
  obtain ⟨g, tt, cs, fuel, dv, pv, rfl, hg, htt, hvar, hd, rfl⟩ := trodVars_one hV
  clear hA0 hval0
  obtain ⟨hT, hP⟩ := of_laid hL
  refine (walk k f t l wt e W hT hP).mono fun e W' ⟨he, bel⟩ => ?_
  subst he
  exact ⟨_, rfl, _, _, _, [], _, _, hW', trodAll_mk1 (shut_bool Tryd.underlying4 _), trodAll_cons_mk (Below.trod laidOut (by kernel_rfl) (of_decide_eq_true (by kernel_rfl)) k0 bel lt0) trodAll_mk0, bel.trodVars laidOut (by kernel_rfl) hV, bel.frame _, fun h => by cases h⟩

theorem row_holds : Rows.FnExactMsgTextSaid :=
  OpenClaim.holds_of_wide 3 Tryd.f3 rfl rfl rfl rfl rfl rfl rfl ⟨rfl, rfl, rfl, rfl, rfl⟩ rfl rfl rfl rfl rfl (by kernel_rfl) Tryd.func3 (by kernel_rfl)
    (of_decide_eq_true (by kernel_rfl)) (by unfold Func.isWrapper; first | (rw [if_pos (by decide +kernel)]; kernel_rfl) | (rw [if_neg (by decide +kernel)]; exact ⟨rfl, rfl⟩))
    (fun os started H enc _ => lifted os started H enc)

theorem fnExactMsgText_holds : Rows.FnExactMsgTextCardSaid :=
  Claim7.holds_tied_plain_at .later [] [.data, .data, .data, .data] true Rows.fnExactMsgTextCard.stood.harness false
    row_holds (fun _ h => by cases h) (by kernel_rfl) (fun _ h => by cases h) fnExactMsgText_row_tie rfl ⟨rfl, rfl⟩ (by kernel_rfl) rfl
    (fun f fn hf hfn => by
      obtain rfl : f = 3 := Option.some.inj ((show Tryd.prog.funcNamed "loop.example/g00384/laws.FnExactMsgText" = some 3 by kernel_rfl).symm.trans hf) |>.symm
      obtain rfl : fn = Tryd.f3 := (Option.some.inj (Tryd.func3.symm.trans hfn)).symm
      exact ⟨by kernel_rfl, fun j t ht => by
        rw [Tryd.params3] at ht
        have hm : t ∈ [23] := by simpa using Array.mem_of_getElem? ht
        have hall : ([23].all fun u => !Tryd.prog.wantsStandIn u) = true := by kernel_rfl
        exact (show Tryd.prog.wantsStandIn t = false by simpa using List.all_eq_true.1 hall t hm)⟩)
    (by kernel_rfl)

end Go.Proofs.YtdincbjhhicgoamDoor
