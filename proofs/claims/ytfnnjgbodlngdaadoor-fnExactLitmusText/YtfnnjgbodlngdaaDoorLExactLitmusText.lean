/- Proved: for every test laws.FnExactLitmusText returns true and leaves its argument as it read; the listed tables of the library read as the program text lays them (the card ties them). No other condition. -/
import Derived.Test.YtfnnjgbodlngdaaDoorRows
import Derived.Test.YtfnnjgbodlngdaaDoorCards
import Derived.Test.YtfnnjgbodlngdaaDoorTie
import Derived.Lib.LaidTab
import Derived.LaidMore
import Derived.Stop.LaidErr
import Derived.Stop.Joined
import Derived.SevenTiedAt
import Derived.Test.YtfnnjgbodlngdaaDoorLtB
import Derived.WalkKit
import Derived.ProofKit
import Derived.OpenShut
import Derived.ShutString
import Derived.ChangeOld
import Derived.Below
import Derived.OpenVars
namespace Go.Proofs.YtfnnjgbodlngdaaDoor.fnExactLitmusText
open Go.ChangeShapes Go.WideShapes Go.ChangeAt Go.WideMaps Go.WideElems Go.RowKit
set_option linter.unusedVariables false
set_option linter.unusedSimpArgs false

theorem own : ownKnob Tryd.prog.godebug = none := by kernel_rfl
theorem laidOut : laidOutB Tryd.prog = true := by kernel_rfl

set_option maxHeartbeats 8000000 in
set_option maxRecDepth 20000 in
theorem walk (v : Value) (N : Nat) (L : Nat → Nat) (F : Nat → Nat → Nat → Int) (w : World) (hv : Sa w v N L F) (hN : (N : Int) ≤ 9223372036854775807) (hG : ∀ c, c < N → (L c : Int) ≤ 9223372036854775807) (hpw : Pow w) :
    Calls Tryd.prog 3 #[.agg #[v]] w fun e w' => e = .returned (.bool true) ∧ Below w.heap.size w w' := by
  have hB0 : Below w.heap.size w (w.alloc (.cells #[v] 24)) := (Below.refl _ _).alloc (Nat.le_refl _) _
  have qX : (w.alloc (.cells #[v] 24)).heap[w.heap.size]? = some (.cells #[v] 24 (0, 0)) := heap_alloc_new _ _
  have HV := hide hv
  obtain ⟨ad, cap, rfl, _⟩ := hv
  have x0 := (cell_of_row _ _ 0 _ _ _ qX).trans rfl
  go_enter Tryd.func3, Tryd.ntmps3
  go_wp2_with fail
  refine (szLitmus_any _ N L F _ (HV.out.below hB0) hN hG).mono ?_
  rintro e w1 ⟨r, rfl, hp, hb1'⟩
  have hb1 := hB0.trans (hb1'.mono hB0.size)
  have qX1 := heap_bl qX hb1'
  clear hb1' hB0 qX x0
  by_cases hx : r < 0
  · clear hp
    go_wp2
    go_ret
    exact ⟨rfl, hb1⟩
  obtain ⟨⟨hn, hl⟩, _⟩ := hp (by omega)
  clear hp hN hG
  have hto := fun W (h : Sa W (.slice ad N cap) N L F) => toLitmus_any (.slice ad N cap) N L F W h hn hl
  have hsp := fun W u (h : Sa W u N L F) => specText_any u N L F W h hn hl
  have him := fun W u (h : Sa W u N L F) (hq : Pow W) => implText_any u N L F W h hq
  generalize bstr (tsT N L F) = K0 at hsp him
  have x0 := (cell_of_row _ _ 0 _ _ _ qX1).trans rfl
  go_wp2_with fail
  refine (hto _ (HV.out.below hb1)).mono ?_
  rintro e w2 ⟨g2, rfl, oa2, _, hb2⟩
  go_wp2_with fail
  refine (hsp _ _ oa2.ss).mono ?_
  rintro e w3 ⟨rfl, hb3⟩
  have hb23 := hb2.trans (hb3.mono hb2.size)
  have hB3 := hb1.trans (hb23.mono hb1.size)
  have qX3 := heap_bl qX1 hb23
  clear hb1 hb2 hb3 hb23 qX1 x0 oa2
  have x0 := (cell_of_row _ _ 0 _ _ _ qX3).trans rfl
  go_wp2_with fail
  refine (hto _ (HV.out.below hB3)).mono ?_
  rintro e w4 ⟨g4, rfl, oa4, _, hb4⟩
  have hA5 : Below w4.heap.size w4 (w4.alloc (.cells #[.slice (some ⟨g4, 0, none⟩) N N] 29)) := (Below.refl _ _).alloc (Nat.le_refl _) _
  have q5 : (w4.alloc (.cells #[.slice (some ⟨g4, 0, none⟩) N N] 29)).heap[w4.heap.size]? = some (.cells #[.slice (some ⟨g4, 0, none⟩) N N] 29 (0, 0)) := heap_alloc_new _ _
  have s5 := oa4.ss.below hA5
  have hb45 := hb4.trans (hA5.mono hb4.size)
  have hB5 := hB3.trans (hb45.mono hB3.size)
  have qX5 := heap_bl qX3 hb45
  clear hb4 hA5 hb45 hB3 qX3 x0 oa4
  have y0 := (cell_of_row _ _ 0 _ _ _ q5).trans rfl
  go_wp2_with fail
  refine (him _ _ s5 (hpw.below hB5)).mono ?_
  rintro e w6 ⟨rfl, hb6⟩
  have s6 := s5.below hb6
  have hB6 := hB5.trans (hb6.mono hB5.size)
  have qX6 := heap_bl qX5 hb6
  have q6 := heap_bl q5 hb6
  clear hb6 hB5 qX5 q5 s5 y0
  have fx0 := (cell_of_row _ _ 0 _ _ _ qX6).trans rfl
  have fy0 := (cell_of_row _ _ 0 _ _ _ q6).trans rfl
  clear qX6 q6
  go_wp2
  refine wp_region_held_drew (S := fun w' => Below (w6).heap.size (w6) w') (by kernel_rfl) ((Below.refl _ _).drew) (fun hHeld => ?_)
  refine wpAnyH_take (i := 0) (v := .agg #[.slice (some ⟨g4, 0, none⟩) N N]) rfl (by kernel_rfl) (by kernel_rfl) (by kernel_rfl) (fun _ _ _ h => h) (Or.inl ⟨by rfl, fun w' hSw => ?_⟩) (by assumption) ?_
  · (try dsimp only at hSw); have z0 := keepc hSw fx0; have z1 := keepc hSw fy0; go_simp
  try simp only [Act.put, List.getElem_toArray, List.getElem_cons_zero, List.getElem_cons_succ, List.setIfInBounds_toArray, List.set_cons_zero, List.set_cons_succ]
  refine wpAnyH_take (i := 1) (v := .agg #[.slice ad N cap]) rfl (by kernel_rfl) (by kernel_rfl) (by kernel_rfl) (fun _ _ _ h => h) (Or.inl ⟨by rfl, fun w' hSw => ?_⟩) (by assumption) ?_
  · (try dsimp only at hSw); have z0 := keepc hSw fx0; have z1 := keepc hSw fy0; go_simp
  try simp only [Act.put, List.getElem_toArray, List.getElem_cons_zero, List.getElem_cons_succ, List.setIfInBounds_toArray, List.set_cons_zero, List.set_cons_succ]
  refine wpAnyH_ready (rs := [2]) (by kernel_rfl) (by simp) ?_
  refine AllReadyH.cons rfl (fun K hK => ?_) AllReadyH.nil
  go_simp
  refine (hto _ (HV.out.below (hB6.trans (hHeld.mono hB6.size)))).mono ?_
  rintro e wc2 ⟨g7, rfl, oa7, _, hbc⟩
  refine hK.out _ _ (hHeld.trans (hbc.mono hHeld.size)) (fun hHeld => ?_)
  clear hK K hbc
  try simp only [Act.put, List.getElem_toArray, List.getElem_cons_zero, List.getElem_cons_succ, List.setIfInBounds_toArray, List.set_cons_zero, List.set_cons_succ]
  refine wpAnyH_ready (rs := [3]) (by kernel_rfl) (by simp) ?_
  refine AllReadyH.cons rfl (fun K hK => ?_) AllReadyH.nil
  go_simp
  refine (eqLitmus_same _ _ N L F _ (s6.below hHeld) oa7.ss hn hl).mono ?_
  rintro e wc3 ⟨rfl, hbc⟩
  refine hK.out _ _ (hHeld.trans (hbc.mono hHeld.size)) (fun hHeld => ?_)
  clear hK K hbc
  try simp only [Act.put, List.getElem_toArray, List.getElem_cons_zero, List.getElem_cons_succ, List.setIfInBounds_toArray, List.set_cons_zero, List.set_cons_succ]
  refine wpAnyH_take (i := 4) (v := .bool false) rfl (by kernel_rfl) (by kernel_rfl) (by kernel_rfl) (fun _ _ _ h => h) (Or.inl ⟨by rfl, fun w' hSw => ?_⟩) (by assumption) ?_
  · (try dsimp only at hSw); go_simp
  try simp only [Act.put, List.getElem_toArray, List.getElem_cons_zero, List.getElem_cons_succ, List.setIfInBounds_toArray, List.set_cons_zero, List.set_cons_succ]
  refine wpAnyH_done (by kernel_rfl) ?_ _
  have HB := hide (hB6.trans (hHeld.mono hB6.size))
  clear hHeld hB6 fx0 fy0
  go_wp2
  go_ret
  exact ⟨rfl, HB.out⟩

theorem pow_datum : (Rows.laid_internal_strconv_uint64pow10 : DataW Unit) = Lib.tabData .u64 Lib.pow10Tab := by rfl

/-- what the condition gives the walk -/
theorem of_laid {W : World} (h : laidMetH Tryd.prog Rows.fnExactLitmusTextRow.laid W) : Pow W := by
  have h0 : laidMetH Tryd.prog [("math/bits.deBruijn32tab", Rows.laid_math_bits_deBruijn32tab), ("math/bits.deBruijn64tab", Rows.laid_math_bits_deBruijn64tab), ("internal/strconv.uint64pow10", Rows.laid_internal_strconv_uint64pow10)] W := h
  rw [MakeChecks.laidMetH_plain _ _ _ (by kernel_rfl)] at h0
  have h2 := h0.tail.tail
  rw [pow_datum] at h2
  exact Lib.tabIs_of_head gPow (by kernel_rfl) Tryd.underlying152 Tryd.underlying144 (by kernel_rfl) (by kernel_rfl) h2

/-- the door's own heap meets the condition -/
theorem door_met (os : Os) (args : Array Value) : laidMetH Tryd.prog Rows.fnExactLitmusTextRow.laid ((World.doorLaid Tryd.prog 400 os).forCall (fun _ _ => 0) ⟨#[], args, []⟩).memory :=
  laidMetH_of_parts3 (fuel := 8) (laidMet_of_run' 8 (by kernel_rfl) (by kernel_rfl)) (by kernel_rfl) (by kernel_rfl)

set_option maxRecDepth 100000 in
theorem lifted (os : Os) (started : os.Started) (H : Type) (enc : TypeId × Value → H) :
    ReturnsInHanded {} Tryd.checked os 3 .any (fun w args => (Rows.fnExactLitmusTextSpec.pre enc Tryd.prog Tryd.f3 [] false w args ∧ laidMetH Tryd.prog Rows.fnExactLitmusTextRow.laid w) ∧ sizedMet enc Tryd.prog Tryd.f3 (OpenSpec.ofChange Rows.fnExactLitmusTextSpec) false w args)
      (Rows.fnExactLitmusTextSpec.post enc Tryd.prog Tryd.f3 false true false false) := by
  refine returnsInHanded_of_change_and (C := Tryd.checked) (X := fun w _ => laidMetH Tryd.prog Rows.fnExactLitmusTextRow.laid w) (fun _ _ _ hh h => h.of_heap hh) own started (by kernel_rfl) Tryd.func3
    (ChangeSpec.witness_shaped (enc := enc) (C := Tryd.checked) (os := os) (X := fun w _ => laidMetH Tryd.prog Rows.fnExactLitmusTextRow.laid w) false (World.doorLaid Tryd.prog 400 os) #[.agg #[.slice none 0 0]] 8 rfl (World.shaped_of_RefB (by kernel_rfl) (by kernel_rfl)) (by kernel_rfl) (by kernel_rfl) (by kernel_rfl) (door_met os _)) ?_
  intro W base args ds gs before hval0 hW _ _ hL _
  have hval : ∀ (j : Nat) t v, Tryd.f3.params[j]? = some t → args[j]? = some v → Value.okWide Tryd.prog W .any base t v := hval0
  have hW' := hW
  obtain ⟨p, q, hA0, hV, rfl, hfz, hnd⟩ := hW
  have hA : DataW.TrodAll enc Tryd.prog W 0 (fun _ => true) true Tryd.f3.params.toList args.toList ds p := hA0
  rw [Tryd.params3] at hA hval
  obtain ⟨v0, vs0, d0, ds0, p0, q0, hargs, rfl, rfl, h0, r0⟩ := trodAll_cons hA
  obtain ⟨rfl, rfl, rfl⟩ := trodAll_nil r0
  obtain rfl : args = #[v0] := by cases args; simp_all
  obtain ⟨rfl, rfl⟩ := trodVars_none hV
  have k0 := h0
  have lt0 : ∀ x ∈ p0, x.block < W.heap.size := by obtain ⟨m, hm⟩ := k0; exact DataW.trod_lt m _ _ _ hm
  obtain ⟨u0, n0, L0, F0, rfl, hc0, hn0, hl0⟩ := open_litmus (hval 0 24 v0 rfl rfl) h0
  clear hA0 hval0
  refine (walk u0 n0 L0 F0 W hc0 (by unfold maxLen at hn0; omega) (fun c hc => by have := hl0 c hc; unfold maxLen at this; omega) (of_laid hL)).mono fun e W' ⟨he, bel⟩ => ?_
  subst he
  exact ⟨_, rfl, _, _, _, [], _, [], hW', trodAll_mk1 (shut_bool Tryd.underlying4 _), (trodAll_cons_mk (Below.trod laidOut (by kernel_rfl) (of_decide_eq_true (by kernel_rfl)) k0 bel lt0) trodAll_mk0), rfl, bel.frame _, fun h => by cases h⟩

theorem row_holds : Rows.FnExactLitmusTextSaid :=
  OpenClaim.holds_of_wide 3 Tryd.f3 rfl rfl rfl rfl rfl rfl rfl ⟨rfl, rfl, rfl, rfl, rfl⟩ rfl rfl rfl rfl rfl (by kernel_rfl) Tryd.func3 (by kernel_rfl)
    (of_decide_eq_true (by kernel_rfl)) (by unfold Func.isWrapper; first | (rw [if_pos (by decide +kernel)]; kernel_rfl) | (rw [if_neg (by decide +kernel)]; exact ⟨rfl, rfl⟩))
    (fun os started H enc _ => lifted os started H enc)
end Go.Proofs.YtfnnjgbodlngdaaDoor.fnExactLitmusText

namespace Go.Proofs.YtfnnjgbodlngdaaDoor
theorem fnExactLitmusText_holds : Rows.FnExactLitmusTextCardSaid :=
  Claim7.holds_tied_plain_at .later [] [.data, .data, .data] true Rows.fnExactLitmusTextCard.stood.harness false
    fnExactLitmusText.row_holds (fun _ h => by cases h) (by kernel_rfl) (fun _ h => by cases h) fnExactLitmusText_row_tie rfl ⟨rfl, rfl⟩ (by kernel_rfl) rfl
    (fun f fn hf hfn => by
      obtain rfl : f = 3 := Option.some.inj ((show Tryd.prog.funcNamed "loop.example/g00384/laws.FnExactLitmusText" = some 3 by kernel_rfl).symm.trans hf) |>.symm
      obtain rfl : fn = Tryd.f3 := (Option.some.inj (Tryd.func3.symm.trans hfn)).symm
      exact ⟨by kernel_rfl, fun j t ht => by
        rw [Tryd.params3] at ht
        have hm : t ∈ [24] := by simpa using Array.mem_of_getElem? ht
        have hall : ([24].all fun u => !Tryd.prog.wantsStandIn u) = true := by kernel_rfl
        exact (show Tryd.prog.wantsStandIn t = false by simpa using List.all_eq_true.1 hall t hm)⟩)
    (by kernel_rfl)
end Go.Proofs.YtfnnjgbodlngdaaDoor
