/- Proved: for every flit laws.FnExactFlitText returns true. No condition. -/
import Derived.Test.YtbinjcmfbkhbjacRows
import Derived.Test.YtbinjcmfbkhbjacFlC
import Derived.WalkKit
import Derived.ProofKit
import Derived.OpenShut
import Derived.ShutString
import Derived.ChangeOld
import Derived.Below
import Derived.OpenVars
namespace Go.Proofs.Ytbinjcmfbkhbjac.fnExactFlitText
open Go.ChangeShapes Go.WideShapes Go.ChangeAt Go.WideMaps Go.WideElems Go.RowKit
set_option linter.unusedVariables false
set_option linter.unusedSimpArgs false

theorem own : ownKnob Try.prog.godebug = none := by kernel_rfl
theorem laidOut : laidOutB Try.prog = true := by kernel_rfl

set_option maxRecDepth 100000 in
/-- a flit, opened -/
theorem open_flit {W : World} {H : Type} {enc : TypeId × Value → H} {base b0 : Nat} {spare : Nat → Bool} {held : Bool} {r : Reach} {v : Value} {d : DataW H} {p : List MemPlace} (hv : Value.okWide Try.prog W r b0 25 v) (h : DataW.Trod enc Try.prog W base spare held 25 v d p) :
    ∃ (k0 k1 : Int) (s : ByteArray), v = .agg #[.int .i64 k0, .int .i64 k1, .string s] ∧ s.size ≤ maxLen := by
  obtain ⟨cs, rfl, hsz⟩ := okWide_struct Try.underlying25 hv
  obtain ⟨fuel, hf⟩ := h
  obtain ⟨xs, n, _, _, hl, hlen, hg⟩ := DataW.trod_struct Try.underlying25 hf
  have c6 : Try.prog.cellsOf 25 = 3 := by kernel_rfl
  have c1 : Try.prog.cellsOf 2 = 1 := by kernel_rfl
  have c2 : Try.prog.cellsOf 9 = 1 := by kernel_rfl
  rw [c6] at hsz
  obtain ⟨l⟩ := cs
  match l, hsz with
  | [a0, a1, a2], _ =>
    match xs, hlen with
    | [x0, x1, x2], _ =>
      have g0 : DataW.trod enc Try.prog W base spare held n 2 (List.take (Try.prog.cellsOf 2) (List.drop 0 [a0, a1, a2])) = some x0 := hg 0 _ rfl
      have g1 : DataW.trod enc Try.prog W base spare held n 2 (List.take (Try.prog.cellsOf 2) (List.drop 1 [a0, a1, a2])) = some x1 := hg 1 _ rfl
      have g2 : DataW.trod enc Try.prog W base spare held n 9 (List.take (Try.prog.cellsOf 9) (List.drop 2 [a0, a1, a2])) = some x2 := hg 2 _ rfl
      rw [c1] at g0 g1
      rw [c2] at g2
      obtain ⟨k0, e0, _⟩ := DataW.trod_int Try.underlying2 g0
      obtain ⟨k1, e1, _⟩ := DataW.trod_int Try.underlying2 g1
      obtain ⟨s, e2, _, hs⟩ := DataW.trod_string Try.underlying9 g2
      simp at e0 e1 e2
      subst e0 e1 e2
      exact ⟨k0, k1, s, rfl, hs⟩

theorem keep3 {B : Nat} {w w1 w2 : World} (h : Below B w w1) (hB : B ≤ w1.heap.size) (hb : Below w1.heap.size w1 w2) : Below B w w2 := h.trans (hb.mono hB)
/-- the argument's block -/
def Arg (w0 w : World) (k s : Int) (b : ByteArray) : Prop := Below w0.heap.size w0 w ∧ w0.heap.size < w.heap.size ∧ w.cell? ⟨w0.heap.size, 0, none⟩ = some (.int .i64 k) ∧ w.cell? ⟨w0.heap.size, 1, none⟩ = some (.int .i64 s) ∧ w.cell? ⟨w0.heap.size, 2, none⟩ = some (.string b)
theorem arg_start (w : World) (k s : Int) (b : ByteArray) : Arg w (w.alloc (.cells #[.int .i64 k, .int .i64 s, .string b] 25)) k s b :=
  ⟨(Below.refl _ _).alloc (Nat.le_refl _) _, by simp, by simp, by simp, by simp⟩
theorem arg_next {w0 w w' : World} {k s : Int} {b : ByteArray} (h : Arg w0 w k s b) (hb : Below w.heap.size w w') : Arg w0 w' k s b :=
  ⟨h.1.trans (hb.mono h.1.size), Nat.lt_of_lt_of_le h.2.1 hb.size, Below.keep hb _ _ h.2.2.1, Below.keep hb _ _ h.2.2.2.1, Below.keep hb _ _ h.2.2.2.2⟩

set_option maxHeartbeats 2000000 in
theorem walk (a0 b0 : Int) (c0 : ByteArray) (w : World) (hc : c0.size ≤ maxLen) : Calls Try.prog 5 #[.agg #[.int .i64 a0, .int .i64 b0, .string c0]] w fun e w' => e = .returned (.bool true) ∧ Below w.heap.size w w' := by
  have ha := arg_start w a0 b0 c0
  have hsz := fun w => szFlit_any a0 b0 c0 w (by unfold maxLen at hc; omega)
  clear hc
  go_enter Try.func5, Try.ntmps5
  go_wp2_with fail
  refine (hsz _).mono ?_
  rintro e w1 ⟨rfl, hb1⟩
  have h1 := arg_next ha hb1
  clear ha hb1 hsz
  by_cases hbig : 1048576 < (c0.size : Int)
  · rw [if_pos hbig]
    go_wp2
    go_ret
    exact ⟨rfl, h1.1⟩
  · rw [if_neg hbig]
    obtain ⟨_, _, c1, c2, c3⟩ := id h1
    go_wp2_with fail
    refine (toFlit_any a0 b0 c0 _).mono ?_
    rintro e w2 ⟨rfl, hb2⟩
    have h2 := arg_next h1 hb2
    clear h1 hb2 c1 c2 c3
    go_wp2_with fail
    refine (specText_any a0 b0 c0 _).mono ?_
    rintro e w3 ⟨rfl, hb3⟩
    have h3 := arg_next h2 hb3
    clear h2 hb3
    obtain ⟨_, _, c1, c2, c3⟩ := id h3
    go_wp2_with fail
    refine (toFlit_any a0 b0 c0 _).mono ?_
    rintro e w4 ⟨rfl, hb4⟩
    have h4 := arg_next h3 hb4
    clear h3 hb4 c1 c2 c3
    go_wp2_with fail
    refine (implText_any a0 b0 c0 _).mono ?_
    rintro e w5 ⟨rfl, hb5⟩
    have h5 := arg_next h4 hb5
    clear h4 hb5
    generalize Flit.txt a0 b0 c0 = r
    go_wp2
    go_ret
    exact ⟨rfl, h5.1⟩

set_option maxRecDepth 100000 in
theorem lifted (os : Os) (started : os.Started) (H : Type) (enc : TypeId × Value → H) :
    ReturnsInHanded {} Try.checked os 5 .any (Rows.fnExactFlitTextSpec.pre6 enc Try.prog Try.f5 Rows.fnExactFlitTextRow.domain false) (Rows.fnExactFlitTextSpec.post enc Try.prog Try.f5 false true false false) := by
  refine returnsInHanded_of_change (C := Try.checked) own started (by kernel_rfl) Try.func5
    (ChangeSpec.witness6 (enc := enc) (C := Try.checked) false ⟨#[], #[.agg #[.int .i64 0, .int .i64 0, .string ⟨#[]⟩]], []⟩ 8 (by kernel_rfl) (by kernel_rfl) (by kernel_rfl) (by kernel_rfl)) ?_
  intro W base args ds gs before hval0 hW hcnd _
  have hval : ∀ (j : Nat) t v, Try.f5.params[j]? = some t → args[j]? = some v → Value.okWide Try.prog W .any base t v := hval0
  have hW' := hW
  obtain ⟨p, q, hA0, hV, rfl, hfz, hnd⟩ := hW
  have hA : DataW.TrodAll enc Try.prog W 0 (fun _ => true) true Try.f5.params.toList args.toList ds p := hA0
  rw [Try.params5] at hA hval
  obtain ⟨v0, vs0, d0, ds0, p0, q0, hargs, rfl, rfl, h0, r0⟩ := trodAll_cons hA
  obtain ⟨rfl, rfl, rfl⟩ := trodAll_nil r0
  obtain rfl : args = #[v0] := by cases args; simp_all
  obtain ⟨rfl, rfl⟩ := trodVars_none hV
  have k0 := h0
  have lt0 : ∀ x ∈ p0, x.block < W.heap.size := by obtain ⟨m, hm⟩ := k0; exact DataW.trod_lt m _ _ _ hm
  obtain ⟨a0, b0, c0, rfl, hs0⟩ := open_flit (hval 0 25 v0 rfl rfl) h0
  clear hA0 hval0
  refine (walk a0 b0 c0 W hs0).mono fun e W' ⟨he, bel⟩ => ?_
  subst he
  exact ⟨_, rfl, _, _, _, [], _, [], hW', trodAll_mk1 (shut_bool Try.underlying4 _), (trodAll_cons_mk (Below.trod laidOut (by kernel_rfl) (of_decide_eq_true (by kernel_rfl)) k0 bel lt0) trodAll_mk0), rfl, bel.frame _, fun h => by cases h⟩

theorem over : Rows.fnExactFlitTextRow.holds Try.pinned (OpenSpec.ofChange Rows.fnExactFlitTextSpec) :=
  OpenClaim.holds_of_wide 5 Try.f5 rfl rfl rfl rfl rfl rfl rfl ⟨rfl, rfl, rfl, rfl, rfl⟩ rfl rfl rfl rfl rfl (by kernel_rfl) Try.func5 (by kernel_rfl)
    (of_decide_eq_true (by kernel_rfl)) (by unfold Func.isWrapper; first | (rw [if_pos (by decide +kernel)]; kernel_rfl) | (rw [if_neg (by decide +kernel)]; exact ⟨rfl, rfl⟩))
    (fun os started H enc _ => lifted os started H enc)

theorem proved : Rows.FnExactFlitTextSaid := over
end Go.Proofs.Ytbinjcmfbkhbjac.fnExactFlitText

namespace Go.Proofs.Ytbinjcmfbkhbjac
theorem fnExactFlitText_holds : Rows.FnExactFlitTextSaid := fnExactFlitText.proved
end Go.Proofs.Ytbinjcmfbkhbjac
