/- Proved: for every slice of int64, of whatever length, and every int64, laws.FnExactWithId returns true and leaves its arguments as they read. No condition. -/
import Derived.Test.YtdincbjhhicgoalRows
import Derived.Test.YtdincbjhhicgoalJ
import Derived.WalkKit
import Derived.ProofKit
import Derived.OpenShut
import Derived.ShutString
import Derived.ChangeOld
import Derived.Below
namespace Go.Proofs.Ytdincbjhhicgoal.fnExactWithId
open Go.ChangeShapes Go.WideShapes Go.ChangeAt Go.RowKit
open Go.ChangeMaps (open_string shut_string)
set_option linter.unusedVariables false

theorem own : ownKnob Try.prog.godebug = none := by kernel_rfl
theorem laidOut : laidOutB Try.prog = true := by kernel_rfl

/-- WHAT THE WALK IS TOLD OF A SLICE OF INTEGERS THAT CAME IN: it is nil; or it leads to a row of 'cap' cells, the numbers 'zs' (the first 'len' are its elements, the rest its spare room), each fitting its kind. -/
def IsRow (k : IntKind) (w : World) (a : Option Addr) (len cap : Nat) (zs : List Int) : Prop :=
  (a = none ∧ len = 0 ∧ cap = 0 ∧ zs = []) ∨
  ∃ x, a = some x ∧ len ≤ cap ∧ cap ≤ maxLen ∧ zs.length = cap ∧ (∀ i, i < zs.length → w.cell? (x.add i) = some (.int k (zs.getD i 0))) ∧ ∀ n ∈ zs, (Lit.int k n).wf = true

theorem row_sl {w : World} {a : Option Addr} {len cap : Nat} {z : List Int} (h : IsRow .i64 w a len cap z) : ∃ zs : List Int, zs.length = len ∧ Sl w (.slice a len cap) zs := by
  rcases h with ⟨rfl, rfl, rfl, rfl⟩ | ⟨x, rfl, hl, hm, hz, hcell, _⟩
  · exact ⟨[], rfl, none, 0, rfl, fun h => absurd h (by simp)⟩
  · obtain ⟨h1, h2⟩ := sl_of_row (len := len) (cap := cap) (by omega) hcell
    exact ⟨_, h1, h2⟩

/-! ### STEP 1: THE WALK: the Go text returns true, AND WRITES NOTHING THAT WAS THERE: 'Below w.heap.size w w'' (Derived/Below.lean: '.refl', '.alloc', '.drew', '.setCell' at a new block, '.trans'). Open each 'IsRow' by 'rcases' AHEAD of 'go_enter'; part every test ahead of the walk. -/
set_option maxHeartbeats 1000000 in
theorem walk (a0 : Option Addr) (len0 cap0 : Nat) (z0 : List Int) (a1 : Int) (w : World) (w0 : IsRow .i64 w a0 len0 cap0 z0) (w1 : (Lit.int .i64 a1).wf = true) :
    Calls Try.prog 4 #[.slice a0 len0 cap0, .int .i64 a1] w fun e w' => e = .returned (.bool true) ∧ Below w.heap.size w w' := by
  obtain ⟨zs, hlen, hs⟩ : ∃ zs : List Int, zs.length = len0 ∧ Sl w (.slice a0 len0 cap0) zs := row_sl w0
  clear w0 w1
  by_cases hbig : (1048576 : Int) < (len0 : Int)
  · go_enter Try.func4, Try.ntmps4
    go_wp2
    go_ret
    exact ⟨rfl, Below.refl _ _⟩
  · have hb : zs.length ≤ 1048576 := by omega
    have hR : (wRes zs a1).length ≤ 1048576 := Nat.le_trans (wRes_le zs a1) (by decide)
    have HL := hide hlen
    clear hlen
    have hk0 : decide ((1 : Int) + (zs.length : Int) < 0) = false := by simp; omega
    have hk1 : decide ((1 : Int) + ((wRes zs a1).length : Int) < 0) = false := by simp; omega
    go_enter Try.func4, Try.ntmps4
    go_wp2_with fail
    refine (copy_any _ zs _ hs hb).mono ?_
    rintro e v1 ⟨u1, rfl, ho1, hb1, _, hu⟩
    clear hu
    go_wp2_with fail
    refine (specWith_any u1 zs a1 _ ho1.sl hb).mono ?_
    rintro e v2 ⟨p, rfl, hp, hb2⟩
    go_wp2_with fail
    refine (copy_any _ zs _ ((hs.below hb1).below hb2) hb).mono ?_
    rintro e v3 ⟨x, rfl, hx, hb3, _, hu⟩
    clear hu
    go_wp2_with fail
    refine (implWith_any x zs a1 _ hx.sl hb).mono ?_
    rintro e v4 ⟨g, rfl, hg, hb4⟩
    have st := St.start hb1 hp hb2 hx hb3 hg hb4
    clear hb1 hp hb2 hx hb3 hg hb4 ho1
    go_wp2_with fail
    refine (eq_same g p (wRes zs a1) _ st.og.sl st.op.sl hR).mono ?_
    rintro e v5 ⟨rfl, hb5⟩
    replace st := st.step hb5
    clear hb5
    go_wp2_with fail
    refine (copy_any _ zs _ (hs.below st.t) hb).mono ?_
    rintro e v6 ⟨t, rfl, ht, hb6, _, hu⟩
    clear hu
    replace st := st.step hb6
    clear hb6
    go_wp2_with fail
    refine (eq_same x t zs _ st.ox.sl ht.sl hb).mono ?_
    rintro e v7 ⟨rfl, hb7⟩
    replace st := st.step hb7
    clear hb7 ht
    go_wp2_with fail
    refine (mark_any x zs _ 1 _ (by decide) (by decide) st.ox hb).mono ?_
    rintro e v8 ⟨rfl, hx8, hg8⟩
    replace st := st.markX hx8 hg8
    clear hx8 hg8
    go_wp2_with fail
    refine (eq_same g p (wRes zs a1) _ st.og.sl st.op.sl hR).mono ?_
    rintro e v9 ⟨rfl, hb9⟩
    replace st := st.step hb9
    clear hb9
    go_wp2_with fail
    refine (mark_any g (wRes zs a1) _ 1 _ (by decide) (by decide) st.og hR).mono ?_
    rintro e v10 ⟨rfl, hx10, hg10⟩
    replace st := st.markG hx10 hg10
    clear hx10 hg10
    go_wp2_with fail
    refine (held_any g (wRes zs a1).length 1 _ (by decide) (by decide) st.og.sl hR).mono ?_
    rintro e v11 ⟨rfl, rfl⟩
    go_wp2_with fail
    refine (copy_any _ zs _ (hs.below st.t) hb).mono ?_
    rintro e v12 ⟨y, rfl, hy, hb12, _, hu⟩
    clear hu
    replace st := st.step hb12
    clear hb12
    go_wp2_with fail
    refine (implWith_any y zs a1 _ hy.sl hb).mono ?_
    rintro e v13 ⟨q, rfl, hq, hb13⟩
    replace st := st.step hb13
    clear hb13 hy
    go_wp2_with fail
    refine (eq_same q p (wRes zs a1) _ hq.sl st.op.sl hR).mono ?_
    rintro e v14 ⟨rfl, hb14⟩
    replace st := st.step hb14
    clear hb14 hq
    go_wp2_with fail
    refine (held_any g (wRes zs a1).length 1 _ (by decide) (by decide) st.og.sl hR).mono ?_
    rintro e v15 ⟨rfl, rfl⟩
    go_wp2
    go_ret
    exact ⟨rfl, st.t⟩

/-! ### THE ROW's STEP: WRITTEN OUT: LEAVE IT -/
set_option maxRecDepth 100000 in
theorem lifted (os : Os) (started : os.Started) (H : Type) (enc : TypeId × Value → H) :
    ReturnsInHanded {} Try.checked os 4 .any (Rows.fnExactWithIdSpec.pre6 enc Try.prog Try.f4 Rows.fnExactWithIdRow.domain false) (Rows.fnExactWithIdSpec.post enc Try.prog Try.f4 false true false false) := by
  refine returnsInHanded_of_change (C := Try.checked) own started (by kernel_rfl) Try.func4
    (ChangeSpec.witness6 (enc := enc) (C := Try.checked) false ⟨#[], #[.slice none 0 0, .int .i64 0], []⟩ 8 (by kernel_rfl) (by kernel_rfl) (by kernel_rfl) (by kernel_rfl)) ?_
  intro W base args ds gs before hval0 hW hcnd _
  have hval : ∀ (j : Nat) t v, Try.f4.params[j]? = some t → args[j]? = some v → Value.okWide Try.prog W .any base t v := hval0
  have hW' := hW
  obtain ⟨p, q, hA0, hV, rfl, hfz, hnd⟩ := hW
  have hA : DataW.TrodAll enc Try.prog W 0 (fun _ => true) true Try.f4.params.toList args.toList ds p := hA0
  rw [Try.params4] at hA hval
  obtain ⟨v0, vs0, d0, ds0, p0, q0, hargs, rfl, rfl, h0, r0⟩ := trodAll_cons hA
  obtain ⟨v1, vs1, d1, ds1, p1, q1, rfl, rfl, rfl, h1, r1⟩ := trodAll_cons r0
  obtain ⟨rfl, rfl, rfl⟩ := trodAll_nil r1
  obtain rfl : args = #[v0, v1] := by cases args; simp_all
  obtain ⟨rfl, rfl⟩ := trodVars_none hV
  obtain ⟨a0, len0, cap0, rfl⟩ := okWide_slice Try.underlying22 (hval 0 22 v0 rfl rfl)
  have k0 := h0
  have lt0 : ∀ x ∈ p0, x.block < W.heap.size := by obtain ⟨m, hm⟩ := k0; exact DataW.trod_lt m _ _ _ hm
  obtain ⟨z0, w0⟩ : ∃ zs, IsRow .i64 W a0 len0 cap0 zs := by
    obtain ⟨fuel, hf⟩ := h0
    rcases open_ints Try.underlying22 Try.underlying2 (by kernel_rfl) hf with ⟨hcs, _⟩ | ⟨x, l, c, zs, hcs, _, hl, hm, hz, _, hcell, hwz⟩
    · simp [Value.cells] at hcs
      obtain ⟨rfl, rfl, rfl⟩ := hcs
      exact ⟨[], .inl ⟨rfl, rfl, rfl, rfl⟩⟩
    · simp [Value.cells] at hcs
      obtain ⟨rfl, rfl, rfl⟩ := hcs
      exact ⟨zs, .inr ⟨_, rfl, hl, hm, by simpa using hz, hcell, hwz⟩⟩
  obtain ⟨a1, rfl, rfl, rfl, w1⟩ := open_int Try.underlying2 (hval 1 2 v1 rfl rfl) h1
  clear hA0 hval0
  refine (walk a0 len0 cap0 z0 a1 W w0 w1).mono fun e W' ⟨he, bel⟩ => ?_
  subst he
  exact ⟨_, rfl, _, _, _, [], _, [], hW', trodAll_mk1 (shut_bool Try.underlying4 _), (trodAll_cons_mk (Below.trod laidOut (by kernel_rfl) (of_decide_eq_true (by kernel_rfl)) k0 bel lt0) (trodAll_cons_mk (shut_int Try.underlying2 w1) trodAll_mk0)), rfl, bel.frame _, fun h => by cases h⟩

theorem over : Rows.fnExactWithIdRow.holds Try.pinned (OpenSpec.ofChange Rows.fnExactWithIdSpec) :=
  OpenClaim.holds_of_wide 4 Try.f4 rfl rfl rfl rfl rfl rfl rfl ⟨rfl, rfl, rfl, rfl, rfl⟩ rfl rfl rfl rfl rfl (by kernel_rfl) Try.func4 (by kernel_rfl)
    (of_decide_eq_true (by kernel_rfl)) (by unfold Func.isWrapper; first | (rw [if_pos (by decide +kernel)]; kernel_rfl) | (rw [if_neg (by decide +kernel)]; exact ⟨rfl, rfl⟩))
    (fun os started H enc _ => lifted os started H enc)

theorem proved : Rows.FnExactWithIdSaid := over
end Go.Proofs.Ytdincbjhhicgoal.fnExactWithId

namespace Go.Proofs.Ytdincbjhhicgoal
theorem fnExactWithId_holds : Rows.FnExactWithIdSaid := fnExactWithId.proved
end Go.Proofs.Ytdincbjhhicgoal
