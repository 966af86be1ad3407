/- Proved: for every code, laws.FnTsoNew returns true. No condition. -/
import Derived.Test.YtnodnclpeldpdaaRows
import Derived.Test.YtnodnclpeldpdaaTpD
import Derived.WalkKit
import Derived.ProofKit
import Derived.OpenShut
import Derived.ShutString
import Derived.ChangeOld
import Derived.Below
import Derived.OpenVars
namespace Go.Proofs.Ytnodnclpeldpdaa.fnTsoNew
open Go.ChangeShapes Go.WideShapes Go.ChangeAt Go.WideMaps Go.WideElems Go.RowKit
set_option linter.unusedVariables false
set_option linter.unusedSimpArgs false

theorem own : ownKnob Try.prog.godebug = none := by kernel_rfl
theorem laidOut : laidOutB Try.prog = true := by kernel_rfl

def IsRow (k : IntKind) (w : World) (a : Option Addr) (len cap : Nat) (zs : List Int) : Prop :=
  (a = none ∧ len = 0 ∧ cap = 0 ∧ zs = []) ∨
  ∃ x, a = some x ∧ len ≤ cap ∧ cap ≤ maxLen ∧ zs.length = cap ∧ (∀ i, i < zs.length → w.cell? (x.add i) = some (.int k (zs.getD i 0))) ∧ ∀ n ∈ zs, (Lit.int k n).wf = true

theorem row_bt {w : World} {a : Option Addr} {len cap : Nat} {z : List Int} (h : IsRow .u8 w a len cap z) : Bt w a len := by
  intro h0
  rcases h with ⟨rfl, rfl, rfl, rfl⟩ | ⟨x, rfl, hl, hm, hz, hcell, hwf⟩
  · exact absurd h0 (by simp)
  · obtain ⟨b, off, spot⟩ := x
    have hc := hcell 0 (by omega)
    have hspot : spot = none := by simpa [Addr.add] using World.cell?_spot hc
    subst hspot
    refine ⟨b, off, rfl, fun j hj => ?_⟩
    have hcj := hcell j (by omega)
    rw [addr_add] at hcj
    have hj' : j < z.length := by omega
    have e : z.getD j 0 = z[j] := by simp [hj']
    have hw := bounds_u8 (hwf z[j] (List.getElem_mem hj'))
    exact ⟨z.getD j 0, by rw [e]; exact hw.1, by rw [e]; exact hw.2, hcj⟩

set_option maxHeartbeats 8000000 in
set_option maxRecDepth 20000 in
theorem walk (a0 : Option Addr) (len0 cap0 : Nat) (w : World) (hs : Bt w a0 len0) :
    Calls Try.prog 8 #[.slice a0 len0 cap0] w fun e w' => e = .returned (.bool true) ∧ Below w.heap.size w w' := by
  by_cases hbig : (1048576 : Int) < (len0 : Int)
  · go_enter Try.func8, Try.ntmps8
    go_wp2
    go_ret
    exact ⟨rfl, Below.refl _ _⟩
  have hb : len0 ≤ 1048576 := by omega
  go_enter Try.func8, Try.ntmps8
  go_wp2_with (first | (go_at_call 34; go_in) | fail)
  refine (drawTsoNew_any a0 len0 cap0 _ hs hb).mono ?_
  rintro e w1 ⟨k, rfl, hb1⟩
  clear hs
  by_cases hk : 1 ≤ k ∧ k ≤ 3
  · obtain ⟨C, rfl⟩ : ∃ C : Nat, k = C := ⟨k.toNat, by omega⟩
    have hI := fun W => implNewT_yes C (by omega) (by omega) W
    have hS := fun W => specNewT_yes C (by omega) (by omega) W
    have HTL := hide (zz_tl (zs := [0, 0, 0]) (C := C) (by decide) (by omega))
    have HOK := hide (nD_tok C (by omega) (by omega))
    go_wp2_with fail
    refine (hI _).mono ?_
    rintro e w2 ⟨m2, b2, r2, vr2, tag2, rfl, ta2, hb2⟩
    obtain ⟨xm2, ym2, xb2, yb2, xr2, yr2, rfl, rfl, rfl⟩ := Ta.three (n := 3) ta2 rfl
    have hA2 : Below w2.heap.size w2 (w2.alloc (.cells #[.slice xm2 3 ym2, .slice xb2 C yb2, .slice xr2 C yr2] 26)) := (Below.refl _ _).alloc (Nat.le_refl _) _
    have q2 : (w2.alloc (.cells #[.slice xm2 3 ym2, .slice xb2 C yb2, .slice xr2 C yr2] 26)).heap[w2.heap.size]? = some (.cells #[.slice xm2 3 ym2, .slice xb2 C yb2, .slice xr2 C yr2] 26 (0, 0)) := heap_alloc_new _ _
    have hc2 := hb2.trans (hA2.mono hb2.size)
    have HB2 := hide (hb1.trans (hc2.mono hb1.size))
    have T2 := hide (ta2.tv.below hA2)
    clear hb1 hb2 hA2 hc2 ta2
    go_wp2_with fail
    refine (hS _).mono ?_
    rintro e w3 ⟨m3, b3, r3, vr3, tag3, rfl, ta3, hb3⟩
    obtain ⟨xm3, ym3, xb3, yb3, xr3, yr3, rfl, rfl, rfl⟩ := Ta.three (n := 3) ta3 rfl
    have hA3 : Below w3.heap.size w3 (w3.alloc (.cells #[.slice xm3 3 ym3, .slice xb3 C yb3, .slice xr3 C yr3] 26)) := (Below.refl _ _).alloc (Nat.le_refl _) _
    have q3 : (w3.alloc (.cells #[.slice xm3 3 ym3, .slice xb3 C yb3, .slice xr3 C yr3] 26)).heap[w3.heap.size]? = some (.cells #[.slice xm3 3 ym3, .slice xb3 C yb3, .slice xr3 C yr3] 26 (0, 0)) := heap_alloc_new _ _
    have hc3 := hb3.trans (hA3.mono hb3.size)
    have q2b := heap_b q2 hc3
    have HB3 := hide (HB2.out.trans (hc3.mono HB2.out.size))
    have T2b := hide (T2.out.below hc3)
    have T3 := hide (ta3.tv.below hA3)
    clear hb3 hA3 hc3 ta3 q2 T2 HB2 hI hS
    obtain ⟨_, x0, x1, x2⟩ := row3_facts q2b
    obtain ⟨_, y0, y1, y2⟩ := row3_facts q3
    go_wp2_with fail
    refine (sameTso_same _ _ _ _ _ _ [0, 0, 0] C z0L z0F C z0Z _ T2b.out T3.out HTL.out).mono ?_
    rintro e w4 ⟨rfl, hb4⟩
    have q2c := heap_b q2b hb4
    have HB4 := hide (HB3.out.trans (hb4.mono HB3.out.size))
    have T2c := hide (T2b.out.below hb4)
    clear hb4 q2b q3 T2b T3 HB3 x0 x1 x2 y0 y1 y2
    obtain ⟨_, x0, x1, x2⟩ := row3_facts q2c
    go_wp2_with fail
    refine (implDrained_any _ _ _ nD C C _ T2c.out).mono ?_
    rintro e w5 (⟨q, _⟩ | ⟨_, m5, b5, r5, vb5, vr5, tag5, rfl, ta5, hb5⟩)
    · exact absurd (q.symm.trans HOK.out) (by decide)
    rw [nD_dal] at ta5
    obtain ⟨xm5, ym5, xb5, yb5, xr5, yr5, rfl, rfl, rfl⟩ := Ta.three (n := 3) ta5 rfl
    have hA5 : Below w5.heap.size w5 (w5.alloc (.cells #[.slice xm5 3 ym5, .slice xb5 C yb5, .slice xr5 C yr5] 26)) := (Below.refl _ _).alloc (Nat.le_refl _) _
    have q5 : (w5.alloc (.cells #[.slice xm5 3 ym5, .slice xb5 C yb5, .slice xr5 C yr5] 26)).heap[w5.heap.size]? = some (.cells #[.slice xm5 3 ym5, .slice xb5 C yb5, .slice xr5 C yr5] 26 (0, 0)) := heap_alloc_new _ _
    have hc5 := hb5.trans (hA5.mono hb5.size)
    have q2d := heap_b q2c hc5
    have HB5 := hide (HB4.out.trans (hc5.mono HB4.out.size))
    have T2d := hide (T2c.out.below hc5)
    have T5 := hide ((Ta.tv ta5).below hA5)
    clear hb5 hA5 hc5 ta5 q2c T2c HB4 x0 x1 x2
    obtain ⟨_, x0, x1, x2⟩ := row3_facts q2d
    have hok := fun W h => implTsoOk_any (.slice xm2 3 ym2) (.slice xb2 C yb2) (.slice xr2 C yr2) [0, 0, 0] C z0L z0F C z0Z W h
    rw [HOK.out] at hok
    go_wp2_with fail
    refine (hok _ T2d.out).mono ?_
    rintro e w6 ⟨rfl, hb6⟩
    have q2e := heap_b q2d hb6
    have q5e := heap_b q5 hb6
    have HB6 := hide (HB5.out.trans (hb6.mono HB5.out.size))
    have T2e := hide (T2d.out.below hb6)
    have T5e := hide (T5.out.below hb6)
    clear hb6 q2d q5 T2d T5 HB5 x0 x1 x2 hok
    obtain ⟨_, x0, x1, x2⟩ := row3_facts q2e
    obtain ⟨_, y0, y1, y2⟩ := row3_facts q5e
    go_wp2_with fail
    refine (sameTso_same _ _ _ _ _ _ [0, 0, 0] C z0L z0F C z0Z _ T5e.out T2e.out HTL.out).mono ?_
    rintro e w7 ⟨rfl, hb7⟩
    have q2f := heap_b q2e hb7
    have HB7 := hide (HB6.out.trans (hb7.mono HB6.out.size))
    have T2f := hide (T2e.out.below hb7)
    clear hb7 q2e q5e T2e T5e HB6 x0 x1 x2 y0 y1 y2
    obtain ⟨_, x0, x1, x2⟩ := row3_facts q2f
    go_wp2_with fail
    have hA7 : Below w7.heap.size w7 (w7.alloc (.cells #[.int .i64 0, .int .i64 0, .int .i64 0] 2)) := (Below.refl _ _).alloc (Nat.le_refl _) _
    refine (sameInts_same _ _ [0, 0, 0] _ (T2f.out.mem.below hA7) (lit3 w7 2) (by decide)).mono ?_
    rintro e w8 ⟨rfl, hb8⟩
    have hc8 := hA7.trans (hb8.mono hA7.size)
    have q2g := heap_b q2f hc8
    have HB8 := hide (HB7.out.trans (hc8.mono HB7.out.size))
    clear hb8 hA7 hc8 q2f T2f HB7 x0 x1 x2
    obtain ⟨_, x0, x1, x2⟩ := row3_facts q2g
    go_wp2
    go_ret
    exact ⟨rfl, HB8.out⟩
  · have hI := fun W => implNewT_no k hk W
    have hS := fun W => specNewT_no k hk W
    have HTL := hide (zz_tl (zs := []) (C := 0) (by decide) (by omega))
    go_wp2_with fail
    refine (hI _).mono ?_
    rintro e w2 ⟨m2, b2, r2, vr2, tag2, rfl, ta2, hb2⟩
    obtain ⟨xm2, ym2, xb2, yb2, xr2, yr2, rfl, rfl, rfl⟩ := Ta.three (n := 0) ta2 rfl
    have hA2 : Below w2.heap.size w2 (w2.alloc (.cells #[.slice xm2 0 ym2, .slice xb2 0 yb2, .slice xr2 0 yr2] 26)) := (Below.refl _ _).alloc (Nat.le_refl _) _
    have q2 : (w2.alloc (.cells #[.slice xm2 0 ym2, .slice xb2 0 yb2, .slice xr2 0 yr2] 26)).heap[w2.heap.size]? = some (.cells #[.slice xm2 0 ym2, .slice xb2 0 yb2, .slice xr2 0 yr2] 26 (0, 0)) := heap_alloc_new _ _
    have hc2 := hb2.trans (hA2.mono hb2.size)
    have HB2 := hide (hb1.trans (hc2.mono hb1.size))
    have T2 := hide (ta2.tv.below hA2)
    clear hb1 hb2 hA2 hc2 ta2
    go_wp2_with fail
    refine (hS _).mono ?_
    rintro e w3 ⟨m3, b3, r3, vr3, tag3, rfl, ta3, hb3⟩
    obtain ⟨xm3, ym3, xb3, yb3, xr3, yr3, rfl, rfl, rfl⟩ := Ta.three (n := 0) ta3 rfl
    have hA3 : Below w3.heap.size w3 (w3.alloc (.cells #[.slice xm3 0 ym3, .slice xb3 0 yb3, .slice xr3 0 yr3] 26)) := (Below.refl _ _).alloc (Nat.le_refl _) _
    have q3 : (w3.alloc (.cells #[.slice xm3 0 ym3, .slice xb3 0 yb3, .slice xr3 0 yr3] 26)).heap[w3.heap.size]? = some (.cells #[.slice xm3 0 ym3, .slice xb3 0 yb3, .slice xr3 0 yr3] 26 (0, 0)) := heap_alloc_new _ _
    have hc3 := hb3.trans (hA3.mono hb3.size)
    have q2b := heap_b q2 hc3
    have HB3 := hide (HB2.out.trans (hc3.mono HB2.out.size))
    have T2b := hide (T2.out.below hc3)
    have T3 := hide (ta3.tv.below hA3)
    clear hb3 hA3 hc3 ta3 q2 T2 HB2 hI hS
    obtain ⟨_, x0, x1, x2⟩ := row3_facts q2b
    obtain ⟨_, y0, y1, y2⟩ := row3_facts q3
    go_wp2_with fail
    refine (sameTso_same _ _ _ _ _ _ [] 0 z0L z0F 0 z0Z _ T2b.out T3.out HTL.out).mono ?_
    rintro e w4 ⟨rfl, hb4⟩
    have q2c := heap_b q2b hb4
    have q3c := heap_b q3 hb4
    have HB4 := hide (HB3.out.trans (hb4.mono HB3.out.size))
    have T2c := hide (T2b.out.below hb4)
    have T3c := hide (T3.out.below hb4)
    clear hb4 q2b q3 T2b T3 HB3 x0 x1 x2 y0 y1 y2
    obtain ⟨_, x0, x1, x2⟩ := row3_facts q2c
    obtain ⟨_, y0, y1, y2⟩ := row3_facts q3c
    go_wp2_with fail
    refine (sameTso_same _ _ _ _ _ _ [] 0 z0L z0F 0 z0Z _ T2c.out T3c.out HTL.out).mono ?_
    rintro e w5 ⟨rfl, hb5⟩
    have HB5 := hide (HB4.out.trans (hb5.mono HB4.out.size))
    clear hb5 HB4 q2c q3c T2c T3c x0 x1 x2 y0 y1 y2
    go_wp2
    go_ret
    exact ⟨rfl, HB5.out⟩

set_option maxRecDepth 100000 in
theorem lifted (os : Os) (started : os.Started) (H : Type) (enc : TypeId × Value → H) :
    ReturnsInHanded {} Try.checked os 8 .any (Rows.fnTsoNewSpec.pre6 enc Try.prog Try.f8 Rows.fnTsoNewRow.domain false) (Rows.fnTsoNewSpec.post enc Try.prog Try.f8 false true false false) := by
  refine returnsInHanded_of_change (C := Try.checked) own started (by kernel_rfl) Try.func8
    (ChangeSpec.witness6 (enc := enc) (C := Try.checked) false ⟨#[], #[.slice none 0 0], []⟩ 8 (by kernel_rfl) (by kernel_rfl) (by kernel_rfl) (by kernel_rfl)) ?_
  intro W base args ds gs before hval0 hW hcnd _
  have hval : ∀ (j : Nat) t v, Try.f8.params[j]? = some t → args[j]? = some v → Value.okWide Try.prog W .any base t v := hval0
  have hW' := hW
  obtain ⟨p, q, hA0, hV, rfl, hfz, hnd⟩ := hW
  have hA : DataW.TrodAll enc Try.prog W 0 (fun _ => true) true Try.f8.params.toList args.toList ds p := hA0
  rw [Try.params8] at hA hval
  obtain ⟨v0, vs0, d0, ds0, p0, q0, hargs, rfl, rfl, h0, r0⟩ := trodAll_cons hA
  obtain ⟨rfl, rfl, rfl⟩ := trodAll_nil r0
  obtain rfl : args = #[v0] := by cases args; simp_all
  obtain ⟨rfl, rfl⟩ := trodVars_none hV
  obtain ⟨a0, len0, cap0, rfl⟩ := okWide_slice Try.underlying60 (hval 0 60 v0 rfl rfl)
  have k0 := h0
  have lt0 : ∀ x ∈ p0, x.block < W.heap.size := by obtain ⟨m, hm⟩ := k0; exact DataW.trod_lt m _ _ _ hm
  obtain ⟨z0, w0⟩ : ∃ zs, IsRow .u8 W a0 len0 cap0 zs := by
    obtain ⟨fuel, hf⟩ := h0
    rcases open_ints Try.underlying60 Try.underlying5 (by kernel_rfl) hf with ⟨hcs, _⟩ | ⟨x, l, c, zs, hcs, _, hl, hm, hz, _, hcell, hwz⟩
    · simp [Value.cells] at hcs
      obtain ⟨rfl, rfl, rfl⟩ := hcs
      exact ⟨[], .inl ⟨rfl, rfl, rfl, rfl⟩⟩
    · simp [Value.cells] at hcs
      obtain ⟨rfl, rfl, rfl⟩ := hcs
      exact ⟨zs, .inr ⟨_, rfl, hl, hm, by simpa using hz, hcell, hwz⟩⟩
  clear hA0 hval0
  refine (walk a0 len0 cap0 W (row_bt w0)).mono fun e W' ⟨he, bel⟩ => ?_
  subst he
  exact ⟨_, rfl, _, _, _, [], _, [], hW', trodAll_mk1 (shut_bool Try.underlying4 _), (trodAll_cons_mk (Below.trod laidOut (by kernel_rfl) (of_decide_eq_true (by kernel_rfl)) k0 bel lt0) trodAll_mk0), rfl, bel.frame _, fun h => by cases h⟩

theorem over : Rows.fnTsoNewRow.holds Try.pinned (OpenSpec.ofChange Rows.fnTsoNewSpec) :=
  OpenClaim.holds_of_wide 8 Try.f8 rfl rfl rfl rfl rfl rfl rfl ⟨rfl, rfl, rfl, rfl, rfl⟩ rfl rfl rfl rfl rfl (by kernel_rfl) Try.func8 (by kernel_rfl)
    (of_decide_eq_true (by kernel_rfl)) (by unfold Func.isWrapper; first | (rw [if_pos (by decide +kernel)]; kernel_rfl) | (rw [if_neg (by decide +kernel)]; exact ⟨rfl, rfl⟩))
    (fun os started H enc _ => lifted os started H enc)

theorem proved : Rows.FnTsoNewSaid := over
end Go.Proofs.Ytnodnclpeldpdaa.fnTsoNew

namespace Go.Proofs.Ytnodnclpeldpdaa
theorem fnTsoNew_holds : Rows.FnTsoNewSaid := fnTsoNew.proved
end Go.Proofs.Ytnodnclpeldpdaa
