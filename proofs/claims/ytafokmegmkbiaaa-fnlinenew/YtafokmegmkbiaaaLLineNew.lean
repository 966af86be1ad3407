/- Proved: for every slice of bytes, of whatever length, laws.FnLineNew returns true and leaves its argument as it read. No condition. -/
import Derived.Test.YtafokmegmkbiaaaRows
import Derived.Test.YtafokmegmkbiaaaLnB
import Derived.WalkKit
import Derived.ProofKit
import Derived.OpenShut
import Derived.ShutString
import Derived.ChangeOld
import Derived.Below
import Derived.OpenVars
namespace Go.Proofs.Ytafokmegmkbiaaa.fnLineNew
open Go.ChangeShapes Go.WideShapes Go.ChangeAt Go.WideMaps Go.WideElems Go.RowKit
set_option linter.unusedVariables false

theorem own : ownKnob Try.prog.godebug = none := by kernel_rfl
theorem laidOut : laidOutB Try.prog = true := by kernel_rfl

def IsRow (k : IntKind) (w : World) (a : Option Addr) (len cap : Nat) (zs : List Int) : Prop :=
  (a = none ∧ len = 0 ∧ cap = 0 ∧ zs = []) ∨
  ∃ x, a = some x ∧ len ≤ cap ∧ cap ≤ maxLen ∧ zs.length = cap ∧ (∀ i, i < zs.length → w.cell? (x.add i) = some (.int k (zs.getD i 0))) ∧ ∀ n ∈ zs, (Lit.int k n).wf = true

theorem row_bt {w : World} {a : Option Addr} {len cap : Nat} {z : List Int} (h : IsRow .u8 w a len cap z) : Bt w a len := by
  intro h0
  rcases h with ⟨rfl, rfl, rfl, rfl⟩ | ⟨x, rfl, hl, hm, hz, hcell, hwf⟩
  · exact absurd h0 (by simp)
  · obtain ⟨b, off, spot⟩ := x
    have hc := hcell 0 (by omega)
    have hspot : spot = none := by simpa [Addr.add] using World.cell?_spot hc
    subst hspot
    refine ⟨b, off, rfl, fun j hj => ?_⟩
    have hcj := hcell j (by omega)
    rw [addr_add] at hcj
    have hj' : j < z.length := by omega
    have e : z.getD j 0 = z[j] := by simp [hj']
    have hw := bounds_u8 (hwf z[j] (List.getElem_mem hj'))
    exact ⟨z.getD j 0, by rw [e]; exact hw.1, by rw [e]; exact hw.2, hcj⟩

set_option maxHeartbeats 2000000 in
theorem walk (a0 : Option Addr) (len0 cap0 : Nat) (w : World) (hs : Bt w a0 len0) :
    Calls Try.prog 4 #[.slice a0 len0 cap0] w fun e w' => e = .returned (.bool true) ∧ Below w.heap.size w w' := by
  by_cases hbig : (1048576 : Int) < (len0 : Int)
  · go_enter Try.func4, Try.ntmps4
    go_wp2
    go_ret
    exact ⟨rfl, Below.refl _ _⟩
  · have hb : len0 ≤ 1048576 := by omega
    go_enter Try.func4, Try.ntmps4
    go_wp2_with (first | (go_at_call 11; go_in) | fail)
    refine (drawLineNew_any a0 len0 cap0 _ hs hb).mono ?_
    rintro e w1 ⟨m, rfl, hb1⟩
    clear hs
    have hsp := fun w => specNew_any m w
    have him := fun w => implNew_any m w
    cases hv : inB m 0 1000000 with
    | false =>
      rw [show newN m = 0 by simp [newN, hv]] at hsp him
      rw [hv] at hsp him
      go_wp2_with fail
      refine (him _).mono ?_
      rintro e w2 ⟨rfl, hb2⟩
      have px := lc_here (hb1.trans (hb2.mono hb1.size)) 0 41
      clear hb1 hb2
      go_wp2_with fail
      refine (hsp _).mono ?_
      rintro e w3 ⟨rfl, hb3⟩
      have p3 := lc_next px hb3
      have qx := lc_here p3.1 0 41
      have py := lc_alloc p3 (.cells (lnC 0) 41)
      clear hb3 px p3 hsp him
      obtain ⟨_, c0, c1, c2, c3, c4, c5, c6⟩ := id py
      obtain ⟨_, g0, g1, g2, g3, g4, g5, g6⟩ := id qx
      go_wp2_with fail
      refine (sameLine_new 0 _).mono ?_
      rintro e w4 ⟨rfl, hb4⟩
      have p4 := lc_next py hb4
      clear hb4 py qx c0 c1 c2 c3 c4 c5 c6 g0 g1 g2 g3 g4 g5 g6
      go_wp2
      go_ret
      exact ⟨rfl, p4.1⟩
    | true =>
      rw [show newN m = m by simp [newN, hv]] at hsp him
      rw [hv] at hsp him
      go_wp2_with fail
      refine (him _).mono ?_
      rintro e w2 ⟨rfl, hb2⟩
      have px := lc_here (hb1.trans (hb2.mono hb1.size)) m 41
      clear hb1 hb2
      go_wp2_with fail
      refine (hsp _).mono ?_
      rintro e w3 ⟨rfl, hb3⟩
      have p3 := lc_next px hb3
      have qx := lc_here p3.1 m 41
      have py := lc_alloc p3 (.cells (lnC m) 41)
      clear hb3 px p3 hsp him
      obtain ⟨_, c0, c1, c2, c3, c4, c5, c6⟩ := id py
      obtain ⟨_, g0, g1, g2, g3, g4, g5, g6⟩ := id qx
      go_wp2_with fail
      refine (sameLine_new m _).mono ?_
      rintro e w4 ⟨rfl, hb4⟩
      have p4 := lc_next py hb4
      clear hb4 py qx c0 c1 c2 c3 c4 c5 c6 g0 g1 g2 g3 g4 g5 g6
      obtain ⟨_, c0, c1, c2, c3, c4, c5, c6⟩ := id p4
      go_wp2_with fail
      refine (lineOk_new m _ hv).mono ?_
      rintro e w5 ⟨rfl, hb5⟩
      have p5 := lc_next p4 hb5
      clear hb5 p4 c0 c1 c2 c3 c4 c5 c6
      obtain ⟨_, c0, c1, c2, c3, c4, c5, c6⟩ := id p5
      go_wp2
      go_ret
      exact ⟨rfl, p5.1⟩

set_option maxRecDepth 100000 in
theorem lifted (os : Os) (started : os.Started) (H : Type) (enc : TypeId × Value → H) :
    ReturnsInHanded {} Try.checked os 4 .any (Rows.fnLineNewSpec.pre6 enc Try.prog Try.f4 Rows.fnLineNewRow.domain false) (Rows.fnLineNewSpec.post enc Try.prog Try.f4 false true false false) := by
  refine returnsInHanded_of_change (C := Try.checked) own started (by kernel_rfl) Try.func4
    (ChangeSpec.witness6 (enc := enc) (C := Try.checked) false ⟨#[], #[.slice none 0 0], []⟩ 8 (by kernel_rfl) (by kernel_rfl) (by kernel_rfl) (by kernel_rfl)) ?_
  intro W base args ds gs before hval0 hW hcnd _
  have hval : ∀ (j : Nat) t v, Try.f4.params[j]? = some t → args[j]? = some v → Value.okWide Try.prog W .any base t v := hval0
  have hW' := hW
  obtain ⟨p, q, hA0, hV, rfl, hfz, hnd⟩ := hW
  have hA : DataW.TrodAll enc Try.prog W 0 (fun _ => true) true Try.f4.params.toList args.toList ds p := hA0
  rw [Try.params4] at hA hval
  obtain ⟨v0, vs0, d0, ds0, p0, q0, hargs, rfl, rfl, h0, r0⟩ := trodAll_cons hA
  obtain ⟨rfl, rfl, rfl⟩ := trodAll_nil r0
  obtain rfl : args = #[v0] := by cases args; simp_all
  obtain ⟨rfl, rfl⟩ := trodVars_none hV
  obtain ⟨a0, len0, cap0, rfl⟩ := okWide_slice Try.underlying22 (hval 0 22 v0 rfl rfl)
  have k0 := h0
  have lt0 : ∀ x ∈ p0, x.block < W.heap.size := by obtain ⟨m, hm⟩ := k0; exact DataW.trod_lt m _ _ _ hm
  obtain ⟨z0, w0⟩ : ∃ zs, IsRow .u8 W a0 len0 cap0 zs := by
    obtain ⟨fuel, hf⟩ := h0
    rcases open_ints Try.underlying22 Try.underlying5 (by kernel_rfl) hf with ⟨hcs, _⟩ | ⟨x, l, c, zs, hcs, _, hl, hm, hz, _, hcell, hwz⟩
    · simp [Value.cells] at hcs
      obtain ⟨rfl, rfl, rfl⟩ := hcs
      exact ⟨[], .inl ⟨rfl, rfl, rfl, rfl⟩⟩
    · simp [Value.cells] at hcs
      obtain ⟨rfl, rfl, rfl⟩ := hcs
      exact ⟨zs, .inr ⟨_, rfl, hl, hm, by simpa using hz, hcell, hwz⟩⟩
  clear hA0 hval0
  refine (walk a0 len0 cap0 W (row_bt w0)).mono fun e W' ⟨he, bel⟩ => ?_
  subst he
  exact ⟨_, rfl, _, _, _, [], _, [], hW', trodAll_mk1 (shut_bool Try.underlying4 _), (trodAll_cons_mk (Below.trod laidOut (by kernel_rfl) (of_decide_eq_true (by kernel_rfl)) k0 bel lt0) trodAll_mk0), rfl, bel.frame _, fun h => by cases h⟩

theorem over : Rows.fnLineNewRow.holds Try.pinned (OpenSpec.ofChange Rows.fnLineNewSpec) :=
  OpenClaim.holds_of_wide 4 Try.f4 rfl rfl rfl rfl rfl rfl rfl ⟨rfl, rfl, rfl, rfl, rfl⟩ rfl rfl rfl rfl rfl (by kernel_rfl) Try.func4 (by kernel_rfl)
    (of_decide_eq_true (by kernel_rfl)) (by unfold Func.isWrapper; first | (rw [if_pos (by decide +kernel)]; kernel_rfl) | (rw [if_neg (by decide +kernel)]; exact ⟨rfl, rfl⟩))
    (fun os started H enc _ => lifted os started H enc)

theorem proved : Rows.FnLineNewSaid := over
end Go.Proofs.Ytafokmegmkbiaaa.fnLineNew

namespace Go.Proofs.Ytafokmegmkbiaaa
theorem fnLineNew_holds : Rows.FnLineNewSaid := fnLineNew.proved
end Go.Proofs.Ytafokmegmkbiaaa
