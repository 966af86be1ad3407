/- Proved: for every slice of bytes, of whatever length, laws.FnEcc returns true and leaves its argument as it read. No condition. -/
import Derived.Test.YtbinjcmfbkhbjabRows
import Derived.Test.YtbinjcmfbkhbjabEcR
import Derived.Test.YtbinjcmfbkhbjabEcF
import Derived.WalkKit
import Derived.ProofKit
import Derived.OpenShut
import Derived.ShutString
import Derived.ChangeOld
import Derived.Below
import Derived.OpenVars
namespace Go.Proofs.Ytbinjcmfbkhbjab.fnEcc
open Go.ChangeShapes Go.WideShapes Go.ChangeAt Go.WideMaps Go.WideElems Go.RowKit
set_option linter.unusedVariables false
set_option linter.unusedSimpArgs false

theorem own : ownKnob Try.prog.godebug = none := by kernel_rfl
theorem laidOut : laidOutB Try.prog = true := by kernel_rfl

def IsRow (k : IntKind) (w : World) (a : Option Addr) (len cap : Nat) (zs : List Int) : Prop :=
  (a = none ∧ len = 0 ∧ cap = 0 ∧ zs = []) ∨
  ∃ x, a = some x ∧ len ≤ cap ∧ cap ≤ maxLen ∧ zs.length = cap ∧ (∀ i, i < zs.length → w.cell? (x.add i) = some (.int k (zs.getD i 0))) ∧ ∀ n ∈ zs, (Lit.int k n).wf = true

theorem row_bt {w : World} {a : Option Addr} {len cap : Nat} {z : List Int} (h : IsRow .u8 w a len cap z) : Bt w a len := by
  intro h0
  rcases h with ⟨rfl, rfl, rfl, rfl⟩ | ⟨x, rfl, hl, hm, hz, hcell, hwf⟩
  · exact absurd h0 (by simp)
  · obtain ⟨b, off, spot⟩ := x
    have hc := hcell 0 (by omega)
    have hspot : spot = none := by simpa [Addr.add] using World.cell?_spot hc
    subst hspot
    refine ⟨b, off, rfl, fun j hj => ?_⟩
    have hcj := hcell j (by omega)
    rw [addr_add] at hcj
    have hj' : j < z.length := by omega
    have e : z.getD j 0 = z[j] := by simp [hj']
    have hw := bounds_u8 (hwf z[j] (List.getElem_mem hj'))
    exact ⟨z.getD j 0, by rw [e]; exact hw.1, by rw [e]; exact hw.2, hcj⟩

set_option maxHeartbeats 4000000 in
theorem walk (a0 : Option Addr) (len0 cap0 : Nat) (w : World) (hs0 : Bt w a0 len0) :
    Calls Try.prog 3 #[.slice a0 len0 cap0] w fun e w' => e = .returned (.bool true) ∧ Below w.heap.size w w' := by
  by_cases hbig : (1048576 : Int) < (len0 : Int)
  · go_enter Try.func3, Try.ntmps3
    go_wp2
    go_ret
    exact ⟨rfl, Below.refl _ _⟩
  have hb : len0 ≤ 1048576 := by omega
  go_enter Try.func3, Try.ntmps3
  go_wp2_with (first | (go_at_call 9; go_in) | fail)
  refine (drawEccOf_any a0 len0 cap0 _ hs0 hb).mono ?_
  rintro e w1 ⟨z, rfl, hb1⟩
  have HB1 := hide hb1
  have HS1 := hide (hs0.below hb1)
  clear hs0 hb1 hbig
  by_cases hz : 0 ≤ z ∧ z ≤ 255
  · obtain ⟨b, rfl⟩ := Int.eq_ofNat_of_zero_le hz.1
    have hbb : b < 256 := by omega
    clear hz
    have hi := fun w => eccOf_any b w hbb
    have hsp := fun w => specEcc_any b w hbb
    have hel := (Ecc.enc_eq b hbb).2
    obtain ⟨hv, hc⟩ := Ecc.rd_back b hbb
    obtain ⟨hsy, _, _⟩ := Ecc.back b hbb
    have hr := fun w => read_any (Ecc.enc b) w hel
    rw [hv, hc] at hr
    have hs := fun w => syn_any (Ecc.enc b) w hel
    rw [hsy] at hs
    clear hv hc hsy
    generalize Ecc.enc b = x at hi hsp hel hr hs
    go_wp2_with (first | (go_at_call 11; refine (hi _).mono ?_; rintro e w' ⟨rfl, rfl⟩) | (go_at_call 12; refine (hsp _).mono ?_; rintro e w' ⟨rfl, rfl⟩) | (go_at_call 13; refine (hr _).mono ?_; rintro e w' ⟨rfl, rfl⟩) | fail)
    refine (drawRead_any a0 len0 cap0 _ HS1.out hb).mono ?_
    rintro e w2 ⟨y, rfl, hb2⟩
    have HB2 := hide (HB1.out.trans (hb2.mono HB1.out.size))
    clear hb2 HB1 HS1
    by_cases hy : 0 ≤ y ∧ y ≤ 8191
    · obtain ⟨n, rfl⟩ := Int.eq_ofNat_of_zero_le hy.1
      have hn : n < 8192 := by omega
      clear hy
      have ri := fun w => read_any n w hn
      have rs := fun w => specRead_any n w hn
      by_cases h0 : Ecc.rdC n = 0
      · obtain ⟨he, hl⟩ := Ecc.rd_fine n hn h0
        rw [h0] at ri rs
        have hi2 := fun w => eccOf_any (Ecc.rdV n) w hl
        rw [he] at hi2
        clear h0 he hl hi hsp
        generalize Ecc.rdV n = v at ri rs hi2
        go_wp2_with (first | (go_at_call 13; refine (ri _).mono ?_; rintro e w' ⟨rfl, rfl⟩) | (go_at_call 15; refine (rs _).mono ?_; rintro e w' ⟨rfl, rfl⟩) | (go_at_call 16; refine (hs _).mono ?_; rintro e w' ⟨rfl, rfl⟩) | (go_at_call 11; refine (hi2 _).mono ?_; rintro e w' ⟨rfl, rfl⟩))
        go_ret
        exact ⟨rfl, HB2.out⟩
      · generalize Ecc.rdC n = c at ri rs h0
        generalize Ecc.rdV n = v at ri rs
        have hq : ((c : Int) != 0) = true := by simp; omega
        clear h0 hi hsp
        go_wp2_with (first | (go_at_call 13; refine (ri _).mono ?_; rintro e w' ⟨rfl, rfl⟩) | (go_at_call 15; refine (rs _).mono ?_; rintro e w' ⟨rfl, rfl⟩) | (go_at_call 16; refine (hs _).mono ?_; rintro e w' ⟨rfl, rfl⟩))
        go_ret
        exact ⟨rfl, HB2.out⟩
    · have ri := fun w => read_none y w hy
      have rs := fun w => specRead_none y w hy
      clear hy hi hsp
      go_wp2_with (first | (go_at_call 13; refine (ri _).mono ?_; rintro e w' ⟨rfl, rfl⟩) | (go_at_call 15; refine (rs _).mono ?_; rintro e w' ⟨rfl, rfl⟩) | (go_at_call 16; refine (hs _).mono ?_; rintro e w' ⟨rfl, rfl⟩))
      go_ret
      exact ⟨rfl, HB2.out⟩
  · have hi := fun w => eccOf_none z w hz
    have hsp := fun w => specEcc_none z w hz
    clear hz
    go_wp2_with (first | (go_at_call 11; refine (hi _).mono ?_; rintro e w' ⟨rfl, rfl⟩) | (go_at_call 12; refine (hsp _).mono ?_; rintro e w' ⟨rfl, rfl⟩))
    go_ret
    exact ⟨rfl, HB1.out⟩

set_option maxRecDepth 100000 in
theorem lifted (os : Os) (started : os.Started) (H : Type) (enc : TypeId × Value → H) :
    ReturnsInHanded {} Try.checked os 3 .any (Rows.fnEccSpec.pre6 enc Try.prog Try.f3 Rows.fnEccRow.domain false) (Rows.fnEccSpec.post enc Try.prog Try.f3 false true false false) := by
  refine returnsInHanded_of_change (C := Try.checked) own started (by kernel_rfl) Try.func3
    (ChangeSpec.witness6 (enc := enc) (C := Try.checked) false ⟨#[], #[.slice none 0 0], []⟩ 8 (by kernel_rfl) (by kernel_rfl) (by kernel_rfl) (by kernel_rfl)) ?_
  intro W base args ds gs before hval0 hW hcnd _
  have hval : ∀ (j : Nat) t v, Try.f3.params[j]? = some t → args[j]? = some v → Value.okWide Try.prog W .any base t v := hval0
  have hW' := hW
  obtain ⟨p, q, hA0, hV, rfl, hfz, hnd⟩ := hW
  have hA : DataW.TrodAll enc Try.prog W 0 (fun _ => true) true Try.f3.params.toList args.toList ds p := hA0
  rw [Try.params3] at hA hval
  obtain ⟨v0, vs0, d0, ds0, p0, q0, hargs, rfl, rfl, h0, r0⟩ := trodAll_cons hA
  obtain ⟨rfl, rfl, rfl⟩ := trodAll_nil r0
  obtain rfl : args = #[v0] := by cases args; simp_all
  obtain ⟨rfl, rfl⟩ := trodVars_none hV
  obtain ⟨a0, len0, cap0, rfl⟩ := okWide_slice Try.underlying22 (hval 0 22 v0 rfl rfl)
  have k0 := h0
  have lt0 : ∀ x ∈ p0, x.block < W.heap.size := by obtain ⟨m, hm⟩ := k0; exact DataW.trod_lt m _ _ _ hm
  obtain ⟨z0, w0⟩ : ∃ zs, IsRow .u8 W a0 len0 cap0 zs := by
    obtain ⟨fuel, hf⟩ := h0
    rcases open_ints Try.underlying22 Try.underlying5 (by kernel_rfl) hf with ⟨hcs, _⟩ | ⟨x, l, c, zs, hcs, _, hl, hm, hz, _, hcell, hwz⟩
    · simp [Value.cells] at hcs
      obtain ⟨rfl, rfl, rfl⟩ := hcs
      exact ⟨[], .inl ⟨rfl, rfl, rfl, rfl⟩⟩
    · simp [Value.cells] at hcs
      obtain ⟨rfl, rfl, rfl⟩ := hcs
      exact ⟨zs, .inr ⟨_, rfl, hl, hm, by simpa using hz, hcell, hwz⟩⟩
  clear hA0 hval0
  refine (walk a0 len0 cap0 W (row_bt w0)).mono fun e W' ⟨he, bel⟩ => ?_
  subst he
  exact ⟨_, rfl, _, _, _, [], _, [], hW', trodAll_mk1 (shut_bool Try.underlying4 _), (trodAll_cons_mk (Below.trod laidOut (by kernel_rfl) (of_decide_eq_true (by kernel_rfl)) k0 bel lt0) trodAll_mk0), rfl, bel.frame _, fun h => by cases h⟩

theorem over : Rows.fnEccRow.holds Try.pinned (OpenSpec.ofChange Rows.fnEccSpec) :=
  OpenClaim.holds_of_wide 3 Try.f3 rfl rfl rfl rfl rfl rfl rfl ⟨rfl, rfl, rfl, rfl, rfl⟩ rfl rfl rfl rfl rfl (by kernel_rfl) Try.func3 (by kernel_rfl)
    (of_decide_eq_true (by kernel_rfl)) (by unfold Func.isWrapper; first | (rw [if_pos (by decide +kernel)]; kernel_rfl) | (rw [if_neg (by decide +kernel)]; exact ⟨rfl, rfl⟩))
    (fun os started H enc _ => lifted os started H enc)

theorem proved : Rows.FnEccSaid := over
end Go.Proofs.Ytbinjcmfbkhbjab.fnEcc

namespace Go.Proofs.Ytbinjcmfbkhbjab
theorem fnEcc_holds : Rows.FnEccSaid := fnEcc.proved
end Go.Proofs.Ytbinjcmfbkhbjab
