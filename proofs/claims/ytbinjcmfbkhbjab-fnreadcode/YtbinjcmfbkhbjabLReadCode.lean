/- Proved: for every slice of bytes, of whatever length, laws.FnReadCode returns true and leaves its argument as it read. No condition. -/
import Derived.Test.YtbinjcmfbkhbjabRows
import Derived.Test.YtbinjcmfbkhbjabEcH
import Derived.WalkKit
import Derived.ProofKit
import Derived.OpenShut
import Derived.ShutString
import Derived.ChangeOld
import Derived.Below
import Derived.OpenVars
namespace Go.Proofs.Ytbinjcmfbkhbjab.fnReadCode
open Go.ChangeShapes Go.WideShapes Go.ChangeAt Go.WideMaps Go.WideElems Go.RowKit
set_option linter.unusedVariables false
set_option linter.unusedSimpArgs false

theorem own : ownKnob Try.prog.godebug = none := by kernel_rfl
theorem laidOut : laidOutB Try.prog = true := by kernel_rfl

def IsRow (k : IntKind) (w : World) (a : Option Addr) (len cap : Nat) (zs : List Int) : Prop :=
  (a = none ∧ len = 0 ∧ cap = 0 ∧ zs = []) ∨
  ∃ x, a = some x ∧ len ≤ cap ∧ cap ≤ maxLen ∧ zs.length = cap ∧ (∀ i, i < zs.length → w.cell? (x.add i) = some (.int k (zs.getD i 0))) ∧ ∀ n ∈ zs, (Lit.int k n).wf = true

theorem row_bt {w : World} {a : Option Addr} {len cap : Nat} {z : List Int} (h : IsRow .u8 w a len cap z) : Bt w a len := by
  intro h0
  rcases h with ⟨rfl, rfl, rfl, rfl⟩ | ⟨x, rfl, hl, hm, hz, hcell, hwf⟩
  · exact absurd h0 (by simp)
  · obtain ⟨b, off, spot⟩ := x
    have hc := hcell 0 (by omega)
    have hspot : spot = none := by simpa [Addr.add] using World.cell?_spot hc
    subst hspot
    refine ⟨b, off, rfl, fun j hj => ?_⟩
    have hcj := hcell j (by omega)
    rw [addr_add] at hcj
    have hj' : j < z.length := by omega
    have e : z.getD j 0 = z[j] := by simp [hj']
    have hw := bounds_u8 (hwf z[j] (List.getElem_mem hj'))
    exact ⟨z.getD j 0, by rw [e]; exact hw.1, by rw [e]; exact hw.2, hcj⟩

set_option maxHeartbeats 4000000 in
theorem walk (a0 : Option Addr) (len0 cap0 : Nat) (w : World) (hs0 : Bt w a0 len0) :
    Calls Try.prog 8 #[.slice a0 len0 cap0] w fun e w' => e = .returned (.bool true) ∧ Below w.heap.size w w' := by
  by_cases hbig : (1048576 : Int) < (len0 : Int)
  · go_enter Try.func8, Try.ntmps8
    go_wp2
    go_ret
    exact ⟨rfl, Below.refl _ _⟩
  have hb : len0 ≤ 1048576 := by omega
  go_enter Try.func8, Try.ntmps8
  go_wp2_with (first | (go_at_call 9; go_in) | fail)
  refine (drawReadCode_any a0 len0 cap0 _ hs0 hb).mono ?_
  rintro e w1 ⟨u, zs, rfl, hl, hs, hb1⟩
  have HB1 := hide hb1
  clear hb1 hs0 hbig hb
  have hi := readI_any u zs w1 hs (by omega)
  have hsp := readS_any u zs w1 hs (by omega)
  have HS := hide hs
  obtain ⟨ad, cap, rfl, hcell⟩ := hs
  have HC := hide hcell
  clear hcell
  have HK : Hid (∀ k, k < 3 → zs.length = 3 → Ecc.rC (zs.getD k 0) = 2 → 2 ≤ Ecc.rcC zs) := hide (fun k hk h3 h => Ecc.rc_broken zs k hk h3 h)
  have HV := hide (fun h : Ecc.rcC zs = 0 => Ecc.rc_fine zs h)
  generalize Ecc.rcV zs = v at hi hsp HV
  generalize Ecc.rcC zs = c at hi hsp HK HV
  obtain ⟨n, hn⟩ : ∃ n, zs.length = n := ⟨_, rfl⟩
  rw [hn] at hl hi hsp ⊢
  have HN := hide hn
  clear hn
  go_wp2_with (first | (go_at_call 25; refine hi.mono ?_; rintro e w' ⟨rfl, rfl⟩) | (go_at_call 27; refine hsp.mono ?_; rintro e w' ⟨rfl, rfl⟩))
  clear hsp hi
  go_loop [8] (fun i => ∃ k : Nat, k ≤ n ∧ i = .int .i64 k) (fun i => n - (intOf i).toNat)
  case atStart => exact ⟨0, by omega, rfl⟩
  case round =>
    obtain ⟨k, hk, rfl⟩ := hrel
    by_cases hlt : k < n ∧ n = 3
    · obtain ⟨hlt, h3⟩ := hlt
      obtain ⟨b, off, rfl, hcc⟩ := HC.out (by rw [HN.out]; omega)
      have hck := hcc k (by rw [HN.out]; exact hlt)
      have hr := fun w => readZ_any (zs.getD k 0) w
      have HKk := hide (HK.out k (by omega) (by rw [HN.out]; exact h3))
      generalize zs.getD k 0 = z at hck hr HKk
      generalize Ecc.rV z = a at hr
      clear hcc
      subst h3
      by_cases h2 : Ecc.rC z = 2
      · rw [h2] at hr
        have hc2 : 2 ≤ c := HKk.out h2
        clear h2 HKk
        go_wp2_with (go_at_call 13; refine (hr _).mono ?_; rintro e w2 ⟨rfl, rfl⟩)
        go_round
        case rel => exact ⟨k + 1, by omega, by go_num⟩
        case measure => simp [intOf]; omega
      · generalize Ecc.rC z = d at hr h2 HKk
        have hq : ((d : Int) == 2) = false := by simp; omega
        clear h2 HKk
        go_wp2_with (go_at_call 13; refine (hr _).mono ?_; rintro e w2 ⟨rfl, rfl⟩)
        go_round
        case rel => exact ⟨k + 1, by omega, by go_num⟩
        case measure => simp [intOf]; omega
    · by_cases hkn : k < n
      · have h3 : ((n : Int) == 3) = false := by simp; omega
        clear hlt
        have hcI := fun w => codeI_any (v : Int) w
        by_cases hc0 : c = 0
        · obtain ⟨hv, he⟩ := HV.out hc0
          subst hc0
          rw [inR_yes (by omega) (by omega), Ecc.codR_yes hv, he] at hcI
          clear he
          go_wp2_with fail
          refine (hcI _).mono ?_
          rintro e w3 ⟨m, rfl, hm3, hb3⟩
          have HS3 := hide (HS.out.below hb3)
          rw [HN.out] at HS3
          have HB3 : Hid (Below w.heap.size w w3) := hide (HB1.out.trans (hb3.mono HB1.out.size))
          clear hb3 HS HC
          go_wp2_with fail
          refine (sameInts_same m _ zs _ hm3.sl HS3.out (by have := HN.out; omega)).mono ?_
          rintro e w4 ⟨rfl, hb4⟩
          have HB4 : Hid (Below w.heap.size w w4) := hide (HB3.out.trans (hb4.mono HB3.out.size))
          clear hb4 HB3 HS3 hm3
          go_wp2
          go_ret
          exact ⟨rfl, HB4.out⟩
        · have hq : ((c : Int) != 0) = true := by simp; omega
          clear hc0
          generalize inR (v : Int) 1000000 = bb at hcI
          generalize Ecc.codR (v : Int) = R at hcI
          go_wp2_with fail
          refine (hcI _).mono ?_
          rintro e w3 ⟨m, rfl, hm3, hb3⟩
          have HB3 : Hid (Below w.heap.size w w3) := hide (HB1.out.trans (hb3.mono HB1.out.size))
          clear hb3 HS HC hm3
          go_wp2
          go_ret
          exact ⟨rfl, HB3.out⟩
      · clear hlt
        have hcI := fun w => codeI_any (v : Int) w
        by_cases hc0 : c = 0
        · obtain ⟨hv, he⟩ := HV.out hc0
          subst hc0
          rw [inR_yes (by omega) (by omega), Ecc.codR_yes hv, he] at hcI
          clear he
          go_wp2_with fail
          refine (hcI _).mono ?_
          rintro e w3 ⟨m, rfl, hm3, hb3⟩
          have HS3 := hide (HS.out.below hb3)
          rw [HN.out] at HS3
          have HB3 : Hid (Below w.heap.size w w3) := hide (HB1.out.trans (hb3.mono HB1.out.size))
          clear hb3 HS HC
          go_wp2_with fail
          refine (sameInts_same m _ zs _ hm3.sl HS3.out (by have := HN.out; omega)).mono ?_
          rintro e w4 ⟨rfl, hb4⟩
          have HB4 : Hid (Below w.heap.size w w4) := hide (HB3.out.trans (hb4.mono HB3.out.size))
          clear hb4 HB3 HS3 hm3
          go_wp2
          go_ret
          exact ⟨rfl, HB4.out⟩
        · have hq : ((c : Int) != 0) = true := by simp; omega
          clear hc0
          generalize inR (v : Int) 1000000 = bb at hcI
          generalize Ecc.codR (v : Int) = R at hcI
          go_wp2_with fail
          refine (hcI _).mono ?_
          rintro e w3 ⟨m, rfl, hm3, hb3⟩
          have HB3 : Hid (Below w.heap.size w w3) := hide (HB1.out.trans (hb3.mono HB1.out.size))
          clear hb3 HS HC hm3
          go_wp2
          go_ret
          exact ⟨rfl, HB3.out⟩

set_option maxRecDepth 100000 in
theorem lifted (os : Os) (started : os.Started) (H : Type) (enc : TypeId × Value → H) :
    ReturnsInHanded {} Try.checked os 8 .any (Rows.fnReadCodeSpec.pre6 enc Try.prog Try.f8 Rows.fnReadCodeRow.domain false) (Rows.fnReadCodeSpec.post enc Try.prog Try.f8 false true false false) := by
  refine returnsInHanded_of_change (C := Try.checked) own started (by kernel_rfl) Try.func8
    (ChangeSpec.witness6 (enc := enc) (C := Try.checked) false ⟨#[], #[.slice none 0 0], []⟩ 8 (by kernel_rfl) (by kernel_rfl) (by kernel_rfl) (by kernel_rfl)) ?_
  intro W base args ds gs before hval0 hW hcnd _
  have hval : ∀ (j : Nat) t v, Try.f8.params[j]? = some t → args[j]? = some v → Value.okWide Try.prog W .any base t v := hval0
  have hW' := hW
  obtain ⟨p, q, hA0, hV, rfl, hfz, hnd⟩ := hW
  have hA : DataW.TrodAll enc Try.prog W 0 (fun _ => true) true Try.f8.params.toList args.toList ds p := hA0
  rw [Try.params8] at hA hval
  obtain ⟨v0, vs0, d0, ds0, p0, q0, hargs, rfl, rfl, h0, r0⟩ := trodAll_cons hA
  obtain ⟨rfl, rfl, rfl⟩ := trodAll_nil r0
  obtain rfl : args = #[v0] := by cases args; simp_all
  obtain ⟨rfl, rfl⟩ := trodVars_none hV
  obtain ⟨a0, len0, cap0, rfl⟩ := okWide_slice Try.underlying22 (hval 0 22 v0 rfl rfl)
  have k0 := h0
  have lt0 : ∀ x ∈ p0, x.block < W.heap.size := by obtain ⟨m, hm⟩ := k0; exact DataW.trod_lt m _ _ _ hm
  obtain ⟨z0, w0⟩ : ∃ zs, IsRow .u8 W a0 len0 cap0 zs := by
    obtain ⟨fuel, hf⟩ := h0
    rcases open_ints Try.underlying22 Try.underlying5 (by kernel_rfl) hf with ⟨hcs, _⟩ | ⟨x, l, c, zs, hcs, _, hl, hm, hz, _, hcell, hwz⟩
    · simp [Value.cells] at hcs
      obtain ⟨rfl, rfl, rfl⟩ := hcs
      exact ⟨[], .inl ⟨rfl, rfl, rfl, rfl⟩⟩
    · simp [Value.cells] at hcs
      obtain ⟨rfl, rfl, rfl⟩ := hcs
      exact ⟨zs, .inr ⟨_, rfl, hl, hm, by simpa using hz, hcell, hwz⟩⟩
  clear hA0 hval0
  refine (walk a0 len0 cap0 W (row_bt w0)).mono fun e W' ⟨he, bel⟩ => ?_
  subst he
  exact ⟨_, rfl, _, _, _, [], _, [], hW', trodAll_mk1 (shut_bool Try.underlying4 _), (trodAll_cons_mk (Below.trod laidOut (by kernel_rfl) (of_decide_eq_true (by kernel_rfl)) k0 bel lt0) trodAll_mk0), rfl, bel.frame _, fun h => by cases h⟩

theorem over : Rows.fnReadCodeRow.holds Try.pinned (OpenSpec.ofChange Rows.fnReadCodeSpec) :=
  OpenClaim.holds_of_wide 8 Try.f8 rfl rfl rfl rfl rfl rfl rfl ⟨rfl, rfl, rfl, rfl, rfl⟩ rfl rfl rfl rfl rfl (by kernel_rfl) Try.func8 (by kernel_rfl)
    (of_decide_eq_true (by kernel_rfl)) (by unfold Func.isWrapper; first | (rw [if_pos (by decide +kernel)]; kernel_rfl) | (rw [if_neg (by decide +kernel)]; exact ⟨rfl, rfl⟩))
    (fun os started H enc _ => lifted os started H enc)

theorem proved : Rows.FnReadCodeSaid := over
end Go.Proofs.Ytbinjcmfbkhbjab.fnReadCode

namespace Go.Proofs.Ytbinjcmfbkhbjab
theorem fnReadCode_holds : Rows.FnReadCodeSaid := fnReadCode.proved
end Go.Proofs.Ytbinjcmfbkhbjab
