/- Proved: for every slice of bytes, of whatever length, laws.FnCodes returns true and leaves its argument as it read. No condition. -/
import Derived.Test.YtbinjcmfbkhbjabRows
import Derived.Test.YtbinjcmfbkhbjabEcG
import Derived.WalkKit
import Derived.ProofKit
import Derived.OpenShut
import Derived.ShutString
import Derived.ChangeOld
import Derived.Below
import Derived.OpenVars
namespace Go.Proofs.Ytbinjcmfbkhbjab.fnCodes
open Go.ChangeShapes Go.WideShapes Go.ChangeAt Go.WideMaps Go.WideElems Go.RowKit
set_option linter.unusedVariables false
set_option linter.unusedSimpArgs false

theorem own : ownKnob Try.prog.godebug = none := by kernel_rfl
theorem laidOut : laidOutB Try.prog = true := by kernel_rfl

def IsRow (k : IntKind) (w : World) (a : Option Addr) (len cap : Nat) (zs : List Int) : Prop :=
  (a = none ∧ len = 0 ∧ cap = 0 ∧ zs = []) ∨
  ∃ x, a = some x ∧ len ≤ cap ∧ cap ≤ maxLen ∧ zs.length = cap ∧ (∀ i, i < zs.length → w.cell? (x.add i) = some (.int k (zs.getD i 0))) ∧ ∀ n ∈ zs, (Lit.int k n).wf = true

theorem row_bt {w : World} {a : Option Addr} {len cap : Nat} {z : List Int} (h : IsRow .u8 w a len cap z) : Bt w a len := by
  intro h0
  rcases h with ⟨rfl, rfl, rfl, rfl⟩ | ⟨x, rfl, hl, hm, hz, hcell, hwf⟩
  · exact absurd h0 (by simp)
  · obtain ⟨b, off, spot⟩ := x
    have hc := hcell 0 (by omega)
    have hspot : spot = none := by simpa [Addr.add] using World.cell?_spot hc
    subst hspot
    refine ⟨b, off, rfl, fun j hj => ?_⟩
    have hcj := hcell j (by omega)
    rw [addr_add] at hcj
    have hj' : j < z.length := by omega
    have e : z.getD j 0 = z[j] := by simp [hj']
    have hw := bounds_u8 (hwf z[j] (List.getElem_mem hj'))
    exact ⟨z.getD j 0, by rw [e]; exact hw.1, by rw [e]; exact hw.2, hcj⟩

set_option maxHeartbeats 4000000 in
theorem walk (a0 : Option Addr) (len0 cap0 : Nat) (w : World) (hs0 : Bt w a0 len0) :
    Calls Try.prog 7 #[.slice a0 len0 cap0] w fun e w' => e = .returned (.bool true) ∧ Below w.heap.size w w' := by
  by_cases hbig : (1048576 : Int) < (len0 : Int)
  · go_enter Try.func7, Try.ntmps7
    go_wp2
    go_ret
    exact ⟨rfl, Below.refl _ _⟩
  have hb : len0 ≤ 1048576 := by omega
  go_enter Try.func7, Try.ntmps7
  go_wp2_with (first | (go_at_call 9; go_in) | fail)
  refine (drawCodeOf_any a0 len0 cap0 _ hs0 hb).mono ?_
  rintro e w1 ⟨z, rfl, hb1⟩
  go_wp2_with fail
  refine (codeI_any z _).mono ?_
  rintro e w2 ⟨p, rfl, hp2, hb2⟩
  go_wp2_with fail
  refine (codeS_any z _).mono ?_
  rintro e w3 ⟨q, rfl, hq3, hb3⟩
  have hp3 := hp2.below hb3
  have HB3 : Hid (Below w.heap.size w w3) := hide ((hb1.trans (hb2.mono hb1.size)).trans (hb3.mono (Nat.le_trans hb1.size hb2.size)))
  have hl := Ecc.codR_le z
  clear hp2 hb1 hb2 hb3
  by_cases hz : 0 ≤ z ∧ z ≤ 1000000
  · rw [inR_yes hz.1 hz.2]
    obtain ⟨v, rfl⟩ := Int.eq_ofNat_of_zero_le hz.1
    have hv : v ≤ 1000000 := by omega
    rw [Ecc.codR_yes hv] at hp3 hq3 hl
    clear hz
    go_wp2_with fail
    refine (sameInts_same p q _ _ hp3.sl hq3.sl (by omega)).mono ?_
    rintro e w4 ⟨rfl, hb4⟩
    have hp4 := hp3.below hb4
    have HB4 : Hid (Below w.heap.size w w4) := hide (HB3.out.trans (hb4.mono HB3.out.size))
    clear hp3 hq3 hb4 HB3
    have hr := readI_any p (Ecc.cod v) w4 hp4.sl (by omega)
    rw [(Ecc.rc_cod v hv).1, (Ecc.rc_cod v hv).2] at hr
    obtain ⟨ad, cap, rfl, hcc⟩ := hp4.sl
    have hp5 : Sl (w4.alloc (.cells #[] 2)) (.slice ad (Ecc.cod v).length cap) (Ecc.cod v) := hp4.sl.below ((Below.refl _ _).alloc (Nat.le_refl _) _)
    have HX := hide (And.intro hp4 hcc)
    clear hp4 hcc
    rw [Ecc.cod_len] at hp5 hr ⊢
    have ho5 := Ow.empty_made w4
    have HB5 : Hid (Below w.heap.size w (w4.alloc (.cells #[] 2))) := hide (HB4.out.alloc HB4.out.size _)
    have HS5 : Hid (Below w4.heap.size w4 (w4.alloc (.cells #[] 2))) := hide ((Below.refl _ _).alloc (Nat.le_refl _) _)
    have HS0 := hide hs0
    clear hs0
    obtain ⟨i0, hi, hz0, hz1, hz2⟩ := info_parts Try.info2
    go_wp2_with (go_at_call 25; refine hr.mono ?_; rintro e wq ⟨rfl, rfl⟩)
    clear hr
    go_loopw [10, 11] (fun t i wr => ∃ (k : Nat) (l : List Int), k ≤ 3 ∧ i = .int .i64 k ∧ Ow wr wq.heap.size t l ∧ Below wq.heap.size wq wr ∧ Hid (Ecc.HL v k l)) (fun _ i _ => 3 - (intOf i).toNat)
    case atStart => exact ⟨0, [], by omega, rfl, ho5, HS5.out, hide (Ecc.HL.nil v)⟩
    case round =>
      clear ho5 HS5 HB5 hp5
      obtain ⟨k, l, hk, rfl, hok, hbk, HH⟩ := hrel
      have hle : l.length ≤ 3 := by have := HH.out.1; omega
      by_cases hlt : k < 3
      · have hsz : wq.heap.size ≤ wr.heap.size := hbk.size
        obtain ⟨pb, off, rfl, hcell⟩ : ∃ pb off, ad = some ⟨pb, off, none⟩ ∧ wr.cell? ⟨pb, off + k, none⟩ = some (.int .i64 (Ecc.enc (Ecc.dig v k))) := by
          obtain ⟨pb, off, rfl, hc⟩ := HX.out.2 (by rw [Ecc.cod_len]; omega)
          refine ⟨pb, off, rfl, ?_⟩
          have := Below.keep hbk _ _ (hc k (by rw [Ecc.cod_len]; omega))
          rw [Ecc.cod_get v k hlt] at this
          exact this
        have hel := (Ecc.enc_eq _ (Ecc.dig_lt v k hv)).2
        have HN := hide (fun y hy => HH.out.snoc y hy)
        obtain ⟨x, hx⟩ : ∃ x, Ecc.enc (Ecc.dig v k) = x := ⟨_, rfl⟩
        rw [hx] at hcell hel HN
        clear hx
        have HF := hide (fun y w hy => flipped_any x y w hel hy)
        have HBt : Hid (Bt wr a0 len0) := hide ((HS0.out.below (HB4.out)).below hbk)
        by_cases hc : k < len0
        · obtain ⟨cb, co, ea, hcb⟩ := HBt.out (by omega)
          obtain ⟨c, hc0, hc1, hcc⟩ := hcb k hc
          subst ea
          obtain ⟨y, hy⟩ := Int.eq_ofNat_of_zero_le (show 0 ≤ c % 13 by omega)
          have hy13 : y < 13 := by omega
          have hf := fun w => HF.out y w hy13
          have HNy := hide (HN.out y hy13)
          generalize Ecc.flp x y = f at hf HNy
          go_wp2_with (first | (go_at_call 17; refine (hf _).mono ?_; rintro e w' ⟨rfl, rfl⟩) | (at_builtin; refine wpList_append_own _ rfl _ _ 31 rfl wq.heap.size 2 i0 (.int .i64 0) 1 8 Try.underlying31 hi hz0 hz1 hz2 rfl (by decide) _ _ _ rfl (World.ownsRow.alloc hok _) _ 1 1 [.int .i64 (f : Int)] rfl rfl (cell_one_new _ _ _) (by intro u hu; simp at hu; subst hu; rfl) (by unfold maxLen; omega) (by omega) (by simp; omega) ?_))
          intro v' w8 hown' hgrow _
          have HR := hide (grow_rel rfl hbk hok hown' hgrow)
          clear hown' hgrow hok hbk
          go_wp2
          go_roundw
          case rel => exact ⟨k + 1, _, by omega, by go_num, HR.out.1, HR.out.2, HNy⟩
          case measure => simp [intOf]; omega
        · have hf := fun w => HF.out 0 w (by omega)
          have HNy := hide (HN.out 0 (by omega))
          generalize Ecc.flp x 0 = f at hf HNy
          go_wp2_with (first | (go_at_call 17; refine (hf _).mono ?_; rintro e w' ⟨rfl, rfl⟩) | (at_builtin; refine wpList_append_own _ rfl _ _ 31 rfl wq.heap.size 2 i0 (.int .i64 0) 1 8 Try.underlying31 hi hz0 hz1 hz2 rfl (by decide) _ _ _ rfl (World.ownsRow.alloc hok _) _ 1 1 [.int .i64 (f : Int)] rfl rfl (cell_one_new _ _ _) (by intro u hu; simp at hu; subst hu; rfl) (by unfold maxLen; omega) (by omega) (by simp; omega) ?_))
          intro v' w8 hown' hgrow _
          have HR := hide (grow_rel rfl hbk hok hown' hgrow)
          clear hown' hgrow hok hbk
          go_wp2
          go_roundw
          case rel => exact ⟨k + 1, _, by omega, by go_num, HR.out.1, HR.out.2, HNy⟩
          case measure => simp [intOf]; omega
      · have e : k = 3 := by omega
        subst e
        have hr := readI_any _ l wr hok.sl (by omega)
        rw [(HH.out.read hv).1, (HH.out.read hv).2] at hr
        have HB : Hid (Below w.heap.size w wr) := hide (HB4.out.trans (hbk.mono HB4.out.size))
        clear hok hbk HH hlt hk
        go_wp2_with (go_at_call 25; refine hr.mono ?_; rintro e w9 ⟨rfl, rfl⟩)
        go_ret
        exact ⟨rfl, HB.out⟩
  · rw [inR_no hz]
    rw [Ecc.codR_no hz] at hp3 hq3
    clear hz hl
    have HP := hide (And.intro hp3 hq3)
    clear hp3 hq3
    go_wp2_with fail
    refine (sameInts_same p q _ _ HP.out.1.sl HP.out.2.sl (by simp)).mono ?_
    rintro e w4 ⟨rfl, hb4⟩
    have HP4 := hide (And.intro (HP.out.1.below hb4) (HP.out.2.below hb4))
    have HB4 : Hid (Below w.heap.size w w4) := hide (HB3.out.trans (hb4.mono HB3.out.size))
    clear hb4 HB3 HP
    go_wp2_with fail
    refine (sameInts_same p q _ _ HP4.out.1.sl HP4.out.2.sl (by simp)).mono ?_
    rintro e w5 ⟨rfl, hb5⟩
    have HB5 : Hid (Below w.heap.size w w5) := hide (HB4.out.trans (hb5.mono HB4.out.size))
    clear hb5 HB4 HP4
    go_wp2
    go_ret
    exact ⟨rfl, HB5.out⟩

set_option maxRecDepth 100000 in
theorem lifted (os : Os) (started : os.Started) (H : Type) (enc : TypeId × Value → H) :
    ReturnsInHanded {} Try.checked os 7 .any (Rows.fnCodesSpec.pre6 enc Try.prog Try.f7 Rows.fnCodesRow.domain false) (Rows.fnCodesSpec.post enc Try.prog Try.f7 false true false false) := by
  refine returnsInHanded_of_change (C := Try.checked) own started (by kernel_rfl) Try.func7
    (ChangeSpec.witness6 (enc := enc) (C := Try.checked) false ⟨#[], #[.slice none 0 0], []⟩ 8 (by kernel_rfl) (by kernel_rfl) (by kernel_rfl) (by kernel_rfl)) ?_
  intro W base args ds gs before hval0 hW hcnd _
  have hval : ∀ (j : Nat) t v, Try.f7.params[j]? = some t → args[j]? = some v → Value.okWide Try.prog W .any base t v := hval0
  have hW' := hW
  obtain ⟨p, q, hA0, hV, rfl, hfz, hnd⟩ := hW
  have hA : DataW.TrodAll enc Try.prog W 0 (fun _ => true) true Try.f7.params.toList args.toList ds p := hA0
  rw [Try.params7] at hA hval
  obtain ⟨v0, vs0, d0, ds0, p0, q0, hargs, rfl, rfl, h0, r0⟩ := trodAll_cons hA
  obtain ⟨rfl, rfl, rfl⟩ := trodAll_nil r0
  obtain rfl : args = #[v0] := by cases args; simp_all
  obtain ⟨rfl, rfl⟩ := trodVars_none hV
  obtain ⟨a0, len0, cap0, rfl⟩ := okWide_slice Try.underlying22 (hval 0 22 v0 rfl rfl)
  have k0 := h0
  have lt0 : ∀ x ∈ p0, x.block < W.heap.size := by obtain ⟨m, hm⟩ := k0; exact DataW.trod_lt m _ _ _ hm
  obtain ⟨z0, w0⟩ : ∃ zs, IsRow .u8 W a0 len0 cap0 zs := by
    obtain ⟨fuel, hf⟩ := h0
    rcases open_ints Try.underlying22 Try.underlying5 (by kernel_rfl) hf with ⟨hcs, _⟩ | ⟨x, l, c, zs, hcs, _, hl, hm, hz, _, hcell, hwz⟩
    · simp [Value.cells] at hcs
      obtain ⟨rfl, rfl, rfl⟩ := hcs
      exact ⟨[], .inl ⟨rfl, rfl, rfl, rfl⟩⟩
    · simp [Value.cells] at hcs
      obtain ⟨rfl, rfl, rfl⟩ := hcs
      exact ⟨zs, .inr ⟨_, rfl, hl, hm, by simpa using hz, hcell, hwz⟩⟩
  clear hA0 hval0
  refine (walk a0 len0 cap0 W (row_bt w0)).mono fun e W' ⟨he, bel⟩ => ?_
  subst he
  exact ⟨_, rfl, _, _, _, [], _, [], hW', trodAll_mk1 (shut_bool Try.underlying4 _), (trodAll_cons_mk (Below.trod laidOut (by kernel_rfl) (of_decide_eq_true (by kernel_rfl)) k0 bel lt0) trodAll_mk0), rfl, bel.frame _, fun h => by cases h⟩

theorem over : Rows.fnCodesRow.holds Try.pinned (OpenSpec.ofChange Rows.fnCodesSpec) :=
  OpenClaim.holds_of_wide 7 Try.f7 rfl rfl rfl rfl rfl rfl rfl ⟨rfl, rfl, rfl, rfl, rfl⟩ rfl rfl rfl rfl rfl (by kernel_rfl) Try.func7 (by kernel_rfl)
    (of_decide_eq_true (by kernel_rfl)) (by unfold Func.isWrapper; first | (rw [if_pos (by decide +kernel)]; kernel_rfl) | (rw [if_neg (by decide +kernel)]; exact ⟨rfl, rfl⟩))
    (fun os started H enc _ => lifted os started H enc)

theorem proved : Rows.FnCodesSaid := over
end Go.Proofs.Ytbinjcmfbkhbjab.fnCodes

namespace Go.Proofs.Ytbinjcmfbkhbjab
theorem fnCodes_holds : Rows.FnCodesSaid := fnCodes.proved
end Go.Proofs.Ytbinjcmfbkhbjab
