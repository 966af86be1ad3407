/- Proved: for every slice of bytes, of whatever length, laws.FnCrc16 returns true and leaves its argument as it read. No condition. -/
import Derived.Test.YtbinjcmfbkhbjacRows
import Derived.Test.YtbinjcmfbkhbjacFlR
import Derived.WalkKit
import Derived.ProofKit
import Derived.OpenShut
import Derived.ShutString
import Derived.ChangeOld
import Derived.Below
import Derived.OpenVars
namespace Go.Proofs.Ytbinjcmfbkhbjac.fnCrc16
open Go.ChangeShapes Go.WideShapes Go.ChangeAt Go.WideMaps Go.WideElems Go.RowKit
set_option linter.unusedVariables false
set_option linter.unusedSimpArgs false

theorem own : ownKnob Try.prog.godebug = none := by kernel_rfl
theorem laidOut : laidOutB Try.prog = true := by kernel_rfl

def IsRow (k : IntKind) (w : World) (a : Option Addr) (len cap : Nat) (zs : List Int) : Prop :=
  (a = none ∧ len = 0 ∧ cap = 0 ∧ zs = []) ∨
  ∃ x, a = some x ∧ len ≤ cap ∧ cap ≤ maxLen ∧ zs.length = cap ∧ (∀ i, i < zs.length → w.cell? (x.add i) = some (.int k (zs.getD i 0))) ∧ ∀ n ∈ zs, (Lit.int k n).wf = true

theorem row_bt {w : World} {a : Option Addr} {len cap : Nat} {z : List Int} (h : IsRow .u8 w a len cap z) : Bt w a len := by
  intro h0
  rcases h with ⟨rfl, rfl, rfl, rfl⟩ | ⟨x, rfl, hl, hm, hz, hcell, hwf⟩
  · exact absurd h0 (by simp)
  · obtain ⟨b, off, spot⟩ := x
    have hc := hcell 0 (by omega)
    have hspot : spot = none := by simpa [Addr.add] using World.cell?_spot hc
    subst hspot
    refine ⟨b, off, rfl, fun j hj => ?_⟩
    have hcj := hcell j (by omega)
    rw [addr_add] at hcj
    have hj' : j < z.length := by omega
    have e : z.getD j 0 = z[j] := by simp [hj']
    have hw := bounds_u8 (hwf z[j] (List.getElem_mem hj'))
    exact ⟨z.getD j 0, by rw [e]; exact hw.1, by rw [e]; exact hw.2, hcj⟩

set_option maxHeartbeats 4000000 in
theorem walk (a0 : Option Addr) (len0 cap0 : Nat) (w : World) (hs0 : Bt w a0 len0) :
    Calls Try.prog 7 #[.slice a0 len0 cap0] w fun e w' => e = .returned (.bool true) ∧ Below w.heap.size w w' := by
  by_cases hbig : (1048576 : Int) < (len0 : Int)
  · go_enter Try.func7, Try.ntmps7
    go_wp2
    go_ret
    exact ⟨rfl, Below.refl _ _⟩
  have hb : len0 ≤ 1048576 := by omega
  go_enter Try.func7, Try.ntmps7
  go_wp2_with (first | (go_at_call 20; go_in) | fail)
  refine (drawCrc_any a0 len0 cap0 _ hs0 hb).mono ?_
  rintro e w1 ⟨s, rfl, hs, hb1⟩
  have HB1 := hide hb1
  clear hb1 hs0 hbig hb
  have hi := fun w => implCrc_any s w (by omega)
  have hsp := fun w => specCrc_any s w (by omega)
  have hl := Crc.crc_lt s s.size
  have hz := Crc.self s
  have hi2 := fun w => implCrc_any (s ++ Flit.two (Crc.crc s s.size)) w (by rw [ByteArray.size_append]; show s.size + 2 ≤ 2097152; omega)
  rw [hz] at hi2
  have hk := fun w => implCrc_any ⟨#[49, 50, 51, 52, 53, 54, 55, 56, 57]⟩ w (by show 9 ≤ 2097152; omega)
  have hk2 : Crc.crc ⟨#[49, 50, 51, 52, 53, 54, 55, 56, 57]⟩ (ByteArray.size ⟨#[49, 50, 51, 52, 53, 54, 55, 56, 57]⟩) = 10673 := Crc.known
  rw [hk2] at hk
  have hcv := conv2 w1 (Flit.u8 (Crc.crc s s.size / 256)) (Flit.u8 (Crc.crc s s.size)) ((Crc.crc s s.size : Int) / 256) ((Crc.crc s s.size : Int) % 256) (by rw [Flit.u8_nat]; omega) (by rw [Flit.u8_nat]; omega)
  change _ = Result.ok (Value.string (Flit.two (Crc.crc s s.size))) _ at hcv
  have hadd := add_free s (Flit.two (Crc.crc s s.size)) (by show s.size + 2 ≤ 1000; omega)
  clear hz hk2
  generalize s ++ Flit.two (Crc.crc s s.size) = st at hi2 hadd
  generalize Flit.two (Crc.crc s s.size) = tw at hcv hadd
  generalize Crc.crc s s.size = c at hi hsp hl hcv
  obtain ⟨C, hC⟩ : ∃ C : Int, (c : Int) = C := ⟨_, rfl⟩
  rw [hC] at hi hsp hcv
  have h0 : 0 ≤ C := by omega
  have h1 : C < 65536 := by omega
  clear hC hl
  have HB2 : Hid (Below w.heap.size w (w1.alloc (.cells #[.int .u8 (C / 256), .int .u8 (C % 256)] 5))) := hide (HB1.out.alloc HB1.out.size _)
  go_wp2_with fail
  refine (hi _).mono ?_
  rintro e w2 ⟨rfl, rfl⟩
  go_wp2_with fail
  refine (hsp _).mono ?_
  rintro e w3 ⟨rfl, rfl⟩
  go_wp2_with fail
  refine (hi2 _).mono ?_
  rintro e w4 ⟨rfl, h4⟩
  subst h4
  go_wp2_with fail
  refine (hk _).mono ?_
  rintro e w5 ⟨rfl, h5⟩
  subst h5
  go_wp2
  go_ret
  exact ⟨rfl, HB2.out⟩

set_option maxRecDepth 100000 in
theorem lifted (os : Os) (started : os.Started) (H : Type) (enc : TypeId × Value → H) :
    ReturnsInHanded {} Try.checked os 7 .any (Rows.fnCrc16Spec.pre6 enc Try.prog Try.f7 Rows.fnCrc16Row.domain false) (Rows.fnCrc16Spec.post enc Try.prog Try.f7 false true false false) := by
  refine returnsInHanded_of_change (C := Try.checked) own started (by kernel_rfl) Try.func7
    (ChangeSpec.witness6 (enc := enc) (C := Try.checked) false ⟨#[], #[.slice none 0 0], []⟩ 8 (by kernel_rfl) (by kernel_rfl) (by kernel_rfl) (by kernel_rfl)) ?_
  intro W base args ds gs before hval0 hW hcnd _
  have hval : ∀ (j : Nat) t v, Try.f7.params[j]? = some t → args[j]? = some v → Value.okWide Try.prog W .any base t v := hval0
  have hW' := hW
  obtain ⟨p, q, hA0, hV, rfl, hfz, hnd⟩ := hW
  have hA : DataW.TrodAll enc Try.prog W 0 (fun _ => true) true Try.f7.params.toList args.toList ds p := hA0
  rw [Try.params7] at hA hval
  obtain ⟨v0, vs0, d0, ds0, p0, q0, hargs, rfl, rfl, h0, r0⟩ := trodAll_cons hA
  obtain ⟨rfl, rfl, rfl⟩ := trodAll_nil r0
  obtain rfl : args = #[v0] := by cases args; simp_all
  obtain ⟨rfl, rfl⟩ := trodVars_none hV
  obtain ⟨a0, len0, cap0, rfl⟩ := okWide_slice Try.underlying35 (hval 0 35 v0 rfl rfl)
  have k0 := h0
  have lt0 : ∀ x ∈ p0, x.block < W.heap.size := by obtain ⟨m, hm⟩ := k0; exact DataW.trod_lt m _ _ _ hm
  obtain ⟨z0, w0⟩ : ∃ zs, IsRow .u8 W a0 len0 cap0 zs := by
    obtain ⟨fuel, hf⟩ := h0
    rcases open_ints Try.underlying35 Try.underlying5 (by kernel_rfl) hf with ⟨hcs, _⟩ | ⟨x, l, c, zs, hcs, _, hl, hm, hz, _, hcell, hwz⟩
    · simp [Value.cells] at hcs
      obtain ⟨rfl, rfl, rfl⟩ := hcs
      exact ⟨[], .inl ⟨rfl, rfl, rfl, rfl⟩⟩
    · simp [Value.cells] at hcs
      obtain ⟨rfl, rfl, rfl⟩ := hcs
      exact ⟨zs, .inr ⟨_, rfl, hl, hm, by simpa using hz, hcell, hwz⟩⟩
  clear hA0 hval0
  refine (walk a0 len0 cap0 W (row_bt w0)).mono fun e W' ⟨he, bel⟩ => ?_
  subst he
  exact ⟨_, rfl, _, _, _, [], _, [], hW', trodAll_mk1 (shut_bool Try.underlying4 _), (trodAll_cons_mk (Below.trod laidOut (by kernel_rfl) (of_decide_eq_true (by kernel_rfl)) k0 bel lt0) trodAll_mk0), rfl, bel.frame _, fun h => by cases h⟩

theorem over : Rows.fnCrc16Row.holds Try.pinned (OpenSpec.ofChange Rows.fnCrc16Spec) :=
  OpenClaim.holds_of_wide 7 Try.f7 rfl rfl rfl rfl rfl rfl rfl ⟨rfl, rfl, rfl, rfl, rfl⟩ rfl rfl rfl rfl rfl (by kernel_rfl) Try.func7 (by kernel_rfl)
    (of_decide_eq_true (by kernel_rfl)) (by unfold Func.isWrapper; first | (rw [if_pos (by decide +kernel)]; kernel_rfl) | (rw [if_neg (by decide +kernel)]; exact ⟨rfl, rfl⟩))
    (fun os started H enc _ => lifted os started H enc)

theorem proved : Rows.FnCrc16Said := over
end Go.Proofs.Ytbinjcmfbkhbjac.fnCrc16

namespace Go.Proofs.Ytbinjcmfbkhbjac
theorem fnCrc16_holds : Rows.FnCrc16Said := fnCrc16.proved
end Go.Proofs.Ytbinjcmfbkhbjac
