/- Proved: for every slice of bytes, of whatever length, laws.FnOneBit returns true and leaves its argument as it read. No condition. -/
import Derived.Test.YtbinjcmfbkhbjadRows
import Derived.Test.YtbinjcmfbkhbjadFlS
import Derived.Test.YtbinjcmfbkhbjadFlT
import Derived.WalkKit
import Derived.ProofKit
import Derived.OpenShut
import Derived.ShutString
import Derived.ChangeOld
import Derived.Below
import Derived.OpenVars
namespace Go.Proofs.Ytbinjcmfbkhbjad.fnOneBit
open Go.ChangeShapes Go.WideShapes Go.ChangeAt Go.WideMaps Go.WideElems Go.RowKit
set_option linter.unusedVariables false
set_option linter.unusedSimpArgs false

theorem own : ownKnob Try.prog.godebug = none := by kernel_rfl
theorem laidOut : laidOutB Try.prog = true := by kernel_rfl

def IsRow (k : IntKind) (w : World) (a : Option Addr) (len cap : Nat) (zs : List Int) : Prop :=
  (a = none ∧ len = 0 ∧ cap = 0 ∧ zs = []) ∨
  ∃ x, a = some x ∧ len ≤ cap ∧ cap ≤ maxLen ∧ zs.length = cap ∧ (∀ i, i < zs.length → w.cell? (x.add i) = some (.int k (zs.getD i 0))) ∧ ∀ n ∈ zs, (Lit.int k n).wf = true

theorem row_bt {w : World} {a : Option Addr} {len cap : Nat} {z : List Int} (h : IsRow .u8 w a len cap z) : Bt w a len := by
  intro h0
  rcases h with ⟨rfl, rfl, rfl, rfl⟩ | ⟨x, rfl, hl, hm, hz, hcell, hwf⟩
  · exact absurd h0 (by simp)
  · obtain ⟨b, off, spot⟩ := x
    have hc := hcell 0 (by omega)
    have hspot : spot = none := by simpa [Addr.add] using World.cell?_spot hc
    subst hspot
    refine ⟨b, off, rfl, fun j hj => ?_⟩
    have hcj := hcell j (by omega)
    rw [addr_add] at hcj
    have hj' : j < z.length := by omega
    have e : z.getD j 0 = z[j] := by simp [hj']
    have hw := bounds_u8 (hwf z[j] (List.getElem_mem hj'))
    exact ⟨z.getD j 0, by rw [e]; exact hw.1, by rw [e]; exact hw.2, hcj⟩

theorem notEmpty {s : ByteArray} (h : ¬ s.size = 0) : s.toList.isEmpty = false := by
  rw [empty_eq]; exact decide_eq_false h

set_option maxHeartbeats 4000000 in
theorem walk (a0 : Option Addr) (len0 cap0 : Nat) (w : World) (hs0 : Bt w a0 len0) :
    Calls Try.prog 3 #[.slice a0 len0 cap0] w fun e w' => e = .returned (.bool true) ∧ Below w.heap.size w w' := by
  by_cases hbig : (1048576 : Int) < (len0 : Int)
  · go_enter Try.func3, Try.ntmps3
    go_wp2
    go_ret
    exact ⟨rfl, Below.refl _ _⟩
  have hb : len0 ≤ 1048576 := by omega
  go_enter Try.func3, Try.ntmps3
  go_wp2_with (first | (go_at_call 4; go_in) | fail)
  refine (drawFlit_any a0 len0 cap0 _ hs0 hb).mono ?_
  rintro e w1 ⟨k, q, b, rfl, hb9, hb1⟩
  have HB1 := hide hb1
  clear hb1 hs0 hbig hb
  have h1 := argI_start w1 k q b
  have hi := fun w => implText_any k q b w
  have hsp := fun w => specText_any k q b w
  have HSUM := hide (fun h => Flit.txt_sum k q b h)
  have hsz : (Flit.txt k q b).size ≤ 16 := by
    unfold Flit.txt
    split
    · rw [Flit.text_size]; omega
    · show 0 ≤ 16; omega
  generalize Flit.txt k q b = s at hi hsp HSUM hsz
  go_wp2_with fail
  refine (hi _).mono ?_
  rintro e w2 ⟨rfl, hb2⟩
  have h2 := argI_next h1 hb2
  clear h1 hb2
  obtain ⟨_, _, c1, c2, c3⟩ := id h2
  go_wp2_with fail
  refine (hsp _).mono ?_
  rintro e w3 ⟨rfl, hb3⟩
  have h3 := argI_next h2 hb3
  have HB3 : Hid (Below w.heap.size w w3) := hide (HB1.out.trans (h3.1.mono HB1.out.size))
  clear h2 hb3 c1 c2 c3
  by_cases h0 : s.size = 0
  · obtain ⟨_, _, c1, c2, c3⟩ := id h3
    have e0 : s.toList.isEmpty = true := by rw [empty_eq]; exact decide_eq_true h0
    go_wp2_with fail
    refine (hsp _).mono ?_
    rintro e w4 ⟨rfl, hb4⟩
    have HB4 : Hid (Below w.heap.size w w4) := hide (HB3.out.trans (hb4.mono HB3.out.size))
    clear hb4 c1 c2 c3 h3
    go_wp2
    go_ret
    exact ⟨rfl, HB4.out⟩
  · have e0 := notEmpty h0
    have hsum := HSUM.out h0
    have HS := hide (And.intro h0 hsum)
    clear h3 h0 hsum HSUM HB1
    go_wp2
    go_loopw [5] (fun i wr => ∃ j : Nat, j ≤ s.size ∧ i = .int .i64 j ∧ Below w.heap.size w wr) (fun i _ => s.size - (intOf i).toNat)
    case atStart => exact ⟨0, by omega, rfl, HB3.out⟩
    case round =>
      clear HB3
      obtain ⟨j, hj, rfl, hbj⟩ := hrel
      have HBj := hide hbj
      clear hbj
      by_cases hlj : j < s.size
      · go_wp2
        go_loopw [6] (fun i wr2 => ∃ m : Nat, m ≤ 8 ∧ i = .int .i64 m ∧ Below w.heap.size w wr2) (fun i _ => 8 - (intOf i).toNat)
        case atStart => exact ⟨0, by omega, rfl, HBj.out⟩
        case round =>
          clear HBj
          obtain ⟨m, hm, rfl, hbm⟩ := hrel
          have HBm := hide hbm
          clear hbm
          by_cases hlm : m < 8
          · obtain ⟨cap, W, hcv, hbW, hrow⟩ := bytes_new wr s
            obtain ⟨fz, hc⟩ := hrow.facts j hlj
            have HBW : Hid (Below w.heap.size w W) := hide (HBm.out.trans (hbW.mono HBm.out.size))
            have hal := Crc.at_lt s j
            have hpm : 2 ^ m < 256 := Nat.pow_lt_pow_of_lt (m := 8) (by decide) hlm
            have HX : bits BinOp.xor IntKind.u8 (Crc.at' s j : Int) ((2 : Int) ^ m % 256) = ((Crc.at' s j ^^^ 2 ^ m : Nat) : Int) := by
              have e : (2 : Int) ^ m % 256 = ((2 ^ m : Nat) : Int) := by
                have e1 : (2 : Int) ^ m = ((2 ^ m : Nat) : Int) := by simp
                rw [e1]
                generalize 2 ^ m = y at hpm
                omega
              rw [e]
              exact u8_xor_nat _ _ hal hpm
            have hxl : Crc.at' s j ^^^ 2 ^ m < 256 := Nat.xor_lt_two_pow (n := 8) hal hpm
            have hrd := Flit.one_byte s HS.out.2 j _ hlj hxl (Flit.bit_ne (Crc.at' s j) m)
            have hback := (hrow.set j _ hlj hxl).back cap
            rw [setB_size, ← HX] at hback
            have hrf := fun w => implRead_any (setB s j (Crc.at' s j ^^^ 2 ^ m)) w (by rw [setB_size]; omega)
            rw [hrd, (Flit.rd_no hrd).1, (Flit.rd_no hrd).2.1, (Flit.rd_no hrd).2.2] at hrf
            generalize setB s j (Crc.at' s j ^^^ 2 ^ m) = s2 at hback hrf
            have HBS : Hid (∀ v, Below w.heap.size w (W.setCell ⟨wr.heap.size, j, none⟩ v)) := hide (fun v => HBW.out.setCell HBm.out.size _)
            clear hrd hxl HX hal hpm hrow hbW
            go_wp2_with fail
            refine (hrf _).mono ?_
            rintro e w5 ⟨rfl, hb5⟩
            have HB5 : Hid (Below w.heap.size w w5) := hide ((HBS.out _).trans (hb5.mono (HBS.out _).size))
            have HB6 : Hid (Below w.heap.size w (w5.alloc (.cells #[.int .i64 0, .int .i64 0, .string ⟨#[]⟩] 25))) := hide (HB5.out.alloc HB5.out.size _)
            clear hb5
            go_wp2
            go_roundw
            case rel => exact ⟨m + 1, by omega, by go_num, HB6.out⟩
            case measure => simp [intOf]; omega
          · go_wp2
            go_roundw
            case rel => exact ⟨j + 1, by omega, by go_num, HBm.out⟩
            case measure => simp [intOf]; omega
      · go_wp2
        go_ret
        exact ⟨rfl, HBj.out⟩

set_option maxRecDepth 100000 in
theorem lifted (os : Os) (started : os.Started) (H : Type) (enc : TypeId × Value → H) :
    ReturnsInHanded {} Try.checked os 3 .any (Rows.fnOneBitSpec.pre6 enc Try.prog Try.f3 Rows.fnOneBitRow.domain false) (Rows.fnOneBitSpec.post enc Try.prog Try.f3 false true false false) := by
  refine returnsInHanded_of_change (C := Try.checked) own started (by kernel_rfl) Try.func3
    (ChangeSpec.witness6 (enc := enc) (C := Try.checked) false ⟨#[], #[.slice none 0 0], []⟩ 8 (by kernel_rfl) (by kernel_rfl) (by kernel_rfl) (by kernel_rfl)) ?_
  intro W base args ds gs before hval0 hW hcnd _
  have hval : ∀ (j : Nat) t v, Try.f3.params[j]? = some t → args[j]? = some v → Value.okWide Try.prog W .any base t v := hval0
  have hW' := hW
  obtain ⟨p, q, hA0, hV, rfl, hfz, hnd⟩ := hW
  have hA : DataW.TrodAll enc Try.prog W 0 (fun _ => true) true Try.f3.params.toList args.toList ds p := hA0
  rw [Try.params3] at hA hval
  obtain ⟨v0, vs0, d0, ds0, p0, q0, hargs, rfl, rfl, h0, r0⟩ := trodAll_cons hA
  obtain ⟨rfl, rfl, rfl⟩ := trodAll_nil r0
  obtain rfl : args = #[v0] := by cases args; simp_all
  obtain ⟨rfl, rfl⟩ := trodVars_none hV
  obtain ⟨a0, len0, cap0, rfl⟩ := okWide_slice Try.underlying22 (hval 0 22 v0 rfl rfl)
  have k0 := h0
  have lt0 : ∀ x ∈ p0, x.block < W.heap.size := by obtain ⟨m, hm⟩ := k0; exact DataW.trod_lt m _ _ _ hm
  obtain ⟨z0, w0⟩ : ∃ zs, IsRow .u8 W a0 len0 cap0 zs := by
    obtain ⟨fuel, hf⟩ := h0
    rcases open_ints Try.underlying22 Try.underlying5 (by kernel_rfl) hf with ⟨hcs, _⟩ | ⟨x, l, c, zs, hcs, _, hl, hm, hz, _, hcell, hwz⟩
    · simp [Value.cells] at hcs
      obtain ⟨rfl, rfl, rfl⟩ := hcs
      exact ⟨[], .inl ⟨rfl, rfl, rfl, rfl⟩⟩
    · simp [Value.cells] at hcs
      obtain ⟨rfl, rfl, rfl⟩ := hcs
      exact ⟨zs, .inr ⟨_, rfl, hl, hm, by simpa using hz, hcell, hwz⟩⟩
  clear hA0 hval0
  refine (walk a0 len0 cap0 W (row_bt w0)).mono fun e W' ⟨he, bel⟩ => ?_
  subst he
  exact ⟨_, rfl, _, _, _, [], _, [], hW', trodAll_mk1 (shut_bool Try.underlying4 _), (trodAll_cons_mk (Below.trod laidOut (by kernel_rfl) (of_decide_eq_true (by kernel_rfl)) k0 bel lt0) trodAll_mk0), rfl, bel.frame _, fun h => by cases h⟩

theorem over : Rows.fnOneBitRow.holds Try.pinned (OpenSpec.ofChange Rows.fnOneBitSpec) :=
  OpenClaim.holds_of_wide 3 Try.f3 rfl rfl rfl rfl rfl rfl rfl ⟨rfl, rfl, rfl, rfl, rfl⟩ rfl rfl rfl rfl rfl (by kernel_rfl) Try.func3 (by kernel_rfl)
    (of_decide_eq_true (by kernel_rfl)) (by unfold Func.isWrapper; first | (rw [if_pos (by decide +kernel)]; kernel_rfl) | (rw [if_neg (by decide +kernel)]; exact ⟨rfl, rfl⟩))
    (fun os started H enc _ => lifted os started H enc)

theorem proved : Rows.FnOneBitSaid := over
end Go.Proofs.Ytbinjcmfbkhbjad.fnOneBit

namespace Go.Proofs.Ytbinjcmfbkhbjad
theorem fnOneBit_holds : Rows.FnOneBitSaid := fnOneBit.proved
end Go.Proofs.Ytbinjcmfbkhbjad
