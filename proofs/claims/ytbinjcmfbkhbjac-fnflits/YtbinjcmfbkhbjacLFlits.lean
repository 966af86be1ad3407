/- Proved: for every slice of bytes, of whatever length, laws.FnFlits returns true and leaves its argument as it read. No condition. -/
import Derived.Test.YtbinjcmfbkhbjacRows
import Derived.Test.YtbinjcmfbkhbjacFlV
import Derived.Test.YtbinjcmfbkhbjacFlU
import Derived.WalkKit
import Derived.ProofKit
import Derived.OpenShut
import Derived.ShutString
import Derived.ChangeOld
import Derived.Below
import Derived.OpenVars
namespace Go.Proofs.Ytbinjcmfbkhbjac.fnFlits
open Go.ChangeShapes Go.WideShapes Go.ChangeAt Go.WideMaps Go.WideElems Go.RowKit
set_option linter.unusedVariables false
set_option linter.unusedSimpArgs false

theorem own : ownKnob Try.prog.godebug = none := by kernel_rfl
theorem laidOut : laidOutB Try.prog = true := by kernel_rfl

def IsRow (k : IntKind) (w : World) (a : Option Addr) (len cap : Nat) (zs : List Int) : Prop :=
  (a = none ∧ len = 0 ∧ cap = 0 ∧ zs = []) ∨
  ∃ x, a = some x ∧ len ≤ cap ∧ cap ≤ maxLen ∧ zs.length = cap ∧ (∀ i, i < zs.length → w.cell? (x.add i) = some (.int k (zs.getD i 0))) ∧ ∀ n ∈ zs, (Lit.int k n).wf = true

theorem row_bt {w : World} {a : Option Addr} {len cap : Nat} {z : List Int} (h : IsRow .u8 w a len cap z) : Bt w a len := by
  intro h0
  rcases h with ⟨rfl, rfl, rfl, rfl⟩ | ⟨x, rfl, hl, hm, hz, hcell, hwf⟩
  · exact absurd h0 (by simp)
  · obtain ⟨b, off, spot⟩ := x
    have hc := hcell 0 (by omega)
    have hspot : spot = none := by simpa [Addr.add] using World.cell?_spot hc
    subst hspot
    refine ⟨b, off, rfl, fun j hj => ?_⟩
    have hcj := hcell j (by omega)
    rw [addr_add] at hcj
    have hj' : j < z.length := by omega
    have e : z.getD j 0 = z[j] := by simp [hj']
    have hw := bounds_u8 (hwf z[j] (List.getElem_mem hj'))
    exact ⟨z.getD j 0, by rw [e]; exact hw.1, by rw [e]; exact hw.2, hcj⟩

theorem argI_drew {w0 w : World} {k s : Int} {b : ByteArray} (h : ArgI w0 w k s b) : ArgI w0 w.drew k s b := argI_next h ((Below.refl _ _).drew)

set_option maxHeartbeats 4000000 in
theorem walk (a0 : Option Addr) (len0 cap0 : Nat) (w : World) (hs0 : Bt w a0 len0) :
    Calls Try.prog 8 #[.slice a0 len0 cap0] w fun e w' => e = .returned (.bool true) ∧ Below w.heap.size w w' := by
  by_cases hbig : (1048576 : Int) < (len0 : Int)
  · go_enter Try.func8, Try.ntmps8
    go_wp2
    go_ret
    exact ⟨rfl, Below.refl _ _⟩
  have hb : len0 ≤ 1048576 := by omega
  go_enter Try.func8, Try.ntmps8
  go_wp2_with (first | (go_at_call 20; go_in) | fail)
  refine (drawFlit_any a0 len0 cap0 _ hs0 hb).mono ?_
  rintro e w1 ⟨k, q, b, rfl, hb9, hb1⟩
  have HB1 := hide hb1
  have HS1 := hide (hs0.below hb1)
  clear hb1 hs0 hbig
  have ha := argI_start w1 k q b
  have hi := fun w => implText_any k q b w
  have hsp := fun w => specText_any k q b w
  have hok := fun w => implFlitOk_any k q b w
  have hos := fun w => specFlitOk_any k q b w
  have HBK := hide (fun h => Flit.back k q b h)
  have HNO := hide (fun h => Flit.none_back k q b h)
  have hsz : (Flit.txt k q b).size ≤ 16 := by
    unfold Flit.txt
    split
    · rw [Flit.text_size]; omega
    · show 0 ≤ 16; omega
  have hrd := fun w => implRead_any (Flit.txt k q b) w (by omega)
  go_wp2_with fail
  refine (hi _).mono ?_
  rintro e w2 ⟨rfl, hb2⟩
  replace ha := argI_next ha hb2
  clear hb2
  go_wp2_with fail
  refine (hrd _).mono ?_
  rintro e w3 ⟨rfl, hb3⟩
  replace ha := argI_next ha hb3
  clear hb3 hrd
  cases hr : Flit.ok k q b
  · have e0 := HNO.out hr
    obtain ⟨e1, e2, e3⟩ := Flit.rd_no e0
    rw [e0, e1, e2, e3]
    rw [hr] at hok hos
    clear e0 e1 e2 e3 hr HBK HNO hi
    generalize Flit.txt k q b = s at hsp hsz
    have hg := argI_start w3 0 0 ⟨#[]⟩
    replace ha := argI_alloc ha (.cells #[.int .i64 0, .int .i64 0, .string ⟨#[]⟩] 28)
    obtain ⟨_, _, c1, c2, c3⟩ := id ha
    obtain ⟨_, _, d1, d2, d3⟩ := id hg
    go_wp2
    go_region_with (first | (go_at_call 15; refine (hsp _).mono ?_; rintro e w4 ⟨rfl, hb⟩; (first | (replace ha := argI_next ha hb; replace hg := argI_next hg hb) | (replace ha := argI_next (argI_drew ha) hb; replace hg := argI_next (argI_drew hg) hb)); clear hb; clear c1 c2 c3 d1 d2 d3; obtain ⟨_, _, c1, c2, c3⟩ := id ha; obtain ⟨_, _, d1, d2, d3⟩ := id hg) | (go_at_call 14; refine (hok _).mono ?_; rintro e w4 ⟨rfl, hb⟩; (first | (replace ha := argI_next ha hb; replace hg := argI_next hg hb) | (replace ha := argI_next (argI_drew ha) hb; replace hg := argI_next (argI_drew hg) hb)); clear hb; clear c1 c2 c3 d1 d2 d3; obtain ⟨_, _, c1, c2, c3⟩ := id ha; obtain ⟨_, _, d1, d2, d3⟩ := id hg) | (go_at_call 12; refine (hos _).mono ?_; rintro e w4 ⟨rfl, hb⟩; (first | (replace ha := argI_next ha hb; replace hg := argI_next hg hb) | (replace ha := argI_next (argI_drew ha) hb; replace hg := argI_next (argI_drew hg) hb)); clear hb; clear c1 c2 c3 d1 d2 d3; obtain ⟨_, _, c1, c2, c3⟩ := id ha; obtain ⟨_, _, d1, d2, d3⟩ := id hg))
    all_goals go_wp2_with fail
    all_goals refine (drawReadFlit_any a0 len0 cap0 _ (by first | exact HS1.out.below ha.1 | exact HS1.out.below (argI_drew ha).1) hb).mono ?_
    all_goals rintro e w5 ⟨t, rfl, ht, hb5⟩
    all_goals have HB5 : Hid (Below w.heap.size w w5) := hide (by first | exact HB1.out.trans ((argI_next ha hb5).1.mono HB1.out.size) | exact HB1.out.trans ((argI_next (argI_drew ha) hb5).1.mono HB1.out.size))
    all_goals clear hb5 c1 c2 c3 d1 d2 d3 hsp hok hos
    all_goals have hri := fun w => implRead_any t w (by omega)
    all_goals have hrs := fun w => specRead_any t w (by omega)
    all_goals have htx := fun w => implText_any (Flit.rK t) (Flit.rS t) (Flit.rB t) w
    all_goals have HAG := hide (fun h => Flit.again t h)
    all_goals generalize Flit.rK t = k2 at hri hrs htx HAG
    all_goals generalize Flit.rS t = q2 at hri hrs htx HAG
    all_goals generalize Flit.rB t = b2 at hri hrs htx HAG
    all_goals go_wp2_with fail
    all_goals refine (hri _).mono ?_
    all_goals rintro e w6 ⟨rfl, hb6⟩
    all_goals have h6 := argI_start w6 k2 q2 b2
    all_goals have HB6 : Hid (Below w.heap.size w w6) := hide (HB5.out.trans (hb6.mono HB5.out.size))
    all_goals clear hb6 HB5
    all_goals go_wp2_with fail
    all_goals refine (hrs _).mono ?_
    all_goals rintro e w7 ⟨rfl, hb7⟩
    all_goals have h7 := argI_alloc (argI_next h6 hb7) (.cells #[.int .i64 k2, .int .i64 q2, .string b2] 28)
    all_goals clear h6 hb7 hri hrs
    all_goals obtain ⟨_, _, c1, c2, c3⟩ := id h7
    all_goals cases hrr : Flit.rd t
    all_goals first
      | (rw [HAG.out hrr] at htx
         go_wp2_with fail
         refine (htx _).mono ?_
         rintro e w8 ⟨rfl, hb8⟩
         have HB8 : Hid (Below w.heap.size w w8) := hide (HB6.out.trans ((argI_next h7 hb8).1.mono HB6.out.size))
         clear hb8 h7 c1 c2 c3
         go_wp2
         go_ret
         exact ⟨rfl, HB8.out⟩)
      | (have HB7 : Hid (Below w.heap.size w (w7.alloc (.cells #[.int .i64 k2, .int .i64 q2, .string b2] 28))) := hide (HB6.out.trans (h7.1.mono HB6.out.size))
         clear h7 c1 c2 c3 htx
         go_wp2
         go_ret
         exact ⟨rfl, HB7.out⟩)
  · obtain ⟨e1, e2, e3, e4⟩ := HBK.out hr
    rw [e1, e2, e3, e4]
    rw [hr] at hok hos
    clear e1 e2 e3 e4 hr HBK HNO hi
    generalize Flit.txt k q b = s at hsp hsz
    have hg := argI_start w3 k q b
    replace ha := argI_alloc ha (.cells #[.int .i64 k, .int .i64 q, .string b] 28)
    obtain ⟨_, _, c1, c2, c3⟩ := id ha
    obtain ⟨_, _, d1, d2, d3⟩ := id hg
    go_wp2
    go_region_with (first | (go_at_call 15; refine (hsp _).mono ?_; rintro e w4 ⟨rfl, hb⟩; (first | (replace ha := argI_next ha hb; replace hg := argI_next hg hb) | (replace ha := argI_next (argI_drew ha) hb; replace hg := argI_next (argI_drew hg) hb)); clear hb; clear c1 c2 c3 d1 d2 d3; obtain ⟨_, _, c1, c2, c3⟩ := id ha; obtain ⟨_, _, d1, d2, d3⟩ := id hg) | (go_at_call 14; refine (hok _).mono ?_; rintro e w4 ⟨rfl, hb⟩; (first | (replace ha := argI_next ha hb; replace hg := argI_next hg hb) | (replace ha := argI_next (argI_drew ha) hb; replace hg := argI_next (argI_drew hg) hb)); clear hb; clear c1 c2 c3 d1 d2 d3; obtain ⟨_, _, c1, c2, c3⟩ := id ha; obtain ⟨_, _, d1, d2, d3⟩ := id hg) | (go_at_call 12; refine (hos _).mono ?_; rintro e w4 ⟨rfl, hb⟩; (first | (replace ha := argI_next ha hb; replace hg := argI_next hg hb) | (replace ha := argI_next (argI_drew ha) hb; replace hg := argI_next (argI_drew hg) hb)); clear hb; clear c1 c2 c3 d1 d2 d3; obtain ⟨_, _, c1, c2, c3⟩ := id ha; obtain ⟨_, _, d1, d2, d3⟩ := id hg))
    all_goals go_wp2_with fail
    all_goals refine (drawReadFlit_any a0 len0 cap0 _ (by first | exact HS1.out.below ha.1 | exact HS1.out.below (argI_drew ha).1) hb).mono ?_
    all_goals rintro e w5 ⟨t, rfl, ht, hb5⟩
    all_goals have HB5 : Hid (Below w.heap.size w w5) := hide (by first | exact HB1.out.trans ((argI_next ha hb5).1.mono HB1.out.size) | exact HB1.out.trans ((argI_next (argI_drew ha) hb5).1.mono HB1.out.size))
    all_goals clear hb5 c1 c2 c3 d1 d2 d3 hsp hok hos
    all_goals have hri := fun w => implRead_any t w (by omega)
    all_goals have hrs := fun w => specRead_any t w (by omega)
    all_goals have htx := fun w => implText_any (Flit.rK t) (Flit.rS t) (Flit.rB t) w
    all_goals have HAG := hide (fun h => Flit.again t h)
    all_goals generalize Flit.rK t = k2 at hri hrs htx HAG
    all_goals generalize Flit.rS t = q2 at hri hrs htx HAG
    all_goals generalize Flit.rB t = b2 at hri hrs htx HAG
    all_goals go_wp2_with fail
    all_goals refine (hri _).mono ?_
    all_goals rintro e w6 ⟨rfl, hb6⟩
    all_goals have h6 := argI_start w6 k2 q2 b2
    all_goals have HB6 : Hid (Below w.heap.size w w6) := hide (HB5.out.trans (hb6.mono HB5.out.size))
    all_goals clear hb6 HB5
    all_goals go_wp2_with fail
    all_goals refine (hrs _).mono ?_
    all_goals rintro e w7 ⟨rfl, hb7⟩
    all_goals have h7 := argI_alloc (argI_next h6 hb7) (.cells #[.int .i64 k2, .int .i64 q2, .string b2] 28)
    all_goals clear h6 hb7 hri hrs
    all_goals obtain ⟨_, _, c1, c2, c3⟩ := id h7
    all_goals cases hrr : Flit.rd t
    all_goals first
      | (rw [HAG.out hrr] at htx
         go_wp2_with fail
         refine (htx _).mono ?_
         rintro e w8 ⟨rfl, hb8⟩
         have HB8 : Hid (Below w.heap.size w w8) := hide (HB6.out.trans ((argI_next h7 hb8).1.mono HB6.out.size))
         clear hb8 h7 c1 c2 c3
         go_wp2
         go_ret
         exact ⟨rfl, HB8.out⟩)
      | (have HB7 : Hid (Below w.heap.size w (w7.alloc (.cells #[.int .i64 k2, .int .i64 q2, .string b2] 28))) := hide (HB6.out.trans (h7.1.mono HB6.out.size))
         clear h7 c1 c2 c3 htx
         go_wp2
         go_ret
         exact ⟨rfl, HB7.out⟩)

set_option maxRecDepth 100000 in
theorem lifted (os : Os) (started : os.Started) (H : Type) (enc : TypeId × Value → H) :
    ReturnsInHanded {} Try.checked os 8 .any (Rows.fnFlitsSpec.pre6 enc Try.prog Try.f8 Rows.fnFlitsRow.domain false) (Rows.fnFlitsSpec.post enc Try.prog Try.f8 false true false false) := by
  refine returnsInHanded_of_change (C := Try.checked) own started (by kernel_rfl) Try.func8
    (ChangeSpec.witness6 (enc := enc) (C := Try.checked) false ⟨#[], #[.slice none 0 0], []⟩ 8 (by kernel_rfl) (by kernel_rfl) (by kernel_rfl) (by kernel_rfl)) ?_
  intro W base args ds gs before hval0 hW hcnd _
  have hval : ∀ (j : Nat) t v, Try.f8.params[j]? = some t → args[j]? = some v → Value.okWide Try.prog W .any base t v := hval0
  have hW' := hW
  obtain ⟨p, q, hA0, hV, rfl, hfz, hnd⟩ := hW
  have hA : DataW.TrodAll enc Try.prog W 0 (fun _ => true) true Try.f8.params.toList args.toList ds p := hA0
  rw [Try.params8] at hA hval
  obtain ⟨v0, vs0, d0, ds0, p0, q0, hargs, rfl, rfl, h0, r0⟩ := trodAll_cons hA
  obtain ⟨rfl, rfl, rfl⟩ := trodAll_nil r0
  obtain rfl : args = #[v0] := by cases args; simp_all
  obtain ⟨rfl, rfl⟩ := trodVars_none hV
  obtain ⟨a0, len0, cap0, rfl⟩ := okWide_slice Try.underlying35 (hval 0 35 v0 rfl rfl)
  have k0 := h0
  have lt0 : ∀ x ∈ p0, x.block < W.heap.size := by obtain ⟨m, hm⟩ := k0; exact DataW.trod_lt m _ _ _ hm
  obtain ⟨z0, w0⟩ : ∃ zs, IsRow .u8 W a0 len0 cap0 zs := by
    obtain ⟨fuel, hf⟩ := h0
    rcases open_ints Try.underlying35 Try.underlying5 (by kernel_rfl) hf with ⟨hcs, _⟩ | ⟨x, l, c, zs, hcs, _, hl, hm, hz, _, hcell, hwz⟩
    · simp [Value.cells] at hcs
      obtain ⟨rfl, rfl, rfl⟩ := hcs
      exact ⟨[], .inl ⟨rfl, rfl, rfl, rfl⟩⟩
    · simp [Value.cells] at hcs
      obtain ⟨rfl, rfl, rfl⟩ := hcs
      exact ⟨zs, .inr ⟨_, rfl, hl, hm, by simpa using hz, hcell, hwz⟩⟩
  clear hA0 hval0
  refine (walk a0 len0 cap0 W (row_bt w0)).mono fun e W' ⟨he, bel⟩ => ?_
  subst he
  exact ⟨_, rfl, _, _, _, [], _, [], hW', trodAll_mk1 (shut_bool Try.underlying4 _), (trodAll_cons_mk (Below.trod laidOut (by kernel_rfl) (of_decide_eq_true (by kernel_rfl)) k0 bel lt0) trodAll_mk0), rfl, bel.frame _, fun h => by cases h⟩

theorem over : Rows.fnFlitsRow.holds Try.pinned (OpenSpec.ofChange Rows.fnFlitsSpec) :=
  OpenClaim.holds_of_wide 8 Try.f8 rfl rfl rfl rfl rfl rfl rfl ⟨rfl, rfl, rfl, rfl, rfl⟩ rfl rfl rfl rfl rfl (by kernel_rfl) Try.func8 (by kernel_rfl)
    (of_decide_eq_true (by kernel_rfl)) (by unfold Func.isWrapper; first | (rw [if_pos (by decide +kernel)]; kernel_rfl) | (rw [if_neg (by decide +kernel)]; exact ⟨rfl, rfl⟩))
    (fun os started H enc _ => lifted os started H enc)

theorem proved : Rows.FnFlitsSaid := over
end Go.Proofs.Ytbinjcmfbkhbjac.fnFlits

namespace Go.Proofs.Ytbinjcmfbkhbjac
theorem fnFlits_holds : Rows.FnFlitsSaid := fnFlits.proved
end Go.Proofs.Ytbinjcmfbkhbjac
