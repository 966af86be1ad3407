/- Proved: for every slice of bytes, of whatever length, laws.FnIds returns true and leaves its argument as it read. No condition. -/
import Derived.Test.YtdincbjhhicgoaaRows
import Derived.Test.YtdincbjhhicgoaaRdD
import Derived.Test.YtdincbjhhicgoaaFL
import Derived.Test.YtdincbjhhicgoaaLawMath
import Derived.WalkKit
import Derived.ProofKit
import Derived.OpenShut
import Derived.ShutString
import Derived.ChangeOld
import Derived.Below
namespace Go.Proofs.Ytdincbjhhicgoaa.fnIds
open Go.ChangeShapes Go.WideShapes Go.ChangeAt Go.RowKit
open Go.ChangeMaps (open_string shut_string)
set_option linter.unusedVariables false

theorem own : ownKnob Try.prog.godebug = none := by kernel_rfl
theorem laidOut : laidOutB Try.prog = true := by kernel_rfl

/-- WHAT THE WALK IS TOLD OF A SLICE OF INTEGERS THAT CAME IN: it is nil; or it leads to a row of 'cap' cells, the numbers 'zs' (the first 'len' are its elements, the rest its spare room), each fitting its kind. -/
def IsRow (k : IntKind) (w : World) (a : Option Addr) (len cap : Nat) (zs : List Int) : Prop :=
  (a = none ∧ len = 0 ∧ cap = 0 ∧ zs = []) ∨
  ∃ x, a = some x ∧ len ≤ cap ∧ cap ≤ maxLen ∧ zs.length = cap ∧ (∀ i, i < zs.length → w.cell? (x.add i) = some (.int k (zs.getD i 0))) ∧ ∀ n ∈ zs, (Lit.int k n).wf = true

theorem row_bt {w : World} {a : Option Addr} {len cap : Nat} {z : List Int} (h : IsRow .u8 w a len cap z) : Bt w a len := by
  intro h0
  rcases h with ⟨rfl, rfl, rfl, rfl⟩ | ⟨x, rfl, hl, hm, hz, hcell, hwf⟩
  · exact absurd h0 (by simp)
  · obtain ⟨b, off, spot⟩ := x
    have hc := hcell 0 (by omega)
    have hspot : spot = none := by simpa [Addr.add] using World.cell?_spot hc
    subst hspot
    refine ⟨b, off, rfl, fun j hj => ?_⟩
    have hcj := hcell j (by omega)
    rw [addr_add] at hcj
    have hj' : j < z.length := by omega
    have e : z.getD j 0 = z[j] := by simp [hj']
    have hw := bounds_u8 (hwf z[j] (List.getElem_mem hj'))
    exact ⟨z.getD j 0, by rw [e]; exact hw.1, by rw [e]; exact hw.2, hcj⟩

/-! ### STEP 1: THE WALK: the Go text returns true, AND WRITES NOTHING THAT WAS THERE: 'Below w.heap.size w w'' (Derived/Below.lean: '.refl', '.alloc', '.drew', '.setCell' at a new block, '.trans'). Open each 'IsRow' by 'rcases' AHEAD of 'go_enter'; part every test ahead of the walk. -/
set_option maxHeartbeats 4000000 in
set_option maxRecDepth 100000 in
theorem walk (a0 : Option Addr) (len0 cap0 : Nat) (z0 : List Int) (w : World) (w0 : IsRow .u8 w a0 len0 cap0 z0) :
    Calls Try.prog 3 #[.slice a0 len0 cap0] w fun e w' => e = .returned (.bool true) ∧ Below w.heap.size w w' := by
  obtain hs : Bt w a0 len0 := row_bt w0
  clear w0
  by_cases hbig : (1048576 : Int) < (len0 : Int)
  · go_enter Try.func3, Try.ntmps3
    go_wp2
    go_ret
    exact ⟨rfl, Below.refl _ _⟩
  · have hb : len0 ≤ 1048576 := by omega
    go_enter Try.func3, Try.ntmps3
    go_wp2_with (first | (go_at_call 4; go_in) | fail)
    refine (drawWithId_any a0 len0 cap0 _ hs hb).mono ?_
    rintro e w1 ⟨u, zs, id, rfl, hu, hz, hb1⟩
    have hlw := wRes_le zs id
    have hlo := oRes_le zs id
    go_wp2_with fail
    refine (implWith_any u zs id _ hu.sl (by omega)).mono ?_
    rintro e w2 ⟨a, rfl, ha, hb2⟩
    go_wp2_with fail
    refine (implWithout_any u zs id _ (hu.sl.below hb2) (by omega)).mono ?_
    rintro e w3 ⟨b, rfl, hbb, hb3⟩
    have st : S3 w w3 u a b zs (wRes zs id) (oRes zs id) := ⟨(hb1.trans (hb2.mono hb1.size)).trans (hb3.mono (Nat.le_trans hb1.size hb2.size)), (hu.sl.below hb2).below hb3, ha.sl.below hb3, hbb.sl⟩
    clear hu hb1 ha hb2 hbb hb3 hs
    go_wp2_with fail
    refine (specWith_any u zs id _ st.su (by omega)).mono ?_
    rintro e w4 ⟨p, rfl, hp, hb4⟩
    replace st := st.step hb4
    clear hb4
    go_wp2_with fail
    refine (eq_same a p (wRes zs id) _ st.sa hp.sl (by omega)).mono ?_
    rintro e w5 ⟨rfl, hb5⟩
    replace st := st.step hb5
    clear hb5 hp
    go_wp2_with fail
    refine (specWithout_any u zs id _ st.su (by omega)).mono ?_
    rintro e w6 ⟨q, rfl, hq, hb6⟩
    replace st := st.step hb6
    clear hb6
    go_wp2_with fail
    refine (eq_same b q (oRes zs id) _ st.sb hq.sl (by omega)).mono ?_
    rintro e w7 ⟨rfl, hb7⟩
    replace st := st.step hb7
    clear hb7 hq
    go_wp2_with fail
    refine (implOk_any u zs _ st.su (by omega)).mono ?_
    rintro e w8 ⟨rfl, rfl⟩
    go_wp2_with fail
    refine (specOk_any u zs _ st.su (by omega)).mono ?_
    rintro e w9 ⟨rfl, hb9⟩
    replace st := st.step hb9
    clear hb9
    go_wp2_with fail
    refine (specOk_any u zs _ st.su (by omega)).mono ?_
    rintro e w10 ⟨rfl, hb10⟩
    replace st := st.step hb10
    clear hb10
    by_cases hgood : Ids.ok zs = true ∧ 1 ≤ id ∧ id ≤ 5
    · obtain ⟨hok, h1, h5⟩ := hgood
      have HG := hide (good_ids hok h1 h5)
      have HH := hide (good_has hok h1 h5)
      have hd1 : decide (id < 1) = false := by simp; omega
      have hd5 : decide (5 < id) = false := by simp; omega
      go_wp2
      go_loopw [7] (fun i wr => ∃ k : Nat, k ≤ 5 ∧ i = .int .i64 ((k : Int) + 1) ∧ S3 w wr u a b zs (wRes zs id) (oRes zs id)) (fun i _ => 6 - (intOf i).toNat)
      case atStart => exact ⟨0, Nat.zero_le _, rfl, st⟩
      case round =>
        clear st
        obtain ⟨k, hk, rfl, st⟩ := hrel
        by_cases hlt : k < 5
        · have hc5 : decide ((k : Int) + 1 ≤ 5) = true := by simp; omega
          have hgh := HH.out ((k : Int) + 1) (by omega) (by omega)
          rcases Bool.eq_false_or_eq_true (hasB zs ((k : Int) + 1)) with hz | hz
          · rcases Bool.eq_false_or_eq_true ((k : Int) + 1 == id) with hid | hid
            · have hqa : hasB (wRes zs id) ((k : Int) + 1) = true := by rw [hgh.1, hz, hid]; rfl
              have hqb : hasB (oRes zs id) ((k : Int) + 1) = false := by rw [hgh.2, hz, hid]; rfl
              have hne : ((k : Int) + 1 != id) = false := by simp only [bne, hid]; rfl
              clear hgh
              go_wp2_with fail
              refine (lawHas_any a (wRes zs id) _ _ st.sa (by omega)).mono ?_
              rintro e v9 ⟨rfl, rfl⟩
              go_wp2_with fail
              refine (lawHas_any u zs _ _ st.su (by omega)).mono ?_
              rintro e v9 ⟨rfl, rfl⟩
              go_wp2_with fail
              refine (lawHas_any b (oRes zs id) _ _ st.sb (by omega)).mono ?_
              rintro e v9 ⟨rfl, rfl⟩
              go_wp2_with fail
              refine (lawHas_any u zs _ _ st.su (by omega)).mono ?_
              rintro e v9 ⟨rfl, rfl⟩
              go_wp2
              go_roundw
              case rel => exact ⟨k + 1, by omega, by go_num, st⟩
              case measure => simp [intOf]; omega
            · have hqa : hasB (wRes zs id) ((k : Int) + 1) = true := by rw [hgh.1, hz, hid]; rfl
              have hqb : hasB (oRes zs id) ((k : Int) + 1) = true := by rw [hgh.2, hz, hid]; rfl
              have hne : ((k : Int) + 1 != id) = true := by simp only [bne, hid]; rfl
              clear hgh
              go_wp2_with fail
              refine (lawHas_any a (wRes zs id) _ _ st.sa (by omega)).mono ?_
              rintro e v9 ⟨rfl, rfl⟩
              go_wp2_with fail
              refine (lawHas_any u zs _ _ st.su (by omega)).mono ?_
              rintro e v9 ⟨rfl, rfl⟩
              go_wp2_with fail
              refine (lawHas_any b (oRes zs id) _ _ st.sb (by omega)).mono ?_
              rintro e v9 ⟨rfl, rfl⟩
              go_wp2_with fail
              refine (lawHas_any u zs _ _ st.su (by omega)).mono ?_
              rintro e v9 ⟨rfl, rfl⟩
              go_wp2
              go_roundw
              case rel => exact ⟨k + 1, by omega, by go_num, st⟩
              case measure => simp [intOf]; omega
          · rcases Bool.eq_false_or_eq_true ((k : Int) + 1 == id) with hid | hid
            · have hqa : hasB (wRes zs id) ((k : Int) + 1) = true := by rw [hgh.1, hz, hid]; rfl
              have hqb : hasB (oRes zs id) ((k : Int) + 1) = false := by rw [hgh.2, hz, hid]; rfl
              have hne : ((k : Int) + 1 != id) = false := by simp only [bne, hid]; rfl
              clear hgh
              go_wp2_with fail
              refine (lawHas_any a (wRes zs id) _ _ st.sa (by omega)).mono ?_
              rintro e v9 ⟨rfl, rfl⟩
              go_wp2_with fail
              refine (lawHas_any u zs _ _ st.su (by omega)).mono ?_
              rintro e v9 ⟨rfl, rfl⟩
              go_wp2_with fail
              refine (lawHas_any b (oRes zs id) _ _ st.sb (by omega)).mono ?_
              rintro e v9 ⟨rfl, rfl⟩
              go_wp2_with fail
              refine (lawHas_any u zs _ _ st.su (by omega)).mono ?_
              rintro e v9 ⟨rfl, rfl⟩
              go_wp2
              go_roundw
              case rel => exact ⟨k + 1, by omega, by go_num, st⟩
              case measure => simp [intOf]; omega
            · have hqa : hasB (wRes zs id) ((k : Int) + 1) = false := by rw [hgh.1, hz, hid]; rfl
              have hqb : hasB (oRes zs id) ((k : Int) + 1) = false := by rw [hgh.2, hz, hid]; rfl
              have hne : ((k : Int) + 1 != id) = true := by simp only [bne, hid]; rfl
              clear hgh
              go_wp2_with fail
              refine (lawHas_any a (wRes zs id) _ _ st.sa (by omega)).mono ?_
              rintro e v9 ⟨rfl, rfl⟩
              go_wp2_with fail
              refine (lawHas_any u zs _ _ st.su (by omega)).mono ?_
              rintro e v9 ⟨rfl, rfl⟩
              go_wp2_with fail
              refine (lawHas_any b (oRes zs id) _ _ st.sb (by omega)).mono ?_
              rintro e v9 ⟨rfl, rfl⟩
              go_wp2_with fail
              refine (lawHas_any u zs _ _ st.su (by omega)).mono ?_
              rintro e v9 ⟨rfl, rfl⟩
              go_wp2
              go_roundw
              case rel => exact ⟨k + 1, by omega, by go_num, st⟩
              case measure => simp [intOf]; omega
        · have hc5 : decide ((k : Int) + 1 ≤ 5) = false := by simp; omega
          go_wp2_with fail
          refine (implOk_any a (wRes zs id) _ st.sa (by omega)).mono ?_
          rintro e v1 ⟨rfl, rfl⟩
          rw [HG.out.1]
          go_wp2_with fail
          refine (implOk_any b (oRes zs id) _ st.sb (by omega)).mono ?_
          rintro e v2 ⟨rfl, rfl⟩
          rw [HG.out.2.1]
          go_wp2_with fail
          refine (implWithout_any a (wRes zs id) id _ st.sa (by omega)).mono ?_
          rintro e v3 ⟨p, rfl, hp, hb3⟩
          rw [HG.out.2.2.1] at hp
          replace st := st.step hb3
          clear hb3
          go_wp2_with fail
          refine (eq_same p b (oRes zs id) _ hp.sl st.sb (by omega)).mono ?_
          rintro e v4 ⟨rfl, hb4⟩
          replace st := st.step hb4
          clear hb4 hp
          go_wp2_with fail
          refine (implWith_any b (oRes zs id) id _ st.sb (by omega)).mono ?_
          rintro e v5 ⟨q, rfl, hq, hb5⟩
          rw [HG.out.2.2.2] at hq
          replace st := st.step hb5
          clear hb5
          go_wp2_with fail
          refine (eq_same q a (wRes zs id) _ hq.sl st.sa (by omega)).mono ?_
          rintro e v6 ⟨rfl, hb6⟩
          replace st := st.step hb6
          clear hb6 hq
          go_wp2
          go_ret
          exact ⟨rfl, st.t⟩
    · rcases Bool.eq_false_or_eq_true (Ids.ok zs) with hok | hok
      · by_cases hlo : id < 1
        · have hd1 : decide (id < 1) = true := by simpa using hlo
          clear hgood
          go_wp2_with fail
          refine (specWith_any u zs id _ st.su (by omega)).mono ?_
          rintro e v1 ⟨p, rfl, hp, hb4⟩
          replace st := st.step hb4
          clear hb4
          go_wp2_with fail
          refine (eq_same a p (wRes zs id) _ st.sa hp.sl (by omega)).mono ?_
          rintro e v2 ⟨rfl, hb5⟩
          replace st := st.step hb5
          clear hb5 hp
          go_wp2_with fail
          refine (specWithout_any u zs id _ st.su (by omega)).mono ?_
          rintro e v3 ⟨q, rfl, hq, hb6⟩
          replace st := st.step hb6
          clear hb6
          go_wp2_with fail
          refine (eq_same b q (oRes zs id) _ st.sb hq.sl (by omega)).mono ?_
          rintro e v4 ⟨rfl, hb7⟩
          replace st := st.step hb7
          clear hb7 hq
          go_wp2_with fail
          refine (implOk_any u zs _ st.su (by omega)).mono ?_
          rintro e v5 ⟨rfl, rfl⟩
          go_wp2_with fail
          refine (specOk_any u zs _ st.su (by omega)).mono ?_
          rintro e v6 ⟨rfl, hb9⟩
          replace st := st.step hb9
          clear hb9
          go_wp2
          go_ret
          exact ⟨rfl, st.t⟩
        · have hhi : 5 < id := by
            by_cases h : 5 < id
            · exact h
            · exact absurd ⟨hok, by omega, by omega⟩ hgood
          have hd1 : decide (id < 1) = false := by simpa using hlo
          have hd5 : decide (5 < id) = true := by simpa using hhi
          clear hgood
          go_wp2_with fail
          refine (specWith_any u zs id _ st.su (by omega)).mono ?_
          rintro e v1 ⟨p, rfl, hp, hb4⟩
          replace st := st.step hb4
          clear hb4
          go_wp2_with fail
          refine (eq_same a p (wRes zs id) _ st.sa hp.sl (by omega)).mono ?_
          rintro e v2 ⟨rfl, hb5⟩
          replace st := st.step hb5
          clear hb5 hp
          go_wp2_with fail
          refine (specWithout_any u zs id _ st.su (by omega)).mono ?_
          rintro e v3 ⟨q, rfl, hq, hb6⟩
          replace st := st.step hb6
          clear hb6
          go_wp2_with fail
          refine (eq_same b q (oRes zs id) _ st.sb hq.sl (by omega)).mono ?_
          rintro e v4 ⟨rfl, hb7⟩
          replace st := st.step hb7
          clear hb7 hq
          go_wp2_with fail
          refine (implOk_any u zs _ st.su (by omega)).mono ?_
          rintro e v5 ⟨rfl, rfl⟩
          go_wp2_with fail
          refine (specOk_any u zs _ st.su (by omega)).mono ?_
          rintro e v6 ⟨rfl, hb9⟩
          replace st := st.step hb9
          clear hb9
          go_wp2
          go_ret
          exact ⟨rfl, st.t⟩
      · clear hgood
        go_wp2_with fail
        refine (specWith_any u zs id _ st.su (by omega)).mono ?_
        rintro e v1 ⟨p, rfl, hp, hb4⟩
        replace st := st.step hb4
        clear hb4
        go_wp2_with fail
        refine (eq_same a p (wRes zs id) _ st.sa hp.sl (by omega)).mono ?_
        rintro e v2 ⟨rfl, hb5⟩
        replace st := st.step hb5
        clear hb5 hp
        go_wp2_with fail
        refine (specWithout_any u zs id _ st.su (by omega)).mono ?_
        rintro e v3 ⟨q, rfl, hq, hb6⟩
        replace st := st.step hb6
        clear hb6
        go_wp2_with fail
        refine (eq_same b q (oRes zs id) _ st.sb hq.sl (by omega)).mono ?_
        rintro e v4 ⟨rfl, hb7⟩
        replace st := st.step hb7
        clear hb7 hq
        go_wp2_with fail
        refine (implOk_any u zs _ st.su (by omega)).mono ?_
        rintro e v5 ⟨rfl, rfl⟩
        go_wp2_with fail
        refine (specOk_any u zs _ st.su (by omega)).mono ?_
        rintro e v6 ⟨rfl, hb9⟩
        replace st := st.step hb9
        clear hb9
        go_wp2
        go_ret
        exact ⟨rfl, st.t⟩

/-! ### THE ROW's STEP: WRITTEN OUT: LEAVE IT -/
set_option maxRecDepth 100000 in
theorem lifted (os : Os) (started : os.Started) (H : Type) (enc : TypeId × Value → H) :
    ReturnsInHanded {} Try.checked os 3 .any (Rows.fnIdsSpec.pre6 enc Try.prog Try.f3 Rows.fnIdsRow.domain false) (Rows.fnIdsSpec.post enc Try.prog Try.f3 false true false false) := by
  refine returnsInHanded_of_change (C := Try.checked) own started (by kernel_rfl) Try.func3
    (ChangeSpec.witness6 (enc := enc) (C := Try.checked) false ⟨#[], #[.slice none 0 0], []⟩ 8 (by kernel_rfl) (by kernel_rfl) (by kernel_rfl) (by kernel_rfl)) ?_
  intro W base args ds gs before hval0 hW hcnd _
  have hval : ∀ (j : Nat) t v, Try.f3.params[j]? = some t → args[j]? = some v → Value.okWide Try.prog W .any base t v := hval0
  have hW' := hW
  obtain ⟨p, q, hA0, hV, rfl, hfz, hnd⟩ := hW
  have hA : DataW.TrodAll enc Try.prog W 0 (fun _ => true) true Try.f3.params.toList args.toList ds p := hA0
  rw [Try.params3] at hA hval
  obtain ⟨v0, vs0, d0, ds0, p0, q0, hargs, rfl, rfl, h0, r0⟩ := trodAll_cons hA
  obtain ⟨rfl, rfl, rfl⟩ := trodAll_nil r0
  obtain rfl : args = #[v0] := by cases args; simp_all
  obtain ⟨rfl, rfl⟩ := trodVars_none hV
  obtain ⟨a0, len0, cap0, rfl⟩ := okWide_slice Try.underlying22 (hval 0 22 v0 rfl rfl)
  have k0 := h0
  have lt0 : ∀ x ∈ p0, x.block < W.heap.size := by obtain ⟨m, hm⟩ := k0; exact DataW.trod_lt m _ _ _ hm
  obtain ⟨z0, w0⟩ : ∃ zs, IsRow .u8 W a0 len0 cap0 zs := by
    obtain ⟨fuel, hf⟩ := h0
    rcases open_ints Try.underlying22 Try.underlying5 (by kernel_rfl) hf with ⟨hcs, _⟩ | ⟨x, l, c, zs, hcs, _, hl, hm, hz, _, hcell, hwz⟩
    · simp [Value.cells] at hcs
      obtain ⟨rfl, rfl, rfl⟩ := hcs
      exact ⟨[], .inl ⟨rfl, rfl, rfl, rfl⟩⟩
    · simp [Value.cells] at hcs
      obtain ⟨rfl, rfl, rfl⟩ := hcs
      exact ⟨zs, .inr ⟨_, rfl, hl, hm, by simpa using hz, hcell, hwz⟩⟩
  clear hA0 hval0
  refine (walk a0 len0 cap0 z0 W w0).mono fun e W' ⟨he, bel⟩ => ?_
  subst he
  exact ⟨_, rfl, _, _, _, [], _, [], hW', trodAll_mk1 (shut_bool Try.underlying4 _), (trodAll_cons_mk (Below.trod laidOut (by kernel_rfl) (of_decide_eq_true (by kernel_rfl)) k0 bel lt0) trodAll_mk0), rfl, bel.frame _, fun h => by cases h⟩

theorem over : Rows.fnIdsRow.holds Try.pinned (OpenSpec.ofChange Rows.fnIdsSpec) :=
  OpenClaim.holds_of_wide 3 Try.f3 rfl rfl rfl rfl rfl rfl rfl ⟨rfl, rfl, rfl, rfl, rfl⟩ rfl rfl rfl rfl rfl (by kernel_rfl) Try.func3 (by kernel_rfl)
    (of_decide_eq_true (by kernel_rfl)) (by unfold Func.isWrapper; first | (rw [if_pos (by decide +kernel)]; kernel_rfl) | (rw [if_neg (by decide +kernel)]; exact ⟨rfl, rfl⟩))
    (fun os started H enc _ => lifted os started H enc)

theorem proved : Rows.FnIdsSaid := over
end Go.Proofs.Ytdincbjhhicgoaa.fnIds

namespace Go.Proofs.Ytdincbjhhicgoaa
theorem fnIds_holds : Rows.FnIdsSaid := fnIds.proved
end Go.Proofs.Ytdincbjhhicgoaa
