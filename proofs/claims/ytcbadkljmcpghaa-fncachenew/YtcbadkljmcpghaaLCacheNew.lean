/- Proved: for every slice of bytes, of whatever length, laws.FnCacheNew returns true and leaves its argument as it read. No condition. -/
import Derived.Test.YtcbadkljmcpghaaRows
import Derived.Test.YtcbadkljmcpghaaCaU
import Derived.Test.YtcbadkljmcpghaaCaX
import Derived.Test.YtcbadkljmcpghaaCaM
import Derived.Test.YtcbadkljmcpghaaRdE
import Derived.WalkKit
import Derived.ProofKit
import Derived.OpenShut
import Derived.ShutString
import Derived.ChangeOld
import Derived.Below
import Derived.OpenVars
namespace Go.Proofs.Ytcbadkljmcpghaa.fnCacheNew
open Go.ChangeShapes Go.WideShapes Go.ChangeAt Go.WideMaps Go.WideElems Go.RowKit
set_option linter.unusedVariables false
set_option linter.unusedSimpArgs false

theorem own : ownKnob Try.prog.godebug = none := by kernel_rfl
theorem laidOut : laidOutB Try.prog = true := by kernel_rfl

def IsRow (k : IntKind) (w : World) (a : Option Addr) (len cap : Nat) (zs : List Int) : Prop :=
  (a = none ∧ len = 0 ∧ cap = 0 ∧ zs = []) ∨
  ∃ x, a = some x ∧ len ≤ cap ∧ cap ≤ maxLen ∧ zs.length = cap ∧ (∀ i, i < zs.length → w.cell? (x.add i) = some (.int k (zs.getD i 0))) ∧ ∀ n ∈ zs, (Lit.int k n).wf = true

theorem row_bt {w : World} {a : Option Addr} {len cap : Nat} {z : List Int} (h : IsRow .u8 w a len cap z) : Bt w a len := by
  intro h0
  rcases h with ⟨rfl, rfl, rfl, rfl⟩ | ⟨x, rfl, hl, hm, hz, hcell, hwf⟩
  · exact absurd h0 (by simp)
  · obtain ⟨b, off, spot⟩ := x
    have hc := hcell 0 (by omega)
    have hspot : spot = none := by simpa [Addr.add] using World.cell?_spot hc
    subst hspot
    refine ⟨b, off, rfl, fun j hj => ?_⟩
    have hcj := hcell j (by omega)
    rw [addr_add] at hcj
    have hj' : j < z.length := by omega
    have e : z.getD j 0 = z[j] := by simp [hj']
    have hw := bounds_u8 (hwf z[j] (List.getElem_mem hj'))
    exact ⟨z.getD j 0, by rw [e]; exact hw.1, by rw [e]; exact hw.2, hcj⟩

theorem _root_.Go.Proofs.Ytcbadkljmcpghaa.Cg.drew {w : World} {B : Nat} {v : Value} {n : Nat} {L : Nat → Nat} {D : Nat → Sm} {G : Nat} {ib : Nat → Nat} (h : Cg w B v n L D G ib) : Cg w.drew B v n L D G ib := ⟨h.val, h.lo, h.wcG, h.wcI, h.ne, h.inj, h.at_, h.way⟩

theorem hld_new (x : Int) : Ca.hldB 2 (fun _ => 4) (two zS zS) x = false := by
  have e : Ca.fst (two zS zS (x % 2).toNat) true x = -1 := by
    have e2 : two zS zS (x % 2).toNat = zS := by unfold two; split <;> rfl
    rw [e2]; rfl
  simp [Ca.hldB, e]
theorem cok_new : Ca.cokB 2 (fun _ => 4) (two zS zS) = true := by decide +kernel

set_option maxHeartbeats 4000000 in
theorem walk (a0 : Option Addr) (len0 cap0 : Nat) (w : World) (hs0 : Bt w a0 len0) :
    Calls Try.prog 7 #[.slice a0 len0 cap0] w fun e w' => e = .returned (.bool true) ∧ Below w.heap.size w w' := by
  clear hs0
  have hL : ∀ c, c < 2 → (fun _ : Nat => 4) c ≤ 1048576 := fun c _ => by show 4 ≤ 1048576; decide
  go_enter Try.func7, Try.ntmps7
  go_wp2_with fail
  refine (implNew _).mono ?_
  rintro e w1 ⟨G, c, ib, rfl, hc1, hb1⟩
  have hA1 : Below w1.heap.size w1 (w1.alloc (.cells #[sl G 2 c] 32)) := (Below.refl _ _).alloc (Nat.le_refl _) _
  have x1 : (w1.alloc (.cells #[sl G 2 c] 32)).cell? ⟨w1.heap.size, 0, none⟩ = some (sl G 2 c) := cell_of_row _ _ 0 _ _ _ (heap_alloc_new _ _)
  have HC1 := hide (hc1.below hA1)
  have HB1 := hide (hb1.trans (hA1.mono hb1.size))
  obtain ⟨B, hB⟩ : ∃ B, w1.heap.size = B := ⟨_, rfl⟩
  rw [hB] at x1
  have HBB := hide hB
  clear hc1 hb1 hA1 hB
  go_wp2
  rw [HBB.out]
  go_loopw [4] (fun i wr => ∃ k : Nat, k ≤ 20 ∧ i = .int .i64 k ∧ wr.cell? ⟨B, 0, none⟩ = some (sl G 2 c) ∧ Hid (Cg wr w.heap.size (sl G 2 c) 2 (fun _ => 4) (two zS zS) G ib) ∧ Hid (Below w.heap.size w wr)) (fun i _ => 20 - (intOf i).toNat)
  case atStart => exact ⟨0, by omega, rfl, x1, HC1, HB1⟩
  case round =>
    clear x1 HC1 HB1 HBB
    obtain ⟨k, hk, rfl, x1, HC, HB⟩ := hrel
    by_cases hlt : k < 20
    · have hh := fun W h => implHolds_any (sl G 2 c) 2 (fun _ => 4) (two zS zS) (k : Int) W h
      rw [hld_new] at hh
      go_wp2_with fail
      refine (hh _ HC.out.cv).mono ?_
      rintro e w2 ⟨rfl, hb2⟩
      have x2 := keepc hb2 x1
      have HC2 := hide (HC.out.below hb2)
      have HB2 := hide (HB.out.trans (hb2.mono HB.out.size))
      clear hb2 x1 HC HB hh
      go_wp2
      exact ⟨⟨k + 1, by omega, by go_num, x2, HC2, HB2⟩, by simp [intOf]; omega⟩
    · have e : k = 20 := by omega
      subst e
      have hk := fun W h => implCacheOk_any (sl G 2 c) 2 (fun _ => 4) (two zS zS) W h
      rw [cok_new] at hk
      have hc := HC.out
      have hb := HB.out
      clear HC HB hlt
      go_wp2
      go_region_held3 (fun w' => w'.cell? ⟨B, 0, none⟩ = some (sl G 2 c)) (first | exact x1 | exact keepc hb3 x1 | exact keepc hb4 (keepc hb3 x1) | exact keepc hb5 (keepc hb4 (keepc hb3 x1))) (first | (go_at_call 18; refine (specNew _).mono ?_; rintro e w3 ⟨G3, c3, ib3, rfl, hc3, hb3⟩) | (go_at_call 24; refine (sameCache_same _ _ 2 _ _ _ (hc.drew.below hb3).cv hc3.cv (by decide) hL).mono ?_; rintro e w4 ⟨rfl, hb4⟩) | (go_at_call 25; refine (hk _ ((hc.drew.below hb3).below hb4).cv).mono ?_; rintro e w5 ⟨rfl, hb5⟩))
      all_goals have HB := hide (((hb.drew.trans (hb3.mono hb.drew.size)).trans (hb4.mono (hb.drew.trans (hb3.mono hb.drew.size)).size)).trans (hb5.mono ((hb.drew.trans (hb3.mono hb.drew.size)).trans (hb4.mono (hb.drew.trans (hb3.mono hb.drew.size)).size)).size))
      all_goals clear hb3 hb4 hb5 hc hc3 hb
      all_goals go_wp2
      all_goals go_ret
      all_goals exact ⟨rfl, HB.out⟩

set_option maxRecDepth 100000 in
theorem lifted (os : Os) (started : os.Started) (H : Type) (enc : TypeId × Value → H) :
    ReturnsInHanded {} Try.checked os 7 .any (Rows.fnCacheNewSpec.pre6 enc Try.prog Try.f7 Rows.fnCacheNewRow.domain false) (Rows.fnCacheNewSpec.post enc Try.prog Try.f7 false true false false) := by
  refine returnsInHanded_of_change (C := Try.checked) own started (by kernel_rfl) Try.func7
    (ChangeSpec.witness6 (enc := enc) (C := Try.checked) false ⟨#[], #[.slice none 0 0], []⟩ 8 (by kernel_rfl) (by kernel_rfl) (by kernel_rfl) (by kernel_rfl)) ?_
  intro W base args ds gs before hval0 hW hcnd _
  have hval : ∀ (j : Nat) t v, Try.f7.params[j]? = some t → args[j]? = some v → Value.okWide Try.prog W .any base t v := hval0
  have hW' := hW
  obtain ⟨p, q, hA0, hV, rfl, hfz, hnd⟩ := hW
  have hA : DataW.TrodAll enc Try.prog W 0 (fun _ => true) true Try.f7.params.toList args.toList ds p := hA0
  rw [Try.params7] at hA hval
  obtain ⟨v0, vs0, d0, ds0, p0, q0, hargs, rfl, rfl, h0, r0⟩ := trodAll_cons hA
  obtain ⟨rfl, rfl, rfl⟩ := trodAll_nil r0
  obtain rfl : args = #[v0] := by cases args; simp_all
  obtain ⟨rfl, rfl⟩ := trodVars_none hV
  obtain ⟨a0, len0, cap0, rfl⟩ := okWide_slice Try.underlying26 (hval 0 26 v0 rfl rfl)
  have k0 := h0
  have lt0 : ∀ x ∈ p0, x.block < W.heap.size := by obtain ⟨m, hm⟩ := k0; exact DataW.trod_lt m _ _ _ hm
  obtain ⟨z0, w0⟩ : ∃ zs, IsRow .u8 W a0 len0 cap0 zs := by
    obtain ⟨fuel, hf⟩ := h0
    rcases open_ints Try.underlying26 Try.underlying5 (by kernel_rfl) hf with ⟨hcs, _⟩ | ⟨x, l, c, zs, hcs, _, hl, hm, hz, _, hcell, hwz⟩
    · simp [Value.cells] at hcs
      obtain ⟨rfl, rfl, rfl⟩ := hcs
      exact ⟨[], .inl ⟨rfl, rfl, rfl, rfl⟩⟩
    · simp [Value.cells] at hcs
      obtain ⟨rfl, rfl, rfl⟩ := hcs
      exact ⟨zs, .inr ⟨_, rfl, hl, hm, by simpa using hz, hcell, hwz⟩⟩
  clear hA0 hval0
  refine (walk a0 len0 cap0 W (row_bt w0)).mono fun e W' ⟨he, bel⟩ => ?_
  subst he
  exact ⟨_, rfl, _, _, _, [], _, [], hW', trodAll_mk1 (shut_bool Try.underlying4 _), (trodAll_cons_mk (Below.trod laidOut (by kernel_rfl) (of_decide_eq_true (by kernel_rfl)) k0 bel lt0) trodAll_mk0), rfl, bel.frame _, fun h => by cases h⟩

theorem over : Rows.fnCacheNewRow.holds Try.pinned (OpenSpec.ofChange Rows.fnCacheNewSpec) :=
  OpenClaim.holds_of_wide 7 Try.f7 rfl rfl rfl rfl rfl rfl rfl ⟨rfl, rfl, rfl, rfl, rfl⟩ rfl rfl rfl rfl rfl (by kernel_rfl) Try.func7 (by kernel_rfl)
    (of_decide_eq_true (by kernel_rfl)) (by unfold Func.isWrapper; first | (rw [if_pos (by decide +kernel)]; kernel_rfl) | (rw [if_neg (by decide +kernel)]; exact ⟨rfl, rfl⟩))
    (fun os started H enc _ => lifted os started H enc)

theorem proved : Rows.FnCacheNewSaid := over
end Go.Proofs.Ytcbadkljmcpghaa.fnCacheNew

namespace Go.Proofs.Ytcbadkljmcpghaa
theorem fnCacheNew_holds : Rows.FnCacheNewSaid := fnCacheNew.proved
end Go.Proofs.Ytcbadkljmcpghaa
