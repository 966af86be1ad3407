/- Proved: for every code, laws.FnWhole returns true. No condition. -/
import Derived.Test.YtgafpepmmjjaaaaRows
import Derived.Test.YtgafpepmmjjaaaaNdC
import Derived.WalkKit
import Derived.ProofKit
import Derived.OpenShut
import Derived.ShutString
import Derived.ChangeOld
import Derived.Below
import Derived.OpenVars
namespace Go.Proofs.Ytgafpepmmjjaaaa.fnWhole
open Go.ChangeShapes Go.WideShapes Go.ChangeAt Go.WideMaps Go.WideElems Go.RowKit
set_option linter.unusedVariables false
set_option linter.unusedSimpArgs false

theorem own : ownKnob Try.prog.godebug = none := by kernel_rfl
theorem laidOut : laidOutB Try.prog = true := by kernel_rfl

def IsRow (k : IntKind) (w : World) (a : Option Addr) (len cap : Nat) (zs : List Int) : Prop :=
  (a = none ∧ len = 0 ∧ cap = 0 ∧ zs = []) ∨
  ∃ x, a = some x ∧ len ≤ cap ∧ cap ≤ maxLen ∧ zs.length = cap ∧ (∀ i, i < zs.length → w.cell? (x.add i) = some (.int k (zs.getD i 0))) ∧ ∀ n ∈ zs, (Lit.int k n).wf = true

theorem row_bt {w : World} {a : Option Addr} {len cap : Nat} {z : List Int} (h : IsRow .u8 w a len cap z) : Bt w a len := by
  intro h0
  rcases h with ⟨rfl, rfl, rfl, rfl⟩ | ⟨x, rfl, hl, hm, hz, hcell, hwf⟩
  · exact absurd h0 (by simp)
  · obtain ⟨b, off, spot⟩ := x
    have hc := hcell 0 (by omega)
    have hspot : spot = none := by simpa [Addr.add] using World.cell?_spot hc
    subst hspot
    refine ⟨b, off, rfl, fun j hj => ?_⟩
    have hcj := hcell j (by omega)
    rw [addr_add] at hcj
    have hj' : j < z.length := by omega
    have e : z.getD j 0 = z[j] := by simp [hj']
    have hw := bounds_u8 (hwf z[j] (List.getElem_mem hj'))
    exact ⟨z.getD j 0, by rw [e]; exact hw.1, by rw [e]; exact hw.2, hcj⟩

set_option maxHeartbeats 8000000 in
set_option maxRecDepth 20000 in
theorem walk (a0 : Option Addr) (len0 cap0 : Nat) (w : World) (hs : Bt w a0 len0) :
    Calls Try.prog 7 #[.slice a0 len0 cap0] w fun e w' => e = .returned (.bool true) ∧ Below w.heap.size w w' := by
  by_cases hbig : (1048576 : Int) < (len0 : Int)
  · go_enter Try.func7, Try.ntmps7
    go_wp2
    go_ret
    exact ⟨rfl, Below.refl _ _⟩
  have hb : len0 ≤ 1048576 := by omega
  go_enter Try.func7, Try.ntmps7
  go_wp2_with (first | (go_at_call 8; go_in) | fail)
  refine (drawWhole_any a0 len0 cap0 _ hs hb).mono ?_
  rintro e w1 ⟨N, ua, n, uc, f, rfl, hN1, hN6, hn1, hs1, hB1⟩
  have HL := hide (Lb.new (N := N) hs1 hB1)
  clear hs hB1 hs1 hb hbig
  have hl : n ≤ 1048576 := by omega
  obtain ⟨_, x0, x1⟩ := row2_facts HL.out.box
  go_wp2_with fail
  refine (implWhole_any N (.slice ua n uc) n f _ HL.out.sr hl).mono ?_
  rintro e w2 ⟨rfl, hb2⟩
  have HL2 := hide (HL.out.next hb2)
  clear HL hb2 x0 x1
  obtain ⟨_, x0, x1⟩ := row2_facts HL2.out.box
  have hsw := fun W h => specWhole_any N (.slice ua n uc) n f W h hl
  have hsn := fun W h => specNetOk_any N (.slice ua n uc) n f W h hl
  obtain ⟨wh, hwh⟩ : ∃ wh, whB N n f = wh := ⟨_, rfl⟩
  rw [hwh] at hsw
  rw [hwh]
  have HW := hide hwh
  clear hwh
  have hxx : (wh != wh) = false := by simp
  have hxe : (wh == wh) = true := by simp
  generalize hBB : w1.heap.size = B at HL2 x0 x1
  go_wp2_with fail
  (try simp only [hBB])
  clear hBB
  refine (hsw _ HL2.out.sr).mono ?_
  rintro e w3 ⟨rfl, hb3⟩
  have HL3 := hide (HL2.out.next hb3)
  clear HL2 hb3 x0 x1
  obtain ⟨_, x0, x1⟩ := row2_facts HL3.out.box
  go_wp2_with fail
  refine (hsn _ HL3.out.sr).mono ?_
  rintro e w4 ⟨rfl, hb4⟩
  have HL4 := hide (HL3.out.next hb4)
  clear HL3 hb4 x0 x1
  obtain ⟨_, x0, x1⟩ := row2_facts HL4.out.box
  cases hN : netB N n f
  · clear hN
    go_wp2_with fail
    refine (hsw _ HL4.out.sr).mono ?_
    rintro e w5 ⟨rfl, hb5⟩
    have HL5 := hide (HL4.out.next hb5)
    clear HL4 hb5 x0 x1
    go_wp2
    go_ret
    exact ⟨rfl, HL5.out.bl⟩
  obtain ⟨M, rfl⟩ : ∃ M : Nat, N = M := ⟨N.toNat, by omega⟩
  have hM : M ≤ 6 := by omega
  have HV : Hid (∀ a b : Nat, a < M → b < M → dstA (M : Int) n f a b = dst (jn n f) a b) := hide (fun a b ha hb => dstA_yes hN (by simp [inB]; omega) (by simp [inB]; omega))
  have hD := fun a b W h => implDist_any (M : Int) (.slice ua n uc) n f a b W h hl
  have HA := hide (wh_all hN)
  clear hN hsw hsn
  go_wp2
  go_loopw [5, 6] (fun t i wr => ∃ (k : Nat) (al : Bool), k ≤ M ∧ i = .int .i64 k ∧ t = .bool al ∧ Lb w wr B M (.slice ua n uc) n f ∧ Hid (al = true ↔ ∀ a b : Nat, a < k → b < M → 0 ≤ dst (jn n f) a b)) (fun _ i _ => M - (intOf i).toNat)
  case atStart => exact ⟨0, true, Nat.zero_le _, rfl, rfl, HL4.out, hide ⟨fun _ a b ha => by omega, fun _ => rfl⟩⟩
  case round =>
    obtain ⟨k, al, hk, rfl, rfl, hlb, HP⟩ := hrel
    clear HL4 x0 x1
    obtain ⟨_, x0, x1⟩ := row2_facts hlb.box
    by_cases hlt : k < M
    · have HLb := hide hlb
      clear hlb
      go_wp2
      go_loopw [5, 7] (fun t i wr => ∃ (q : Nat) (al : Bool), q ≤ M ∧ i = .int .i64 q ∧ t = .bool al ∧ Lb w wr B M (.slice ua n uc) n f ∧ Hid (al = true ↔ (∀ a b : Nat, a < k → b < M → 0 ≤ dst (jn n f) a b) ∧ ∀ b : Nat, b < q → 0 ≤ dst (jn n f) k b)) (fun _ i _ => M - (intOf i).toNat)
      case atStart => exact ⟨0, al, Nat.zero_le _, rfl, rfl, HLb.out, hide ⟨fun h => ⟨HP.out.1 h, fun b hb => by omega⟩, fun h => HP.out.2 h.1⟩⟩
      case round =>
        obtain ⟨q, al2, hq, rfl, rfl, hlb, HQ⟩ := hrel
        clear HLb x0 x1 HP
        obtain ⟨_, x0, x1⟩ := row2_facts hlb.box
        by_cases hqM : q < M
        · have HLb := hide hlb
          clear hlb
          cases al2 with
          | false =>
            have HQ2 : Hid (false = true ↔ (∀ a b : Nat, a < k → b < M → 0 ≤ dst (jn n f) a b) ∧ ∀ b : Nat, b < q + 1 → 0 ≤ dst (jn n f) k b) := hide ⟨fun h => absurd h (by decide), fun h => HQ.out.2 ⟨h.1, fun b hb => h.2 b (by omega)⟩⟩
            clear HQ
            go_wp2
            go_roundw
            case rel => exact ⟨q + 1, false, by omega, by go_num, rfl, HLb.out, HQ2⟩
            case measure => simp [intOf]; omega
          | true =>
            have hDk := hD k q _ HLb.out.sr
            rw [HV.out k q hlt hqM] at hDk
            obtain ⟨x, hx⟩ : ∃ x, dst (jn n f) k q = x := ⟨_, rfl⟩
            rw [hx] at hDk
            have HQ2 : Hid (decide (0 ≤ x) = true ↔ (∀ a b : Nat, a < k → b < M → 0 ≤ dst (jn n f) a b) ∧ ∀ b : Nat, b < q + 1 → 0 ≤ dst (jn n f) k b) := hide (by
              rw [decide_eq_true_eq]
              constructor
              · intro h0
                refine ⟨(HQ.out.1 rfl).1, fun b hb => ?_⟩
                by_cases e : b = q
                · subst e; rw [hx]; exact h0
                · exact (HQ.out.1 rfl).2 b (by omega)
              · intro h
                have := h.2 q (by omega)
                rw [hx] at this
                exact this)
            clear hx HQ
            by_cases hx0 : 0 ≤ x
            · have hxd : decide (0 ≤ x) = true := by simpa using hx0
              have HQ3 : Hid (true = true ↔ (∀ a b : Nat, a < k → b < M → 0 ≤ dst (jn n f) a b) ∧ ∀ b : Nat, b < q + 1 → 0 ≤ dst (jn n f) k b) := hide (by have := HQ2.out; rw [hxd] at this; exact this)
              clear hx0 HQ2
              go_wp2_with (go_at_call 10; refine hDk.mono ?_; rintro e w5 ⟨rfl, hb5⟩)
              have HL5 := hide (HLb.out.next hb5)
              clear hb5 HLb
              go_roundw
              case rel => exact ⟨q + 1, true, by omega, by go_num, rfl, HL5.out, hide ⟨fun _ => HQ3.out.1 (by trivial), fun _ => rfl⟩⟩
              case measure => simp [intOf]; omega
            · have hxd : decide (0 ≤ x) = false := by simpa using hx0
              have HQ3 : Hid (false = true ↔ (∀ a b : Nat, a < k → b < M → 0 ≤ dst (jn n f) a b) ∧ ∀ b : Nat, b < q + 1 → 0 ≤ dst (jn n f) k b) := hide (by have := HQ2.out; rw [hxd] at this; exact this)
              clear hx0 HQ2
              go_wp2_with (go_at_call 10; refine hDk.mono ?_; rintro e w5 ⟨rfl, hb5⟩)
              have HL5 := hide (HLb.out.next hb5)
              clear hb5 HLb
              go_roundw
              case rel => exact ⟨q + 1, false, by omega, by go_num, rfl, HL5.out, HQ3⟩
              case measure => simp [intOf]; omega
        · have HQ2 : Hid (al2 = true ↔ ∀ a b : Nat, a < k + 1 → b < M → 0 ≤ dst (jn n f) a b) := hide ⟨fun h a b ha hb => by
              by_cases e : a = k
              · subst e; exact (HQ.out.1 h).2 b (by omega)
              · exact (HQ.out.1 h).1 a b (by omega) hb, fun h => HQ.out.2 ⟨fun a b ha hb => h a b (by omega) hb, fun b hb => h k b (by omega) (by omega)⟩⟩
          have HLb := hide hlb
          clear hlb HQ
          go_wp2
          go_roundw
          case rel => exact ⟨k + 1, al2, by omega, by go_num, rfl, HLb.out, HQ2⟩
          case measure => simp [intOf]; omega
    · have e : k = M := by omega
      have HE : Hid (wh = al) := hide (by
        have h1 := HP.out
        rw [e] at h1
        have h2 := HA.out.trans h1.symm
        rw [HW.out] at h2
        cases wh <;> cases al <;> simp_all)
      have hE : (wh == al) = true := by rw [HE.out]; simp
      have HLb := hide hlb
      clear hlb HP e HE
      go_wp2
      go_ret
      exact ⟨rfl, HLb.out.bl⟩

set_option maxRecDepth 100000 in
theorem lifted (os : Os) (started : os.Started) (H : Type) (enc : TypeId × Value → H) :
    ReturnsInHanded {} Try.checked os 7 .any (Rows.fnWholeSpec.pre6 enc Try.prog Try.f7 Rows.fnWholeRow.domain false) (Rows.fnWholeSpec.post enc Try.prog Try.f7 false true false false) := by
  refine returnsInHanded_of_change (C := Try.checked) own started (by kernel_rfl) Try.func7
    (ChangeSpec.witness6 (enc := enc) (C := Try.checked) false ⟨#[], #[.slice none 0 0], []⟩ 8 (by kernel_rfl) (by kernel_rfl) (by kernel_rfl) (by kernel_rfl)) ?_
  intro W base args ds gs before hval0 hW hcnd _
  have hval : ∀ (j : Nat) t v, Try.f7.params[j]? = some t → args[j]? = some v → Value.okWide Try.prog W .any base t v := hval0
  have hW' := hW
  obtain ⟨p, q, hA0, hV, rfl, hfz, hnd⟩ := hW
  have hA : DataW.TrodAll enc Try.prog W 0 (fun _ => true) true Try.f7.params.toList args.toList ds p := hA0
  rw [Try.params7] at hA hval
  obtain ⟨v0, vs0, d0, ds0, p0, q0, hargs, rfl, rfl, h0, r0⟩ := trodAll_cons hA
  obtain ⟨rfl, rfl, rfl⟩ := trodAll_nil r0
  obtain rfl : args = #[v0] := by cases args; simp_all
  obtain ⟨rfl, rfl⟩ := trodVars_none hV
  obtain ⟨a0, len0, cap0, rfl⟩ := okWide_slice Try.underlying22 (hval 0 22 v0 rfl rfl)
  have k0 := h0
  have lt0 : ∀ x ∈ p0, x.block < W.heap.size := by obtain ⟨m, hm⟩ := k0; exact DataW.trod_lt m _ _ _ hm
  obtain ⟨z0, w0⟩ : ∃ zs, IsRow .u8 W a0 len0 cap0 zs := by
    obtain ⟨fuel, hf⟩ := h0
    rcases open_ints Try.underlying22 Try.underlying5 (by kernel_rfl) hf with ⟨hcs, _⟩ | ⟨x, l, c, zs, hcs, _, hl, hm, hz, _, hcell, hwz⟩
    · simp [Value.cells] at hcs
      obtain ⟨rfl, rfl, rfl⟩ := hcs
      exact ⟨[], .inl ⟨rfl, rfl, rfl, rfl⟩⟩
    · simp [Value.cells] at hcs
      obtain ⟨rfl, rfl, rfl⟩ := hcs
      exact ⟨zs, .inr ⟨_, rfl, hl, hm, by simpa using hz, hcell, hwz⟩⟩
  clear hA0 hval0
  refine (walk a0 len0 cap0 W (row_bt w0)).mono fun e W' ⟨he, bel⟩ => ?_
  subst he
  exact ⟨_, rfl, _, _, _, [], _, [], hW', trodAll_mk1 (shut_bool Try.underlying4 _), (trodAll_cons_mk (Below.trod laidOut (by kernel_rfl) (of_decide_eq_true (by kernel_rfl)) k0 bel lt0) trodAll_mk0), rfl, bel.frame _, fun h => by cases h⟩

theorem over : Rows.fnWholeRow.holds Try.pinned (OpenSpec.ofChange Rows.fnWholeSpec) :=
  OpenClaim.holds_of_wide 7 Try.f7 rfl rfl rfl rfl rfl rfl rfl ⟨rfl, rfl, rfl, rfl, rfl⟩ rfl rfl rfl rfl rfl (by kernel_rfl) Try.func7 (by kernel_rfl)
    (of_decide_eq_true (by kernel_rfl)) (by unfold Func.isWrapper; first | (rw [if_pos (by decide +kernel)]; kernel_rfl) | (rw [if_neg (by decide +kernel)]; exact ⟨rfl, rfl⟩))
    (fun os started H enc _ => lifted os started H enc)

theorem proved : Rows.FnWholeSaid := over
end Go.Proofs.Ytgafpepmmjjaaaa.fnWhole

namespace Go.Proofs.Ytgafpepmmjjaaaa
theorem fnWhole_holds : Rows.FnWholeSaid := fnWhole.proved
end Go.Proofs.Ytgafpepmmjjaaaa
