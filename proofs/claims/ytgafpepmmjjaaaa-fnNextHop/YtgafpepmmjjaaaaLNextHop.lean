/- Proved: for every code, laws.FnNextHop returns true. No condition. -/
import Derived.Test.YtgafpepmmjjaaaaRows
import Derived.Test.YtgafpepmmjjaaaaNdC
import Derived.WalkKit
import Derived.ProofKit
import Derived.OpenShut
import Derived.ShutString
import Derived.ChangeOld
import Derived.Below
import Derived.OpenVars
namespace Go.Proofs.Ytgafpepmmjjaaaa.fnNextHop
open Go.ChangeShapes Go.WideShapes Go.ChangeAt Go.WideMaps Go.WideElems Go.RowKit
set_option linter.unusedVariables false
set_option linter.unusedSimpArgs false

theorem own : ownKnob Try.prog.godebug = none := by kernel_rfl
theorem laidOut : laidOutB Try.prog = true := by kernel_rfl

def IsRow (k : IntKind) (w : World) (a : Option Addr) (len cap : Nat) (zs : List Int) : Prop :=
  (a = none ∧ len = 0 ∧ cap = 0 ∧ zs = []) ∨
  ∃ x, a = some x ∧ len ≤ cap ∧ cap ≤ maxLen ∧ zs.length = cap ∧ (∀ i, i < zs.length → w.cell? (x.add i) = some (.int k (zs.getD i 0))) ∧ ∀ n ∈ zs, (Lit.int k n).wf = true

theorem row_bt {w : World} {a : Option Addr} {len cap : Nat} {z : List Int} (h : IsRow .u8 w a len cap z) : Bt w a len := by
  intro h0
  rcases h with ⟨rfl, rfl, rfl, rfl⟩ | ⟨x, rfl, hl, hm, hz, hcell, hwf⟩
  · exact absurd h0 (by simp)
  · obtain ⟨b, off, spot⟩ := x
    have hc := hcell 0 (by omega)
    have hspot : spot = none := by simpa [Addr.add] using World.cell?_spot hc
    subst hspot
    refine ⟨b, off, rfl, fun j hj => ?_⟩
    have hcj := hcell j (by omega)
    rw [addr_add] at hcj
    have hj' : j < z.length := by omega
    have e : z.getD j 0 = z[j] := by simp [hj']
    have hw := bounds_u8 (hwf z[j] (List.getElem_mem hj'))
    exact ⟨z.getD j 0, by rw [e]; exact hw.1, by rw [e]; exact hw.2, hcj⟩

/-- what a next one is, plainly -/
theorem hop_says {M n : Nat} {f : Nat → Nat → Int} (hn : Nt M n f) {a b : Int} (hd : 1 ≤ dst (jn n f) a b) :
    0 ≤ nx n f a b ∧ (∀ c : Nat, c < M → ((dst (jn n f) a c = 1 ∧ dst (jn n f) c b = dst (jn n f) a b - 1) → nx n f a b ≤ c) ∧ ((c : Int) = nx n f a b → dst (jn n f) a c = 1 ∧ dst (jn n f) c b = dst (jn n f) a b - 1)) := by
  obtain ⟨h1, h2⟩ := nx_step hn (x := a) (b := b) (by omega)
  have h3 := jn_lt hn h1
  refine ⟨h3.2.2.1, fun c hc => ⟨fun h => ?_, fun h => ?_⟩⟩
  · have hj := one_dst h.1
    by_cases hlt : (c : Int) < nx n f a b
    · exfalso
      have hm := (mem_jl_jn hn).2 hj
      have hr := jl_rise hn a n (Nat.le_refl _)
      obtain ⟨y, hy⟩ : ∃ y, (jl f a n).find? (nr n f a b) = some y := by
        cases hf : (jl f a n).find? (nr n f a b) with
        | none => rw [nx, if_pos (by omega), hf] at h3; simp at h3
        | some y => exact ⟨y, rfl⟩
      have hnx : nx n f a b = y := by rw [nx, if_pos (by omega), hy]; rfl
      obtain ⟨j, hj', ej⟩ := gd_of_mem hm
      obtain ⟨c0, hc0, hc1, hc2⟩ := least (p := fun j => j < (jl f a n).length ∧ nr n f a b (gd (jl f a n) j) = true) (k := j) ⟨hj', by rw [ej, nr, decide_eq_true h.2]⟩
      have hfa := find_at hc1.1 hc1.2 (fun i hi => by
        cases e : nr n f a b (gd (jl f a n) i)
        · rfl
        · exact absurd ⟨by omega, e⟩ (hc2 i hi))
      rw [hy] at hfa
      have hyv : y = gd (jl f a n) c0 := by simpa using hfa
      have hle : gd (jl f a n) c0 ≤ gd (jl f a n) j := by
        by_cases e : c0 = j
        · rw [e]; exact Int.le_refl _
        · have hp := List.pairwise_iff_getElem.1 hr c0 j hc1.1 hj' (by omega)
          have e1 : gd (jl f a n) c0 = (jl f a n)[c0]'hc1.1 := by simp [gd, hc1.1]
          have e2 : gd (jl f a n) j = (jl f a n)[j]'hj' := by simp [gd, hj']
          rw [e1, e2]; omega
      rw [hnx, hyv] at hlt
      omega
    · omega
  · rw [h]
    exact ⟨dst_one hn h1, h2⟩

set_option maxHeartbeats 8000000 in
set_option maxRecDepth 20000 in
theorem walk (a0 : Option Addr) (len0 cap0 : Nat) (w : World) (hs : Bt w a0 len0) :
    Calls Try.prog 5 #[.slice a0 len0 cap0] w fun e w' => e = .returned (.bool true) ∧ Below w.heap.size w w' := by
  by_cases hbig : (1048576 : Int) < (len0 : Int)
  · go_enter Try.func5, Try.ntmps5
    go_wp2
    go_ret
    exact ⟨rfl, Below.refl _ _⟩
  have hb : len0 ≤ 1048576 := by omega
  go_enter Try.func5, Try.ntmps5
  go_wp2_with (first | (go_at_call 8; go_in) | fail)
  refine (drawNextHop_any a0 len0 cap0 _ hs hb).mono ?_
  rintro e w1 ⟨N, ua, n, uc, f, a, b, rfl, hN1, hN6, hn1, hs1, hB1⟩
  have HL := hide (Lb.new (N := N) hs1 hB1)
  clear hs hB1 hs1 hb hbig
  have hl : n ≤ 1048576 := by omega
  obtain ⟨_, x0, x1⟩ := row2_facts HL.out.box
  have hX := fun W h => implNext_any N (.slice ua n uc) n f a b W h hl
  have hY := fun W h => specNext_any N (.slice ua n uc) n f a b W h hl
  have hD := fun a b W h => implDist_any N (.slice ua n uc) n f a b W h hl
  obtain ⟨h, hh⟩ : ∃ h, nxA N n f a b = h := ⟨_, rfl⟩
  rw [hh] at hX hY
  obtain ⟨d, hd⟩ : ∃ d, dstA N n f a b = d := ⟨_, rfl⟩
  have hDab := fun W h => hD a b W h
  rw [hd] at hDab
  have hnn : (h != h) = false := by simp
  have hee : (h == h) = true := by simp
  have HH := hide (And.intro hh hd)
  clear hh hd
  generalize hBB : w1.heap.size = B at HL x0 x1
  go_wp2_with fail
  (try simp only [hBB])
  clear hBB
  refine (hX _ HL.out.sr).mono ?_
  rintro e w2 ⟨rfl, hb2⟩
  have HL2 := hide (HL.out.next hb2)
  clear HL hb2 x0 x1 hX
  obtain ⟨_, x0, x1⟩ := row2_facts HL2.out.box
  go_wp2_with fail
  refine (hDab _ HL2.out.sr).mono ?_
  rintro e w3 ⟨rfl, hb3⟩
  have HL3 := hide (HL2.out.next hb3)
  clear HL2 hb3 x0 x1 hDab
  obtain ⟨_, x0, x1⟩ := row2_facts HL3.out.box
  go_wp2_with fail
  refine (hY _ HL3.out.sr).mono ?_
  rintro e w4 ⟨rfl, hb4⟩
  have HL4 := hide (HL3.out.next hb4)
  clear HL3 hb4 x0 x1
  obtain ⟨_, x0, x1⟩ := row2_facts HL4.out.box
  by_cases hd1 : d < 1
  · have hde : decide (d < 1) = true := by simpa using hd1
    have hdf : decide (1 ≤ d) = false := by simp; omega
    have HM : Hid (h = -1) := hide (by
      rw [← HH.out.1, nxA]
      split
      · rename_i ht
        have := HH.out.2
        rw [dstA_th ht] at this
        exact nx_zero (by omega)
      · rfl)
    have hme : (h == -1) = true := by rw [HM.out]; rfl
    clear hd1 HM
    go_wp2_with fail
    refine (hY _ HL4.out.sr).mono ?_
    rintro e w5 ⟨rfl, hb5⟩
    have HL5 := hide (HL4.out.next hb5)
    clear HL4 hb5 x0 x1 hY hD
    go_wp2
    go_ret
    exact ⟨rfl, HL5.out.bl⟩
  have hde : decide (d < 1) = false := by simpa using hd1
  have ht : thB N n f a b = true := by
    cases e : thB N n f a b
    · have := HH.out.2; rw [dstA_nth e] at this; omega
    · rfl
  have hdd : dst (jn n f) a b = d := by rw [← dstA_th ht]; exact HH.out.2
  have hhx : nx n f a b = h := by rw [← HH.out.1, nxA, if_pos ht]
  simp only [thB, Bool.and_eq_true] at ht
  obtain ⟨⟨hN, ha⟩, hb⟩ := ht
  obtain ⟨M, rfl⟩ : ∃ M : Nat, N = M := ⟨N.toNat, by omega⟩
  have hnt := nt_of hN
  have HSY := hide (hop_says (a := a) (b := b) hnt (by omega))
  rw [hhx, hdd] at HSY
  have HV : Hid (∀ c : Nat, c < M → dstA (M : Int) n f a c = dst (jn n f) a c ∧ dstA (M : Int) n f c b = dst (jn n f) c b) := hide (fun c hc => ⟨dstA_yes hN ha (by simp [inB]; omega), dstA_yes hN (by simp [inB]; omega) hb⟩)
  have hdb : d < 6 := by rw [← HH.out.2]; exact dstA_lt
  have hw1 : wrap64 (d - 1) = d - 1 := Go.IntWalk.wrap64_in _ (by omega)
  have hh0 : decide (0 ≤ h) = true := by simpa using HSY.out.1
  have hh1 : decide (h < 0) = false := by have := HSY.out.1; simp; omega
  have hM : M ≤ 6 := by omega
  clear hN ha hb hnt hdd hhx hd1 hY
  go_wp2
  go_loopw [8] (fun i wr => ∃ (k : Nat), k ≤ M ∧ i = .int .i64 k ∧ Lb w wr B M (.slice ua n uc) n f) (fun i _ => M - (intOf i).toNat)
  case atStart => exact ⟨0, Nat.zero_le _, rfl, HL4.out⟩
  case round =>
    obtain ⟨k, hk, rfl, hlb⟩ := hrel
    clear HL4 x0 x1
    obtain ⟨_, x0, x1⟩ := row2_facts hlb.box
    have HLb := hide hlb
    clear hlb
    by_cases hlt : k < M
    · have hD1 := hD a k _ HLb.out.sr
      rw [(HV.out k hlt).1] at hD1
      have HS2 := hide (HSY.out.2 k hlt)
      obtain ⟨x, hx⟩ : ∃ x, dst (jn n f) a k = x := ⟨_, rfl⟩
      obtain ⟨y, hy⟩ : ∃ y, dst (jn n f) k b = y := ⟨_, rfl⟩
      rw [hx] at hD1
      rw [hx, hy] at HS2
      have hD2 := fun W h => hD k b W h
      rw [(HV.out k hlt).2, hy] at hD2
      clear hx hy
      by_cases hx1 : x = 1
      · have hxe : (x == 1) = true := by simpa using hx1
        by_cases hy1 : y = d - 1
        · have hye : (y == d - 1) = true := by simpa using hy1
          have hle : h ≤ k := HS2.out.1 ⟨hx1, hy1⟩
          have hgd : decide ((k : Int) < h) = false := by simp; omega
          by_cases hkh : (k : Int) = h
          · have hke : ((k : Int) == h) = true := by simpa using hkh
            clear hx1 hy1 hkh hle HS2
            go_wp2_with fail
            refine hD1.mono ?_
            rintro e w5 ⟨rfl, hb5⟩
            have HL5 := hide (HLb.out.next hb5)
            clear HLb hb5 x0 x1 hD1
            obtain ⟨_, x0, x1⟩ := row2_facts HL5.out.box
            go_wp2_with fail
            refine (hD2 _ HL5.out.sr).mono ?_
            rintro e w6 ⟨rfl, hb6⟩
            have HL6 := hide (HL5.out.next hb6)
            clear HL5 hb6 x0 x1 hD2
            go_wp2
            go_roundw
            case rel => exact ⟨k + 1, by omega, by go_num, HL6.out⟩
            case measure => simp [intOf]; omega
          · have hke : ((k : Int) == h) = false := by simpa using hkh
            clear hx1 hy1 hkh hle HS2
            go_wp2_with fail
            refine hD1.mono ?_
            rintro e w5 ⟨rfl, hb5⟩
            have HL5 := hide (HLb.out.next hb5)
            clear HLb hb5 x0 x1 hD1
            obtain ⟨_, x0, x1⟩ := row2_facts HL5.out.box
            go_wp2_with fail
            refine (hD2 _ HL5.out.sr).mono ?_
            rintro e w6 ⟨rfl, hb6⟩
            have HL6 := hide (HL5.out.next hb6)
            clear HL5 hb6 x0 x1 hD2
            go_wp2
            go_roundw
            case rel => exact ⟨k + 1, by omega, by go_num, HL6.out⟩
            case measure => simp [intOf]; omega
        · have hye : (y == d - 1) = false := by simpa using hy1
          have hkh : ¬ (k : Int) = h := fun e => hy1 (HS2.out.2 e).2
          have hke : ((k : Int) == h) = false := by simpa using hkh
          clear hx1 hy1 hkh HS2
          go_wp2_with fail
          refine hD1.mono ?_
          rintro e w5 ⟨rfl, hb5⟩
          have HL5 := hide (HLb.out.next hb5)
          clear HLb hb5 x0 x1 hD1
          obtain ⟨_, x0, x1⟩ := row2_facts HL5.out.box
          go_wp2_with fail
          refine (hD2 _ HL5.out.sr).mono ?_
          rintro e w6 ⟨rfl, hb6⟩
          have HL6 := hide (HL5.out.next hb6)
          clear HL5 hb6 x0 x1 hD2
          go_wp2
          go_roundw
          case rel => exact ⟨k + 1, by omega, by go_num, HL6.out⟩
          case measure => simp [intOf]; omega
      · have hxe : (x == 1) = false := by simpa using hx1
        have hkh : ¬ (k : Int) = h := fun e => hx1 (HS2.out.2 e).1
        have hke : ((k : Int) == h) = false := by simpa using hkh
        clear hx1 hkh HS2
        go_wp2_with fail
        refine hD1.mono ?_
        rintro e w5 ⟨rfl, hb5⟩
        have HL5 := hide (HLb.out.next hb5)
        clear HLb hb5 x0 x1 hD1 hD2
        go_wp2
        go_roundw
        case rel => exact ⟨k + 1, by omega, by go_num, HL5.out⟩
        case measure => simp [intOf]; omega
    · go_wp2
      go_ret
      exact ⟨rfl, HLb.out.bl⟩

set_option maxRecDepth 100000 in
theorem lifted (os : Os) (started : os.Started) (H : Type) (enc : TypeId × Value → H) :
    ReturnsInHanded {} Try.checked os 5 .any (Rows.fnNextHopSpec.pre6 enc Try.prog Try.f5 Rows.fnNextHopRow.domain false) (Rows.fnNextHopSpec.post enc Try.prog Try.f5 false true false false) := by
  refine returnsInHanded_of_change (C := Try.checked) own started (by kernel_rfl) Try.func5
    (ChangeSpec.witness6 (enc := enc) (C := Try.checked) false ⟨#[], #[.slice none 0 0], []⟩ 8 (by kernel_rfl) (by kernel_rfl) (by kernel_rfl) (by kernel_rfl)) ?_
  intro W base args ds gs before hval0 hW hcnd _
  have hval : ∀ (j : Nat) t v, Try.f5.params[j]? = some t → args[j]? = some v → Value.okWide Try.prog W .any base t v := hval0
  have hW' := hW
  obtain ⟨p, q, hA0, hV, rfl, hfz, hnd⟩ := hW
  have hA : DataW.TrodAll enc Try.prog W 0 (fun _ => true) true Try.f5.params.toList args.toList ds p := hA0
  rw [Try.params5] at hA hval
  obtain ⟨v0, vs0, d0, ds0, p0, q0, hargs, rfl, rfl, h0, r0⟩ := trodAll_cons hA
  obtain ⟨rfl, rfl, rfl⟩ := trodAll_nil r0
  obtain rfl : args = #[v0] := by cases args; simp_all
  obtain ⟨rfl, rfl⟩ := trodVars_none hV
  obtain ⟨a0, len0, cap0, rfl⟩ := okWide_slice Try.underlying22 (hval 0 22 v0 rfl rfl)
  have k0 := h0
  have lt0 : ∀ x ∈ p0, x.block < W.heap.size := by obtain ⟨m, hm⟩ := k0; exact DataW.trod_lt m _ _ _ hm
  obtain ⟨z0, w0⟩ : ∃ zs, IsRow .u8 W a0 len0 cap0 zs := by
    obtain ⟨fuel, hf⟩ := h0
    rcases open_ints Try.underlying22 Try.underlying5 (by kernel_rfl) hf with ⟨hcs, _⟩ | ⟨x, l, c, zs, hcs, _, hl, hm, hz, _, hcell, hwz⟩
    · simp [Value.cells] at hcs
      obtain ⟨rfl, rfl, rfl⟩ := hcs
      exact ⟨[], .inl ⟨rfl, rfl, rfl, rfl⟩⟩
    · simp [Value.cells] at hcs
      obtain ⟨rfl, rfl, rfl⟩ := hcs
      exact ⟨zs, .inr ⟨_, rfl, hl, hm, by simpa using hz, hcell, hwz⟩⟩
  clear hA0 hval0
  refine (walk a0 len0 cap0 W (row_bt w0)).mono fun e W' ⟨he, bel⟩ => ?_
  subst he
  exact ⟨_, rfl, _, _, _, [], _, [], hW', trodAll_mk1 (shut_bool Try.underlying4 _), (trodAll_cons_mk (Below.trod laidOut (by kernel_rfl) (of_decide_eq_true (by kernel_rfl)) k0 bel lt0) trodAll_mk0), rfl, bel.frame _, fun h => by cases h⟩

theorem over : Rows.fnNextHopRow.holds Try.pinned (OpenSpec.ofChange Rows.fnNextHopSpec) :=
  OpenClaim.holds_of_wide 5 Try.f5 rfl rfl rfl rfl rfl rfl rfl ⟨rfl, rfl, rfl, rfl, rfl⟩ rfl rfl rfl rfl rfl (by kernel_rfl) Try.func5 (by kernel_rfl)
    (of_decide_eq_true (by kernel_rfl)) (by unfold Func.isWrapper; first | (rw [if_pos (by decide +kernel)]; kernel_rfl) | (rw [if_neg (by decide +kernel)]; exact ⟨rfl, rfl⟩))
    (fun os started H enc _ => lifted os started H enc)

theorem proved : Rows.FnNextHopSaid := over
end Go.Proofs.Ytgafpepmmjjaaaa.fnNextHop

namespace Go.Proofs.Ytgafpepmmjjaaaa
theorem fnNextHop_holds : Rows.FnNextHopSaid := fnNextHop.proved
end Go.Proofs.Ytgafpepmmjjaaaa
