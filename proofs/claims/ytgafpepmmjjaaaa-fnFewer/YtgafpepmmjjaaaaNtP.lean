/- nets: Whole and NextHop, both sides -/
import Derived.Test.YtgafpepmmjjaaaaNtO
import Derived.Deep.QuietTactic
import Derived.BigQuiet
namespace Go.Proofs.Ytgafpepmmjjaaaa
open Go.RowKit
set_option linter.unusedVariables false
set_option linter.unusedSimpArgs false

/-- every node can be reached from the first -/
noncomputable def whB (N : Int) (n : Nat) (f : Nat → Nat → Int) : Bool := netB N n f && decide (∀ v, v < N.toNat → 0 ≤ dst (jn n f) 0 (v : Nat))
theorem wh_no {N : Int} {n : Nat} {f : Nat → Nat → Int} {v : Nat} (hv : v < N.toNat) (h : dst (jn n f) 0 v < 0) : false = whB N n f := by
  rw [whB, decide_eq_false (fun hh => by have := hh v hv; omega), Bool.and_false]
theorem wh_yes {N : Int} {n : Nat} {f : Nat → Nat → Int} (hN : netB N n f = true) (h : ∀ v, v < N.toNat → 0 ≤ dst (jn n f) 0 (v : Nat)) : true = whB N n f := by
  rw [whB, hN, decide_eq_true h]; rfl
theorem wh_bad {N : Int} {n : Nat} {f : Nat → Nat → Int} {a b : Nat} (ha : a < N.toNat) (hb : b < N.toNat) (h : dst (jn n f) a b < 0) : false = whB N n f := by
  by_cases h0 : dst (jn n f) 0 a < 0
  · exact wh_no ha h0
  · by_cases h1 : dst (jn n f) 0 b < 0
    · exact wh_no hb h1
    · have w0 := dst_wk (R := jn n f) (a := 0) (b := a) (by omega)
      have w1 := dst_wk (R := jn n f) (a := 0) (b := b) (by omega)
      have := dst_le ((w0.symm (jn_comm n f)).trans w1)
      omega

set_option maxHeartbeats 4000000 in
theorem implWhole_any (N : Int) (v : Value) (n : Nat) (f : Nat → Nat → Int) (w : World) (hs : Sr w v 2 n f) (hl : n ≤ 1048576) :
    Calls Try.prog 25 #[.agg (nt N v)] w fun e w' => e = .returned (.bool (whB N n f)) ∧ Below w.heap.size w w' := by
  have HS := hide hs
  obtain ⟨ad, cap, rfl, _⟩ := hs
  have hB0 : Below w.heap.size w (w.alloc (.cells (nt N (.slice ad n cap)) 26)) := (Below.refl _ _).alloc (Nat.le_refl _) _
  have hbx : (w.alloc (.cells (nt N (.slice ad n cap)) 26)).heap[w.heap.size]? = some (.cells (nt N (.slice ad n cap)) 26 (0, 0)) := heap_alloc_new _ _
  have h1 := fun W h => implNetOk_any N (.slice ad n cap) n f W h hl
  go_enter Try.func25, Try.ntmps25
  go_wp2_with fail
  refine (h1 _ (HS.out.below hB0)).mono ?_
  rintro e w2 ⟨rfl, hb2⟩
  have hbx2 := (hb2.block _ (lt_of_block hbx)).trans hbx
  have hB2 := hB0.trans (hb2.mono hB0.size)
  clear h1 hb2 hB0 hbx
  cases hN : netB N n f
  · have HO : Hid (false = whB N n f) := hide (by rw [whB, hN]; rfl)
    clear hN
    go_wp2
    go_ret
    exact ⟨ret_b HO.out, hB2⟩
  have hnt := nt_of hN
  have hNN : 1 ≤ N ∧ N ≤ 6 := ⟨hnt.lo, hnt.hi⟩
  obtain ⟨M, rfl⟩ : ∃ M : Nat, N = M := ⟨N.toNat, by omega⟩
  have hM : M ≤ 6 := by omega
  have hD := fun a b W h => implDist_any (M : Int) (.slice ad n cap) n f a b W h hl
  have HV : Hid (∀ a b : Nat, a < M → b < M → dstA (M : Int) n f a b = dst (jn n f) a b) := hide (fun a b ha hb => dstA_yes hN (by simp [inB]; omega) (by simp [inB]; omega))
  have HN := hide hN
  clear hN hnt
  obtain ⟨_, n0, n1⟩ := row2_facts hbx2
  go_wp2
  go_loopw [10] (fun i wr => ∃ k : Nat, k ≤ M ∧ i = .int .i64 k ∧ wr.heap[w.heap.size]? = some (.cells (nt M (.slice ad n cap)) 26 (0, 0)) ∧ Below w.heap.size w wr ∧ Hid (∀ a b : Nat, a < k → b < M → 0 ≤ dst (jn n f) a b)) (fun i _ => M - (intOf i).toNat)
  case atStart => exact ⟨0, Nat.zero_le _, rfl, hbx2, hB2, hide (fun a b ha => by omega)⟩
  case round =>
    obtain ⟨k, hk, rfl, hbk, hB, HA⟩ := hrel
    clear hbx2 hB2 n0 n1
    obtain ⟨_, n0, n1⟩ := row2_facts hbk
    by_cases hlt : k < M
    · go_wp2
      go_loopw [15] (fun i wr => ∃ q : Nat, q ≤ M ∧ i = .int .i64 q ∧ wr.heap[w.heap.size]? = some (.cells (nt M (.slice ad n cap)) 26 (0, 0)) ∧ Below w.heap.size w wr ∧ Hid (∀ b : Nat, b < q → 0 ≤ dst (jn n f) k b)) (fun i _ => M - (intOf i).toNat)
      case atStart => exact ⟨0, Nat.zero_le _, rfl, hbk, hB, hide (fun b hb => by omega)⟩
      case round =>
        obtain ⟨q, hq, rfl, hbq, hBq, HA2⟩ := hrel
        clear hbk hB n0 n1
        obtain ⟨_, n0, n1⟩ := row2_facts hbq
        by_cases hqM : q < M
        · have hDk := hD k q _ (HS.out.below hBq)
          rw [HV.out k q hlt hqM] at hDk
          obtain ⟨x, hx⟩ : ∃ x, dst (jn n f) k q = x := ⟨_, rfl⟩
          have hge := dst_ge (jn n f) k q
          rw [hx] at hDk hge
          have HX := hide hx
          clear hx
          by_cases hx1 : x = -1
          · have hxe : (x == -1) = true := by simpa using hx1
            have HO : Hid (false = whB M n f) := hide (wh_bad (a := k) (b := q) (by simpa using hlt) (by simpa using hqM) (by rw [HX.out, hx1]; decide))
            clear hx1 HX
            go_wp2_with (go_at_call 10; refine hDk.mono ?_; rintro e w3 ⟨rfl, hb3⟩)
            go_ret
            exact ⟨ret_b HO.out, hBq.trans (hb3.mono hBq.size)⟩
          · have hxe : (x == -1) = false := by simpa using hx1
            have HA3 : Hid (∀ b : Nat, b < q + 1 → 0 ≤ dst (jn n f) k b) := hide (fun b hb => by
              by_cases e : b = q
              · subst e; rw [HX.out]; omega
              · exact HA2.out b (by omega))
            clear hx1 HX HA2
            go_wp2_with (go_at_call 10; refine hDk.mono ?_; rintro e w3 ⟨rfl, hb3⟩)
            have HZ := hide (And.intro ((hb3.block _ (lt_of_block hbq)).trans hbq) (hBq.trans (hb3.mono hBq.size)))
            clear hb3 hBq hbq
            go_roundw
            case rel => exact ⟨q + 1, by omega, by go_num, HZ.out.1, HZ.out.2, HA3⟩
            case measure => simp [intOf]; omega
        · have HA3 : Hid (∀ a b : Nat, a < k + 1 → b < M → 0 ≤ dst (jn n f) a b) := hide (fun a b ha hb => by
            by_cases e : a = k
            · subst e; exact HA2.out b (by omega)
            · exact HA.out a b (by omega) hb)
          clear HA HA2
          go_wp2
          go_roundw
          case rel => exact ⟨k + 1, by omega, by go_num, hbq, hBq, HA3⟩
          case measure => simp [intOf]; omega
    · have HO : Hid (true = whB M n f) := hide (wh_yes HN.out (fun v hv => by
        have := HA.out 0 v (by omega) (by simpa using hv)
        simpa using this))
      clear HA
      go_wp2
      go_ret
      exact ⟨ret_b HO.out, hB⟩

set_option maxHeartbeats 4000000 in
theorem specWhole_any (N : Int) (v : Value) (n : Nat) (f : Nat → Nat → Int) (w : World) (hs : Sr w v 2 n f) (hl : n ≤ 1048576) :
    Calls Try.prog 26 #[.agg (nt N v)] w fun e w' => e = .returned (.bool (whB N n f)) ∧ Below w.heap.size w w' := by
  have HS := hide hs
  obtain ⟨ad, cap, rfl, _⟩ := hs
  have hB0 : Below w.heap.size w (w.alloc (.cells (nt N (.slice ad n cap)) 26)) := (Below.refl _ _).alloc (Nat.le_refl _) _
  have hbx : (w.alloc (.cells (nt N (.slice ad n cap)) 26)).heap[w.heap.size]? = some (.cells (nt N (.slice ad n cap)) 26 (0, 0)) := heap_alloc_new _ _
  have h1 := fun W h => specNetOk_any N (.slice ad n cap) n f W h hl
  go_enter Try.func26, Try.ntmps26
  go_wp2_with fail
  refine (h1 _ (HS.out.below hB0)).mono ?_
  rintro e w2 ⟨rfl, hb2⟩
  have hbx2 := (hb2.block _ (lt_of_block hbx)).trans hbx
  have hB2 := hB0.trans (hb2.mono hB0.size)
  clear h1 hb2 hB0 hbx
  cases hN : netB N n f
  · have HO : Hid (false = whB N n f) := hide (by rw [whB, hN]; rfl)
    clear hN
    go_wp2
    go_ret
    exact ⟨ret_b HO.out, hB2⟩
  have hnt := nt_of hN
  have hNN : 1 ≤ N ∧ N ≤ 6 := ⟨hnt.lo, hnt.hi⟩
  obtain ⟨M, rfl⟩ : ∃ M : Nat, N = M := ⟨N.toNat, by omega⟩
  have hM : M ≤ 6 := by omega
  have h2 := fun W h => specDists_any M (.slice ad n cap) n f 0 W h hl hnt (by omega)
  have HN := hide hN
  clear hN hnt
  obtain ⟨_, n0, n1⟩ := row2_facts hbx2
  go_wp2_with fail
  refine (h2 _ (HS.out.below hB2)).mono ?_
  rintro e w3 ⟨g, cap', rfl, ho, hb3⟩
  have hB3 := hB2.trans (hb3.mono hB2.size)
  clear h2 hb3 hB2 n0 n1 hbx2
  have HO3 := hide ho
  clear ho
  go_wp2
  go_loopw [4] (fun i wr => ∃ k : Nat, k ≤ M ∧ i = .int .i64 k ∧ wr = w3 ∧ Hid (∀ v : Nat, v < k → 0 ≤ dst (jn n f) 0 v)) (fun i _ => M - (intOf i).toNat)
  case atStart => exact ⟨0, Nat.zero_le _, rfl, rfl, hide (fun v hv => by omega)⟩
  case round =>
    obtain ⟨k, hk, rfl, rfl, HA⟩ := hrel
    by_cases hlt : k < M
    · have ck := HO3.out.cell hlt
      obtain ⟨x, hx⟩ : ∃ x, dst (jn n f) ((0 : Nat) : Int) k = x := ⟨_, rfl⟩
      rw [hx] at ck
      have HX : Hid (dst (jn n f) 0 k = x) := hide hx
      clear hx
      by_cases hx1 : x < 0
      · have hxe : decide (x < 0) = true := by simpa using hx1
        have HO : Hid (false = whB M n f) := hide (wh_no (v := k) (by simpa using hlt) (by rw [HX.out]; exact hx1))
        clear hx1 HX HA
        go_wp2
        go_ret
        exact ⟨ret_b HO.out, hB3⟩
      · have hxe : decide (x < 0) = false := by simpa using hx1
        have HA3 : Hid (∀ v : Nat, v < k + 1 → 0 ≤ dst (jn n f) 0 v) := hide (fun v hv => by
          by_cases e : v = k
          · subst e; rw [HX.out]; omega
          · exact HA.out v (by omega))
        clear hx1 HX HA
        go_wp2
        go_roundw
        case rel => exact ⟨k + 1, by omega, by go_num, trivial, HA3⟩
        case measure => simp [intOf]; omega
    · have HO : Hid (true = whB M n f) := hide (wh_yes HN.out (fun v hv => HA.out v (by simp at hv; omega)))
      clear HA
      go_wp2
      go_ret
      exact ⟨ret_b HO.out, hB3⟩

end Go.Proofs.Ytgafpepmmjjaaaa
