/- spec.NetOk (written by mkNtE.py) -/
import Derived.Test.YtgafpepmmjjaaaaNtD
namespace Go.Proofs.Ytgafpepmmjjaaaa
open Go.RowKit
set_option linter.unusedVariables false
set_option linter.unusedSimpArgs false

theorem lk_no1 {N : Int} {f : Nat → Nat → Int} {k : Nat} (h : inB (f k 0) 0 N = false) : lkB N f k = false := by
  simp only [lkB, inB, Bool.and_eq_false_iff, decide_eq_false_iff_not] at *
  omega
theorem lk_no2 {N : Int} {f : Nat → Nat → Int} {k : Nat} (h0 : inB (f k 0) 0 N = true) (h : inB (f k 1) (f k 0 + 1) N = false) : lkB N f k = false := by
  simp only [lkB, inB, Bool.and_eq_false_iff, decide_eq_false_iff_not, decide_eq_true_eq] at *
  omega
theorem lk_no3 {N : Int} {f : Nat → Nat → Int} {k : Nat} (hk : k ≠ 0) (h : ahB (f (k - 1) 0) (f (k - 1) 1) (f k 0) (f k 1) = false) : lkB N f k = false := by
  simp [lkB, h, hk]
theorem lk_yes {N : Int} {f : Nat → Nat → Int} {k : Nat} (h0 : inB (f k 0) 0 N = true) (h1 : inB (f k 1) (f k 0 + 1) N = true) (h : k = 0 ∨ ahB (f (k - 1) 0) (f (k - 1) 1) (f k 0) (f k 1) = true) : lkB N f k = true := by
  have e : (decide (k = 0) || ahB (f (k - 1) 0) (f (k - 1) 1) (f k 0) (f k 1)) = true := by
    rcases h with h | h
    · rw [decide_eq_true h]; rfl
    · rw [h, Bool.or_true]
  rw [lkB, e]
  simp only [inB, Bool.and_eq_true, decide_eq_true_eq] at *
  exact ⟨⟨⟨by omega, by omega⟩, by omega, by omega⟩, trivial⟩

set_option maxHeartbeats 4000000 in
set_option maxRecDepth 20000 in
theorem specNetOk_any (N : Int) (v : Value) (n : Nat) (f : Nat → Nat → Int) (w : World) (hs : Sr w v 2 n f) (hl : n ≤ 1048576) :
    Calls Try.prog 13 #[.agg (nt N v)] w fun e w' => e = .returned (.bool (netB N n f)) ∧ Below w.heap.size w w' := by
  obtain ⟨ad, cap, rfl, hs⟩ := hs
  have hB0 : Below w.heap.size w (w.alloc (.cells (nt N (.slice ad n cap)) 26)) := (Below.refl _ _).alloc (Nat.le_refl _) _
  have hbx : (w.alloc (.cells (nt N (.slice ad n cap)) 26)).heap[w.heap.size]? = some (.cells (nt N (.slice ad n cap)) 26 (0, 0)) := heap_alloc_new _ _
  have h0 := fun w => l1InB N 1 6 w
  cases hN : inB N 1 7
  · have HO : Hid (false = netB N n f) := hide (by rw [netB, hN]; rfl)
    simp only [show (6 : Int) + 1 = 7 from rfl, hN] at h0
    clear hs hbx hN
    go_enter Try.func13, Try.ntmps13
    go_wp2_with fail
    refine (h0 _).mono ?_
    rintro e w2 ⟨rfl, rfl⟩
    clear h0
    go_wp2
    go_ret
    exact ⟨ret_b HO.out, hB0⟩
  simp only [show (6 : Int) + 1 = 7 from rfl, hN] at h0
  have HN := hide hN
  have hNN : 1 ≤ N ∧ N < 7 := by simpa [inB] using hN
  clear hN
  have hwN : wrap64 (N - 1) = N - 1 := Go.IntWalk.wrap64_in _ (by omega)
  go_enter Try.func13, Try.ntmps13
  go_wp2_with fail
  refine (h0 _).mono ?_
  rintro e w2 ⟨rfl, rfl⟩
  clear h0
  go_wp2
  go_loopw [3] (fun i wr => ∃ k : Nat, k ≤ n ∧ i = .int .i64 k ∧ wr.heap[w.heap.size]? = some (.cells (nt N (.slice ad n cap)) 26 (0, 0)) ∧ Below w.heap.size w wr ∧ Hid (∀ j, j < k → lkB N f j = true)) (fun i _ => n - (intOf i).toNat)
  case atStart => exact ⟨0, Nat.zero_le _, rfl, hbx, hB0, hide (fun j hj => by omega)⟩
  case round =>
    obtain ⟨k, hk, rfl, hbk0, hbk, HA⟩ := hrel
    clear hbx hB0
    obtain ⟨_, n0, n1⟩ := row2_facts hbk0
    by_cases hlt : k < n
    · obtain ⟨p, off, rfl, hc⟩ := hs (by omega)
      have q0 : wr.cell? ⟨p, off + k * 2, none⟩ = some (.int .i64 (f k 0)) := Below.keep hbk _ _ (hc k hlt 0 (by decide))
      have q1 : wr.cell? ⟨p, off + k * 2 + 1, none⟩ = some (.int .i64 (f k 1)) := Below.keep hbk _ _ (hc k hlt 1 (by decide))
      have h1 := fun w => l1InB (f k 0) 0 (N - 1) w
      have h2 := fun w => l1InB (f k 1) (f k 0 + 1) (N - 1) w
      simp only [Int.sub_add_cancel] at h1 h2
      have HN2 : Hid (lkB N f k = false → false = netB N n f) := hide (fun h => net_no hlt h)
      cases hx : inB (f k 0) 0 N
      · have HO := hide (HN2.out (lk_no1 hx))
        rw [hx] at h1
        clear hx hc hs HA h2 HN2 HN
        go_wp2_with fail
        refine (h1 _).mono ?_
        rintro e w2 ⟨rfl, rfl⟩
        clear h1
        go_wp2
        go_ret
        exact ⟨ret_b HO.out, hbk⟩
      have hxx : 0 ≤ f k 0 ∧ f k 0 < N := by simpa [inB] using hx
      have hwa : wrap64 (f k 0 + 1) = f k 0 + 1 := Go.IntWalk.wrap64_in _ (by omega)
      rw [hx] at h1
      cases hy : inB (f k 1) (f k 0 + 1) N
      · have HO := hide (HN2.out (lk_no2 hx hy))
        rw [hy] at h2
        clear hx hy hc hs HA HN2 HN
        go_wp2_with fail
        refine (h1 _).mono ?_
        rintro e w2 ⟨rfl, rfl⟩
        clear h1
        go_wp2_with fail
        refine (h2 _).mono ?_
        rintro e w3 ⟨rfl, rfl⟩
        clear h2
        go_wp2
        go_ret
        exact ⟨ret_b HO.out, hbk⟩
      rw [hy] at h2
      have HG : Hid ((k = 0 ∨ ahB (f (k - 1) 0) (f (k - 1) 1) (f k 0) (f k 1) = true) → ∀ j, j < k + 1 → lkB N f j = true) := hide (fun hh j hj => by
        by_cases e : j = k
        · rw [e]; exact lk_yes hx hy hh
        · exact HA.out j (by omega))
      have HO3 : Hid (k ≠ 0 → ahB (f (k - 1) 0) (f (k - 1) 1) (f k 0) (f k 1) = false → false = netB N n f) := hide (fun h ha => HN2.out (lk_no3 h ha))
      clear hx hy HA HN2 hxx
      by_cases hk0 : k = 0
      · have HA2 := hide (HG.out (.inl hk0))
        have hd0 : decide (0 < k) = false := by simp; omega
        have hd1 : decide ((0 : Int) < (k : Int)) = false := by simp; omega
        clear hc hs HG HO3 hk0
        go_wp2_with fail
        refine (h1 _).mono ?_
        rintro e w2 ⟨rfl, rfl⟩
        clear h1
        go_wp2_with fail
        refine (h2 _).mono ?_
        rintro e w3 ⟨rfl, rfl⟩
        clear h2
        go_wp2
        go_roundw
        case rel => exact ⟨k + 1, by omega, by go_num, hbk0, hbk, HA2⟩
        case measure => simp [intOf]; omega
      have HO4 := hide (HO3.out hk0)
      have p0 : wr.cell? ⟨p, off + (k - 1) * 2, none⟩ = some (.int .i64 (f (k - 1) 0)) := Below.keep hbk _ _ (hc (k - 1) (by omega) 0 (by decide))
      have p1 : wr.cell? ⟨p, off + (k - 1) * 2 + 1, none⟩ = some (.int .i64 (f (k - 1) 1)) := Below.keep hbk _ _ (hc (k - 1) (by omega) 1 (by decide))
      have hd0 : 0 < k := by omega
      have hd1 : (0 : Int) < (k : Int) := by omega
      clear hc hs hk0 HO3
      go_wp2_with fail
      refine (h1 _).mono ?_
      rintro e w2 ⟨rfl, rfl⟩
      clear h1
      go_wp2_with fail
      refine (h2 _).mono ?_
      rintro e w3 ⟨rfl, rfl⟩
      clear h2
      generalize f (k - 1) 0 = a0 at p0 HG HO4
      generalize f (k - 1) 1 = b0 at p1 HG HO4
      by_cases c1 : f k 0 < a0
      · have c1' : ¬ a0 < f k 0 := by omega
        have c1e : ¬ a0 = f k 0 := by omega
        have HO := hide (HO4.out (by simp [ahB, c1', c1e] <;> omega))
        clear HG HO4
        go_wp2
        go_ret
        exact ⟨ret_b HO.out, hbk⟩
      have c1d : decide (f k 0 < a0) = false := by simp; omega
      by_cases c2 : a0 = f k 0
      · by_cases c3 : f k 1 ≤ b0
        · have c3' : ¬ b0 < f k 1 := by omega
          have c3d : decide (f k 1 ≤ b0) = true := by simp; omega
          have c2d : decide (a0 = f k 0) = true := by simpa using c2
          have HO := hide (HO4.out (by simp [ahB]; omega))
          clear HG HO4 c1
          go_wp2
          go_ret
          exact ⟨ret_b HO.out, hbk⟩
        · have c3' : b0 < f k 1 := by omega
          have c3d : decide (f k 1 ≤ b0) = false := by simp; omega
          have HA2 := hide (HG.out (.inr (by simp [ahB, c2, c3'])))
          clear HG HO4 c1 c3'
          go_wp2
          go_roundw
          case rel => exact ⟨k + 1, by omega, by go_num, hbk0, hbk, HA2⟩
          case measure => simp [intOf]; omega
      · have c2d : decide (a0 = f k 0) = false := by simpa using c2
        have HA2 := hide (HG.out (.inr (by simp [ahB]; omega)))
        clear HG HO4 c1
        go_wp2
        go_roundw
        case rel => exact ⟨k + 1, by omega, by go_num, hbk0, hbk, HA2⟩
        case measure => simp [intOf]; omega
    · have e : k = n := by omega
      subst e
      have HO : Hid (true = netB N k f) := hide (net_yes HN.out HA.out)
      clear hs
      go_wp2
      go_ret
      exact ⟨ret_b HO.out, hbk⟩

end Go.Proofs.Ytgafpepmmjjaaaa
