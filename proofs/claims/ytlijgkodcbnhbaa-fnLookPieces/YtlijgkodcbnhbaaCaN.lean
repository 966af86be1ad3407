/- spec.CacheOk -/
import Derived.Test.YtlijgkodcbnhbaaCaK
import Derived.Test.YtlijgkodcbnhbaaPlR
import Derived.BigQuiet
namespace Go.Proofs.Ytlijgkodcbnhbaa
open Go.RowKit
set_option linter.unusedVariables false
set_option linter.unusedSimpArgs false

namespace Ca
def cokB (n : Nat) (L : Nat → Nat) (D : Nat → Sm) : Bool := decide (n = 2) && okB L D
theorem okB_len {L : Nat → Nat} {D : Nat → Sm} {c : Nat} (hc : c < 2) (h : ¬ L c = 4) : okB L D = false := by
  have : c = 0 ∨ c = 1 := by omega
  rcases this with rfl | rfl <;> simp [okB, h]
theorem okB_set {L : Nat → Nat} {D : Nat → Sm} {c : Nat} (hc : c < 2) (h : rightB (D c) c = false) : okB L D = false := by
  have : c = 0 ∨ c = 1 := by omega
  rcases this with rfl | rfl <;> simp [okB, h]
theorem okB_yes {L : Nat → Nat} {D : Nat → Sm} (h : ∀ c, c < 2 → L c = 4 ∧ rightB (D c) c = true) : okB L D = true := by
  simp [okB, (h 0 (by omega)).1, (h 0 (by omega)).2, (h 1 (by omega)).1, (h 1 (by omega)).2]
theorem rightB_bits {s : Sm} {c : Nat} (h : inR s.b 7 = false) : rightB s c = false := by simp [rightB, h]
theorem fst_yes {s : Sm} {k : Nat} (hk : k < 4) (hu : s.u k = true) (h : ∀ n, n < k → at_ s true (s.a k) n = false) : fst s true (s.a k) = k := by
  have hy : at_ s true (s.a k) k = true := at_yes hu rfl
  have : k = 0 ∨ k = 1 ∨ k = 2 ∨ k = 3 := by omega
  rcases this with rfl | rfl | rfl | rfl
  · simp [fst, hy]
  · simp [fst, hy, h 0 (by omega)]
  · simp [fst, hy, h 0 (by omega), h 1 (by omega)]
  · simp [fst, hy, h 0 (by omega), h 1 (by omega), h 2 (by omega)]
theorem fst_no {s : Sm} {k n : Nat} {x : Int} (hk : k < 4) (hn : n < k) (h : at_ s true x n = true) : ¬ fst s true x = k := by
  have hle : fst s true x ≤ n := by
    have : n = 0 ∨ n = 1 ∨ n = 2 := by omega
    rcases this with rfl | rfl | rfl
    · simp [fst, h]
    · unfold fst; split
      · decide
      · simp [h]
    · unfold fst; split
      · decide
      · split
        · decide
        · simp [h]
  omega
theorem wayB_yes {s : Sm} {c k : Nat} (hk : k < 4) (hu : s.u k = true) (ha : inR (s.a k) 1000 = true) (hp : s.a k % 2 = c) (h : ∀ n, n < k → at_ s true (s.a k) n = false) : wayB s c k = true := by
  rw [wayB_on hu, ha, decide_eq_true hp, decide_eq_true (fst_yes hk hu h)]; rfl
theorem wayB_twice {s : Sm} {c k n : Nat} (hk : k < 4) (hn : n < k) (hu : s.u k = true) (h : at_ s true (s.a k) n = true) : wayB s c k = false := by
  rw [wayB_on hu, decide_eq_false (fst_no hk hn h)]; simp
theorem wayB_range {s : Sm} {c k : Nat} (hu : s.u k = true) (ha : inR (s.a k) 1000 = false) : wayB s c k = false := by rw [wayB_on hu, ha]; rfl
theorem wayB_par {s : Sm} {c k : Nat} (hu : s.u k = true) (hp : ¬ s.a k % 2 = c) : wayB s c k = false := by rw [wayB_on hu, decide_eq_false hp]; simp
end Ca

theorem allocd {w : World} {a : Addr} {u : Value} (h : w.cell? a = some u) : ∀ o : Obj, (w.alloc o).cell? a = some u := fun o => allocc h o

set_option maxHeartbeats 4000000 in
set_option maxRecDepth 20000 in
theorem specCacheOk_any (v : Value) (n : Nat) (L : Nat → Nat) (D : Nat → Sm) (w : World) (hv : Cv w v n L D) :
    Calls Try.prog 17 #[.agg #[v]] w fun e w' => e = .returned (.bool (Ca.cokB n L D)) ∧ Below w.heap.size w w' := by
  obtain ⟨ad, cap, rfl, hv⟩ := hv
  by_cases hn : n = 2
  rotate_left
  · have hd : ((n : Int) != 2) = true := by simp; omega
    have HO : Hid (Ca.cokB n L D = false) := hide (by rw [Ca.cokB, decide_eq_false hn]; rfl)
    clear hv hn
    go_enter Try.func17, Try.ntmps17
    go_wp2
    go_ret
    exact ⟨ret_b HO.out.symm, (Below.refl _ _).alloc (Nat.le_refl _) _⟩
  subst hn
  have HQ : Hid (Ca.cokB 2 L D = Ca.okB L D) := hide rfl
  rw [HQ.out]
  obtain ⟨b, off, rfl, hv2⟩ := hv (by omega)
  clear hv HQ
  go_enter Try.func17, Try.ntmps17
  go_wp2
  go_loopw [3] (fun i wr => ∃ k : Nat, k ≤ 2 ∧ i = .int .i64 k ∧ wr.cell? ⟨w.heap.size, 0, none⟩ = some (.slice (some ⟨b, off, none⟩) 2 cap) ∧ Hid (Below w.heap.size w wr) ∧ Hid (∀ c, c < k → L c = 4 ∧ Ca.rightB (D c) c = true)) (fun i _ => 2 - (intOf i).toNat)
  case atStart => exact ⟨0, by omega, rfl, cell_of_row _ _ 0 _ _ _ (heap_alloc_new _ _), hide ((Below.refl _ _).alloc (Nat.le_refl _) _), hide (fun c hc => by omega)⟩
  case round =>
    obtain ⟨k, hk, rfl, hx, HB, HN⟩ := hrel
    by_cases hlt : k < 2
    rotate_left
    · have e : k = 2 := by omega
      subst e
      have HO := hide (Ca.okB_yes HN.out)
      go_wp2
      go_ret
      exact ⟨ret_b HO.out.symm, HB.out⟩
    obtain ⟨ia, ic, q0', q1', hr0⟩ := hv2 k hlt
    have q0 : wr.cell? ⟨b, off + k * 2, none⟩ = some (.int .i64 (D k).b) := Below.keep HB.out _ _ q0'
    have q1 : wr.cell? ⟨b, off + k * 2 + 1, none⟩ = some (.slice ia (L k) ic) := Below.keep HB.out _ _ q1'
    have HR0 := hide hr0
    clear q0' q1' hr0
    obtain ⟨W1, hW1⟩ : ∃ W1, wr.alloc (.cells #[.int .i64 (D k).b, .slice ia (L k) ic] 58) = W1 := ⟨_, rfl⟩
    have e0 : W1.cell? ⟨wr.heap.size, 0, none⟩ = some (.int .i64 (D k).b) := by rw [← hW1]; exact box2.1
    have e1 : W1.cell? ⟨wr.heap.size, 1, none⟩ = some (.slice ia (L k) ic) := by rw [← hW1]; exact box2.2
    have hx1 : W1.cell? ⟨w.heap.size, 0, none⟩ = some (.slice (some ⟨b, off, none⟩) 2 cap) := by rw [← hW1]; exact allocc hx _
    have HB1 : Hid (Below w.heap.size w W1) := hide (by rw [← hW1]; exact below_a HB.out (Nat.le_refl _) _)
    have h1 := fun w => l1In_any (D k).b 7 w
    cases hb7 : inR (D k).b 7
    · have HO : Hid (Ca.okB L D = false) := hide (Ca.okB_set hlt (Ca.rightB_bits hb7))
      rw [hb7] at h1
      clear hb7 hv2
      go_wp2_with fail
      refine (h1 _).mono ?_
      rintro e w2 ⟨rfl, rfl⟩
      go_wp2
      go_ret
      exact ⟨ret_b HO.out.symm, HB1.out⟩
    rw [hb7] at h1
    have HB7 := hide hb7
    clear hb7
    by_cases hL : L k = 4
    rotate_left
    · have HO : Hid (Ca.okB L D = false) := hide (Ca.okB_len hlt hL)
      have hd : ((L k : Int) != 4) = true := by simp; omega
      clear hv2
      go_wp2_with fail
      refine (h1 _).mono ?_
      rintro e w2 ⟨rfl, rfl⟩
      go_wp2
      go_ret
      exact ⟨ret_b HO.out.symm, HB1.out⟩
    have HL := hide hL
    obtain ⟨ia', ic', hvx, hw⟩ := HR0.out
    simp only [Value.slice.injEq, true_and] at hvx
    obtain ⟨rfl, rfl⟩ := hvx
    rw [hL] at hw q1 e1 hW1
    obtain ⟨p, po, rfl, hw2⟩ := hw (by omega)
    have HW2 := hide hw2
    have HV2 := hide hv2
    clear hw hL HR0 hw2 hv2
    go_wp2_with fail
    refine (h1 _).mono ?_
    rintro e w2 ⟨rfl, rfl⟩
    go_wp2
    clear hW1 e0 q0 q1 hx h1
    obtain ⟨B1, hB1⟩ : ∃ B1, wr.heap.size = B1 := ⟨_, rfl⟩
    rw [hB1] at e1
    rw [hB1]
    clear hB1
    go_loopw [5] (fun i wr2 => ∃ j : Nat, j ≤ 4 ∧ i = .int .i64 j ∧ wr2.cell? ⟨w.heap.size, 0, none⟩ = some (.slice (some ⟨b, off, none⟩) 2 cap) ∧ wr2.cell? ⟨B1, 1, none⟩ = some (.slice (some ⟨p, po, none⟩) 4 ic) ∧ Hid (Below w.heap.size w wr2) ∧ Hid (∀ m, m < j → Ca.wayB (D k) k m = true)) (fun i _ => 4 - (intOf i).toNat)
    case atStart => exact ⟨0, by omega, rfl, hx1, e1, HB1, hide (fun m hm => by omega)⟩
    case round =>
      clear hx1 e1 HB1 HB
      obtain ⟨j, hj, rfl, hx, e1, HB, HM⟩ := hrel
      by_cases hjl : j < 4
      rotate_left
      · have e : j = 4 := by omega
        subst e
        have HN2 : Hid (∀ c, c < k + 1 → L c = 4 ∧ Ca.rightB (D c) c = true) := hide (fun c hc => by
          by_cases e : c = k
          · subst e; exact ⟨HL.out, by rw [Ca.rightB_end HM.out]; exact HB7.out⟩
          · exact HN.out c (by omega))
        go_wp2
        exact ⟨⟨k + 1, by omega, by go_num, hx, HB, HN2⟩, by simp [intOf]; omega⟩
      have q0 : wr.cell? ⟨p, po + j * 2, none⟩ = some (.bool ((D k).u j)) := Below.keep HB.out _ _ (HW2.out j hjl).1
      have q1 : wr.cell? ⟨p, po + j * 2 + 1, none⟩ = some (.int .i64 ((D k).a j)) := Below.keep HB.out _ _ (HW2.out j hjl).2
      obtain ⟨W3, hW3⟩ : ∃ W3, wr.alloc (.cells #[.bool ((D k).u j), .int .i64 ((D k).a j)] 40) = W3 := ⟨_, rfl⟩
      have f0 : W3.cell? ⟨wr.heap.size, 0, none⟩ = some (.bool ((D k).u j)) := by rw [← hW3]; exact box2.1
      have f1 : W3.cell? ⟨wr.heap.size, 1, none⟩ = some (.int .i64 ((D k).a j)) := by rw [← hW3]; exact box2.2
      have hx3 : W3.cell? ⟨w.heap.size, 0, none⟩ = some (.slice (some ⟨b, off, none⟩) 2 cap) := by rw [← hW3]; exact allocc hx _
      have e3 : W3.cell? ⟨B1, 1, none⟩ = some (.slice (some ⟨p, po, none⟩) 4 ic) := by rw [← hW3]; exact allocc e1 _
      have HB3 : Hid (Below w.heap.size w W3) := hide (by rw [← hW3]; exact below_a HB.out (Nat.le_refl _) _)
      cases hu : (D k).u j
      · have HW := hide (Ca.wayB_off (c := k) hu)
        rw [hu] at q0 f0 hW3
        clear hu
        by_cases h0 : (D k).a j = 0
        · have HM2 : Hid (∀ m, m < j + 1 → Ca.wayB (D k) k m = true) := hide (fun m hm => by
            by_cases e : m = j
            · subst e; rw [HW.out]; exact decide_eq_true h0
            · exact HM.out m (by omega))
          rw [h0] at q1 f1 hW3
          subst hW3
          go_wp2
          obtain ⟨B2, hB2⟩ : ∃ B2, wr.heap.size = B2 := ⟨_, rfl⟩
          rw [hB2] at f0
          rw [hB2]
          clear hB2
          go_loopw [7] (fun i wr3 => i = .int .i64 0 ∧ wr3.cell? ⟨w.heap.size, 0, none⟩ = some (.slice (some ⟨b, off, none⟩) 2 cap) ∧ wr3.cell? ⟨B1, 1, none⟩ = some (.slice (some ⟨p, po, none⟩) 4 ic) ∧ wr3.cell? ⟨B2, 0, none⟩ = some (.bool false) ∧ Hid (Below w.heap.size w wr3)) (fun i _ => (intOf i).toNat)
          case atStart => exact ⟨rfl, hx3, e3, f0, HB3⟩
          case round =>
            clear hx3 e3 f0 f1 HB3 hx e1 q0 q1 HB
            obtain ⟨rfl, hx, e1, f0, HB⟩ := hrel
            by_cases hj0 : (0 : Int) < (j : Int)
            · go_wp2
              exact ⟨⟨j + 1, by omega, by go_num, hx, e1, HB, HM2⟩, by simp [intOf]; omega⟩
            · go_wp2
              exact ⟨⟨j + 1, by omega, by go_num, hx, e1, HB, HM2⟩, by simp [intOf]; omega⟩
        · have HO : Hid (Ca.okB L D = false) := hide (Ca.okB_set hlt (Ca.rightB_no (k := j) (by rw [HW.out]; exact decide_eq_false h0) hjl))
          have h0' : ((D k).a j != 0) = true := by simpa using h0
          go_wp2
          go_ret
          exact ⟨ret_b HO.out.symm, HB3.out⟩
      · have HU := hide hu
        rw [hu] at q0 f0 hW3
        clear hu
        have hA := fun w => l1In_any ((D k).a j) 1000 w
        cases hA7 : inR ((D k).a j) 1000
        · have HO : Hid (Ca.okB L D = false) := hide (Ca.okB_set hlt (Ca.rightB_no (k := j) (Ca.wayB_range HU.out hA7) hjl))
          rw [hA7] at hA
          clear hA7
          go_wp2_with fail
          refine (hA _).mono ?_
          rintro e w4 ⟨rfl, rfl⟩
          go_wp2
          go_ret
          exact ⟨ret_b HO.out.symm, HB3.out⟩
        · obtain ⟨h0, h1⟩ := (inR_cases hA7).1 rfl
          rw [hA7] at hA
          have HA7 := hide hA7
          clear hA7
          by_cases hp : (D k).a j % 2 = k
          rotate_left
          · have HO : Hid (Ca.okB L D = false) := hide (Ca.okB_set hlt (Ca.rightB_no (k := j) (Ca.wayB_par HU.out hp) hjl))
            have hp' : ((D k).a j % 2 != (k : Int)) = true := by simpa using hp
            go_wp2_with fail
            refine (hA _).mono ?_
            rintro e w4 ⟨rfl, rfl⟩
            go_wp2
            go_ret
            exact ⟨ret_b HO.out.symm, HB3.out⟩
          have hp' : ((D k).a j % 2 != (k : Int)) = false := by simpa using hp
          have HP := hide hp
          clear hp
          go_wp2_with fail
          refine (hA _).mono ?_
          rintro e w4 ⟨rfl, rfl⟩
          go_wp2
          clear hp' hA
          obtain ⟨B2, hB2⟩ : ∃ B2, wr.heap.size = B2 := ⟨_, rfl⟩
          rw [hB2] at f0 f1
          rw [hB2]
          clear hB2
          go_loopw [7] (fun i wr3 => ∃ m : Nat, m ≤ j ∧ i = .int .i64 m ∧ wr3.cell? ⟨w.heap.size, 0, none⟩ = some (.slice (some ⟨b, off, none⟩) 2 cap) ∧ wr3.cell? ⟨B1, 1, none⟩ = some (.slice (some ⟨p, po, none⟩) 4 ic) ∧ wr3.cell? ⟨B2, 0, none⟩ = some (.bool true) ∧ wr3.cell? ⟨B2, 1, none⟩ = some (.int .i64 ((D k).a j)) ∧ Hid (Below w.heap.size w wr3) ∧ Hid (∀ x, x < m → Ca.at_ (D k) true ((D k).a j) x = false)) (fun i _ => j - (intOf i).toNat)
          case atStart => exact ⟨0, by omega, rfl, hx3, e3, f0, f1, HB3, hide (fun x hx => by omega)⟩
          case round =>
            clear hx3 e3 f0 f1 HB3 hW3 hx e1 q0 q1 HB
            obtain ⟨m, hm, rfl, hx, e1, f0, f1, HB, HZ⟩ := hrel
            by_cases hml : m < j
            · have r0 : wr.cell? ⟨p, po + m * 2, none⟩ = some (.bool ((D k).u m)) := Below.keep HB.out _ _ (HW2.out m (by omega)).1
              have r1 : wr.cell? ⟨p, po + m * 2 + 1, none⟩ = some (.int .i64 ((D k).a m)) := Below.keep HB.out _ _ (HW2.out m (by omega)).2
              have hm0 : (0 : Int) ≤ (m : Int) := by omega
              have hm4 : (m : Int) < 4 := by omega
              cases hum : (D k).u m
              · have HZ2 : Hid (∀ x, x < m + 1 → Ca.at_ (D k) true ((D k).a j) x = false) := hide (fun x hx => by
                  by_cases e : x = m
                  · subst e; exact Ca.at_no (fun h => by rw [hum] at h; cases h.1)
                  · exact HZ.out x (by omega))
                rw [hum] at r0
                clear hum
                go_wp2
                go_quiet (fail)
                all_goals go_wp2
                exact ⟨⟨m + 1, by omega, by go_num, hx, e1, f0, f1, hide (below_drewN HB.out _), HZ2⟩, by simp [intOf]; omega⟩
              · rw [hum] at r0
                by_cases hq : (D k).a m = (D k).a j
                · have HO : Hid (Ca.okB L D = false) := hide (Ca.okB_set hlt (Ca.rightB_no (k := j) (Ca.wayB_twice hjl hml HU.out (Ca.at_yes hum hq)) hjl))
                  have hq' : ((D k).a m == (D k).a j) = true := by simpa using hq
                  clear hum hq
                  go_wp2
                  go_quiet (fail)
                  all_goals go_wp2
                  go_ret
                  exact ⟨ret_b HO.out.symm, below_drewN HB.out _⟩
                · have HZ2 : Hid (∀ x, x < m + 1 → Ca.at_ (D k) true ((D k).a j) x = false) := hide (fun x hx => by
                    by_cases e : x = m
                    · subst e; exact Ca.at_no (fun h => hq h.2)
                    · exact HZ.out x (by omega))
                  have hq' : ((D k).a m == (D k).a j) = false := by simpa using hq
                  clear hum hq
                  go_wp2
                  go_quiet (fail)
                  all_goals go_wp2
                  exact ⟨⟨m + 1, by omega, by go_num, hx, e1, f0, f1, hide (below_drewN HB.out _), HZ2⟩, by simp [intOf]; omega⟩
            · have HM2 : Hid (∀ m, m < j + 1 → Ca.wayB (D k) k m = true) := hide (fun x hx => by
                by_cases e : x = j
                · subst e; exact Ca.wayB_yes hjl HU.out HA7.out HP.out (fun y hy => HZ.out y (by omega))
                · exact HM.out x (by omega))
              have e : m = j := by omega
              subst e
              go_wp2
              exact ⟨⟨m + 1, by omega, by go_num, hx, e1, HB, HM2⟩, by simp [intOf]; omega⟩

end Go.Proofs.Ytlijgkodcbnhbaa
