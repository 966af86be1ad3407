/- impl: storesOk, cores, TsoOk -/
import Derived.Test.YtcocobmanlmjdaaTsD
namespace Go.Proofs.Ytcocobmanlmjdaa
open Go.RowKit
set_option linter.unusedVariables false
set_option linter.unusedSimpArgs false

def stB (n : Nat) (f : Nat → Nat → Int) : Bool := decide (n ≤ 4) && decide (∀ j, j < n → (inB (f j 0) 0 3 && inB (f j 1) 0 10) = true)
def tokB (zs : List Int) (C : Nat) (L : Nat → Nat) (F : Nat → Nat → Nat → Int) (R : Nat) (Z : Nat → List Int) : Bool := inB C 1 4 && decide (R = C) && digB zs 3 && decide (∀ c, c < C → (stB (L c) (F c) && digB (Z c) 2) = true)
theorem all_no {n : Nat} {p : Nat → Bool} {k : Nat} (hk : k < n) (h : p k = false) : decide (∀ j, j < n → p j = true) = false := decide_eq_false fun hh => by rw [hh k hk] at h; cases h

set_option maxHeartbeats 2000000 in
theorem storesOk_any (v : Value) (n : Nat) (f : Nat → Nat → Int) (w : World) (hs : Sr w v 2 n f) :
    Calls Try.prog 74 #[v] w fun e w' => e = .returned (.bool (stB n f)) ∧ Below w.heap.size w w' := by
  obtain ⟨ad, cap, rfl, hs⟩ := hs
  by_cases hn : n ≤ 4
  case neg =>
    have HO : Hid (false = stB n f) := hide (by simp [stB, hn])
    clear hs
    go_enter Try.func74, Try.ntmps74
    go_wp2
    go_ret
    exact ⟨ret_b HO.out, Below.refl _ _⟩
  go_enter Try.func74, Try.ntmps74
  go_wp2
  go_loopw [10] (fun i wr => ∃ k : Nat, k ≤ n ∧ i = .int .i64 k ∧ Below w.heap.size w wr ∧ Hid (∀ j, j < k → (inB (f j 0) 0 3 && inB (f j 1) 0 10) = true)) (fun i _ => n - (intOf i).toNat)
  case atStart => exact ⟨0, Nat.zero_le _, rfl, Below.refl _ _, hide (fun j hj => by omega)⟩
  case round =>
    obtain ⟨k, hk, rfl, hbk, HA⟩ := hrel
    by_cases hlt : k < n
    · obtain ⟨p, off, rfl, hc⟩ := hs (by omega)
      have q0 : wr.cell? ⟨p, off + k * 2, none⟩ = some (.int .i64 (f k 0)) := Below.keep hbk _ _ (hc k hlt 0 (by decide))
      have q1 : wr.cell? ⟨p, off + k * 2 + 1, none⟩ = some (.int .i64 (f k 1)) := Below.keep hbk _ _ (hc k hlt 1 (by decide))
      have h1 := fun w => isBelow_any (f k 0) 3 w
      have h2 := fun w => isBelow_any (f k 1) 10 w
      have hB2 : Below w.heap.size w (wr.alloc (.cells #[.int .i64 (f k 0), .int .i64 (f k 1)] 103)) := hbk.alloc hbk.size _
      have e0 : (wr.alloc (.cells #[.int .i64 (f k 0), .int .i64 (f k 1)] 103)).cell? ⟨wr.heap.size, 0, none⟩ = some (.int .i64 (f k 0)) := cell_of_row _ _ 0 _ _ _ (heap_alloc_new _ _)
      have e1 : (wr.alloc (.cells #[.int .i64 (f k 0), .int .i64 (f k 1)] 103)).cell? ⟨wr.heap.size, 1, none⟩ = some (.int .i64 (f k 1)) := cell_of_row _ _ 1 _ _ _ (heap_alloc_new _ _)
      cases hx : inB (f k 0) 0 3
      · have HO : Hid (false = stB n f) := hide (by rw [stB, all_no (p := fun j => inB (f j 0) 0 3 && inB (f j 1) 0 10) hlt (by simp [hx])]; simp)
        rw [hx] at h1
        clear hx hc hs HA h2
        go_wp2_with fail
        refine (h1 _).mono ?_
        rintro e w2 ⟨rfl, rfl⟩
        clear h1
        go_wp2
        go_ret
        exact ⟨ret_b HO.out, hB2⟩
      cases hy : inB (f k 1) 0 10
      · have HO : Hid (false = stB n f) := hide (by rw [stB, all_no (p := fun j => inB (f j 0) 0 3 && inB (f j 1) 0 10) hlt (by simp [hy])]; simp)
        rw [hx] at h1
        rw [hy] at h2
        clear hx hy hc hs HA
        go_wp2_with fail
        refine (h1 _).mono ?_
        rintro e w2 ⟨rfl, rfl⟩
        clear h1
        go_wp2_with fail
        refine (h2 _).mono ?_
        rintro e w2 ⟨rfl, rfl⟩
        clear h2
        go_wp2
        go_ret
        exact ⟨ret_b HO.out, hB2⟩
      have HA2 : Hid (∀ j, j < k + 1 → (inB (f j 0) 0 3 && inB (f j 1) 0 10) = true) := hide (fun j hj => by
        by_cases e : j = k
        · rw [e, hx, hy]; rfl
        · exact HA.out j (by omega))
      rw [hx] at h1
      rw [hy] at h2
      clear hx hy hc hs HA
      go_wp2_with fail
      refine (h1 _).mono ?_
      rintro e w2 ⟨rfl, rfl⟩
      clear h1
      go_wp2_with fail
      refine (h2 _).mono ?_
      rintro e w2 ⟨rfl, rfl⟩
      clear h2
      go_wp2
      go_roundw
      case rel => exact ⟨k + 1, by omega, by go_num, hB2, HA2⟩
      case measure => simp [intOf]; omega
    · have e : k = n := by omega
      subst e
      have HO : Hid (true = stB k f) := hide (by rw [stB, decide_eq_true hn, decide_eq_true HA.out]; rfl)
      clear hs HA
      go_wp2
      go_ret
      exact ⟨ret_b HO.out, hbk⟩

theorem cores_any (mv : Value) (ba : Option Addr) (C bc : Nat) (ra : Option Addr) (R rc : Nat) (ma : Option Addr) (n mc : Nat) (w : World) : Calls Try.prog 72 #[.agg #[.slice ma n mc, .slice ba C bc, .slice ra R rc]] w fun e w' => e = .returned (.int .i64 C) ∧ Below w.heap.size w w' := by
  have HB : Hid (Below w.heap.size w (w.alloc (.cells #[.slice ma n mc, .slice ba C bc, .slice ra R rc] 37))) := hide ((Below.refl _ _).alloc (Nat.le_refl _) _)
  go_enter Try.func72, Try.ntmps72
  go_wp2
  go_ret
  exact ⟨rfl, HB.out⟩

set_option maxHeartbeats 4000000 in
theorem implTsoOk_any (mv bv rv : Value) (zs : List Int) (C : Nat) (L : Nat → Nat) (F : Nat → Nat → Nat → Int) (R : Nat) (Z : Nat → List Int) (w : World) (h : Tv w mv bv rv zs C L F R Z) :
    Calls Try.prog 56 #[.agg #[mv, bv, rv]] w fun e w' => e = .returned (.bool (tokB zs C L F R Z)) ∧ Below w.heap.size w w' := by
  have hB0 : Below w.heap.size w (w.alloc (.cells #[mv, bv, rv] 37)) := (Below.refl _ _).alloc (Nat.le_refl _) _
  obtain ⟨a0, a1, a2⟩ := box3 w mv bv rv 37
  have HT := hide h
  obtain ⟨⟨ma, mc, rfl, _⟩, ⟨ba, bc, rfl, hbuf⟩, ⟨ra, rc, rfl, hreg⟩⟩ := h
  have hco := fun W => cores_any (.slice none 0 0) ba C bc ra R rc ma zs.length mc W
  have hbo := fun W => buffersOk_any (C : Int) W
  have hdg := fun W h => digitsOk_any (.slice ma zs.length mc) zs 3 W h (by decide)
  cases hx : inB C 1 4
  · have HO : Hid (false = tokB zs C L F R Z) := hide (by simp [tokB, hx])
    rw [hx] at hbo
    clear hx hbuf hreg
    go_enter Try.func56, Try.ntmps56
    go_wp2_with fail
    refine (hco _).mono ?_
    rintro e w1 ⟨rfl, hb1⟩
    have HB := hide (hB0.trans (hb1.mono hB0.size))
    clear hco hb1 hB0 HT
    go_wp2_with fail
    refine (hbo _).mono ?_
    rintro e w2 ⟨rfl, rfl⟩
    clear hbo hdg
    go_wp2
    go_ret
    exact ⟨ret_b HO.out, HB.out⟩
  rw [hx] at hbo
  have hC4 : 1 ≤ C ∧ C ≤ 3 := by simp [inB] at hx; omega
  go_enter Try.func56, Try.ntmps56
  go_wp2_with fail
  refine (hco _).mono ?_
  rintro e w1 ⟨rfl, hb1⟩
  have hB1 := hB0.trans (hb1.mono hB0.size)
  have d0 := keepc hb1 a0
  have d1 := keepc hb1 a1
  have d2 := keepc hb1 a2
  clear hco hb1 hB0 a0 a1 a2
  go_wp2_with fail
  refine (hbo _).mono ?_
  rintro e w2 ⟨rfl, rfl⟩
  clear hbo
  by_cases hR : R = C
  case neg =>
    have HO : Hid (false = tokB zs C L F R Z) := hide (by simp [tokB, hR])
    have hne : ¬ (R : Int) = (C : Int) := by omega
    clear hx hbuf hreg HT hdg
    go_wp2
    go_ret
    exact ⟨ret_b HO.out, hB1⟩
  subst hR
  cases hy : digB zs 3
  · have HO : Hid (false = tokB zs R L F R Z) := hide (by simp [tokB, hy])
    rw [hy] at hdg
    clear hx hy hbuf hreg
    go_wp2_with fail
    refine (hdg _ (HT.out.mem.below hB1)).mono ?_
    rintro e w3 ⟨rfl, rfl⟩
    clear hdg HT
    go_wp2
    go_ret
    exact ⟨ret_b HO.out, hB1⟩
  rw [hy] at hdg
  go_wp2_with fail
  refine (hdg _ (HT.out.mem.below hB1)).mono ?_
  rintro e w3 ⟨rfl, rfl⟩
  clear hdg HT
  have HXY := hide (And.intro hx hy)
  clear hx hy
  go_wp2
  go_loopw [27] (fun i wr => ∃ k : Nat, k ≤ R ∧ i = .int .i64 k ∧ Below w.heap.size w wr ∧ Hid (Below w3.heap.size w3 wr) ∧ Hid (∀ c, c < k → (stB (L c) (F c) && digB (Z c) 2) = true)) (fun i _ => R - (intOf i).toNat)
  case atStart => exact ⟨0, Nat.zero_le _, rfl, hB1, hide (Below.refl _ _), hide (fun j hj => by omega)⟩
  case round =>
    obtain ⟨k, hk, rfl, hbk, HW, HA⟩ := hrel
    by_cases hlt : k < R
    · obtain ⟨p, off, rfl, hc⟩ := hbuf (by omega)
      obtain ⟨q, off', rfl, hd⟩ := hreg (by omega)
      obtain ⟨ia, ic, p0', hp⟩ := hc k hlt
      obtain ⟨ja, jc, p1', hq⟩ := hd k hlt
      have p0 : wr.cell? ⟨p, off + k, none⟩ = some (.slice ia (L k) ic) := Below.keep hbk _ _ p0'
      have f2 := keepc HW.out d2
      have hst := fun W h => storesOk_any (.slice ia (L k) ic) (L k) (F k) W h
      have hdd := fun W h => digitsOk_any (.slice ja (Z k).length jc) (Z k) 2 W h (by decide)
      have HP := hide hp
      have HQ := hide hq
      clear hc hd hbuf hreg hp hq p0'
      have HN : Hid ((stB (L k) (F k) && digB (Z k) 2) = false → false = tokB zs R L F R Z) := hide (fun h => by rw [tokB, all_no (p := fun c => stB (L c) (F c) && digB (Z c) 2) hlt h]; simp)
      cases hx : stB (L k) (F k)
      · have HO := hide (HN.out (by simp [hx]))
        rw [hx] at hst
        clear hx HN HA hdd
        go_wp2_with fail
        refine (hst _ (HP.out.below hbk)).mono ?_
        rintro e w4 ⟨rfl, hb4⟩
        have HB := hide (hbk.trans (hb4.mono hbk.size))
        clear hst hb4 hbk HP HQ HW
        go_wp2
        go_ret
        exact ⟨ret_b HO.out, HB.out⟩
      cases hy : digB (Z k) 2
      · have HO := hide (HN.out (by simp [hy]))
        rw [hx] at hst
        rw [hy] at hdd
        clear hx hy HN HA
        go_wp2_with fail
        refine (hst _ (HP.out.below hbk)).mono ?_
        rintro e w4 ⟨rfl, hb4⟩
        have hB4 := hbk.trans (hb4.mono hbk.size)
        have g2 := keepc hb4 f2
        have p1 : w4.cell? ⟨q, off' + k, none⟩ = some (.slice ja (Z k).length jc) := Below.keep hB4 _ _ p1'
        clear hst hb4 hbk HP HW p1' f2 p0
        go_wp2_with fail
        refine (hdd _ (HQ.out.below hB4)).mono ?_
        rintro e w5 ⟨rfl, rfl⟩
        clear hdd HQ
        go_wp2
        go_ret
        exact ⟨ret_b HO.out, hB4⟩
      have HA2 : Hid (∀ c, c < k + 1 → (stB (L c) (F c) && digB (Z c) 2) = true) := hide (fun j hj => by
        by_cases e : j = k
        · rw [e, hx, hy]; rfl
        · exact HA.out j (by omega))
      rw [hx] at hst
      rw [hy] at hdd
      clear hx hy HN HA
      go_wp2_with fail
      refine (hst _ (HP.out.below hbk)).mono ?_
      rintro e w4 ⟨rfl, hb4⟩
      have hB4 := hbk.trans (hb4.mono hbk.size)
      have HW4 := hide (HW.out.trans (hb4.mono HW.out.size))
      have g2 := keepc hb4 f2
      have p1 : w4.cell? ⟨q, off' + k, none⟩ = some (.slice ja (Z k).length jc) := Below.keep hB4 _ _ p1'
      clear hst hb4 hbk HP HW p1' f2 p0
      go_wp2_with fail
      refine (hdd _ (HQ.out.below hB4)).mono ?_
      rintro e w5 ⟨rfl, rfl⟩
      clear hdd HQ
      go_wp2
      go_roundw
      case rel => exact ⟨k + 1, by omega, by go_num, hB4, HW4, HA2⟩
      case measure => simp [intOf]; omega
    · have e : k = R := by omega
      subst e
      have HO : Hid (true = tokB zs k L F k Z) := hide (by rw [tokB, HXY.out.1, HXY.out.2, decide_eq_true HA.out]; simp)
      clear hbuf hreg
      go_wp2
      go_ret
      exact ⟨ret_b HO.out, hbk⟩

end Go.Proofs.Ytcocobmanlmjdaa
