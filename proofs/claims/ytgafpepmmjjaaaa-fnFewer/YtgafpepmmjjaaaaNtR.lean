/- nets: spec.NextHop -/
import Derived.Test.YtgafpepmmjjaaaaNtQ
namespace Go.Proofs.Ytgafpepmmjjaaaa
open Go.RowKit
set_option linter.unusedVariables false
set_option linter.unusedSimpArgs false

set_option maxHeartbeats 4000000 in
theorem specNext1_any (M : Nat) (v : Value) (n : Nat) (f : Nat → Nat → Int) (a b : Nat) (w : World) (hs : Sr w v 2 n f) (hl : n ≤ 1048576) (hn : Nt M n f) (ha : a < M) (hb : b < M) :
    Calls Try.prog 39 #[.agg (nt M v), .int .i64 a, .int .i64 b] w fun e w' => e = .returned (.int .i64 (nx n f a b)) ∧ Below w.heap.size w w' := by
  have HS := hide hs
  obtain ⟨ad, cap, rfl, _⟩ := hs
  have hB0 : Below w.heap.size w (w.alloc (.cells (nt M (.slice ad n cap)) 26)) := (Below.refl _ _).alloc (Nat.le_refl _) _
  have hbx : (w.alloc (.cells (nt M (.slice ad n cap)) 26)).heap[w.heap.size]? = some (.cells (nt M (.slice ad n cap)) 26 (0, 0)) := heap_alloc_new _ _
  have hM : M ≤ 6 := by have := hn.hi; omega
  have h2 := fun W h => specDists_any M (.slice ad n cap) n f b W h hl hn hb
  have hJ := fun c W h => specJoined_any M (.slice ad n cap) n f a c W h hl
  have HN := hide hn
  have HC : Hid (∀ c : Nat, dst (jn n f) b c = dst (jn n f) c b) := hide (fun c => dst_comm (fun a b => jn_comm n f a b) _ _)
  clear hn
  go_enter Try.func39, Try.ntmps39
  go_wp2_with fail
  refine (h2 _ (HS.out.below hB0)).mono ?_
  rintro e w2 ⟨g, cap', rfl, ho, hb2⟩
  have hbx2 := (hb2.block _ (lt_of_block hbx)).trans hbx
  have hB2 := hB0.trans (hb2.mono hB0.size)
  have HO2 := hide ho
  clear hb2 hB0 hbx h2 ho
  obtain ⟨d, hd⟩ : ∃ d, dst (jn n f) a b = d := ⟨_, rfl⟩
  have HD := hide hd
  have hdb : -1 ≤ d ∧ d < 6 := by
    have h2 := dst_ge (jn n f) a b
    have h3 := dst_lt (R := jn n f) (N := 6) (a := a) (b := b) (fun x y h => by have := jn_lt HN.out h; omega) (by omega)
    omega
  have hw1 : wrap64 (d - 1) = d - 1 := Go.IntWalk.wrap64_in _ (by omega)
  have hw2 : IntKind.i64.wrap (d - 1) = d - 1 := (Go.IntWalk.i64_left _).trans hw1
  clear hd
  go_wp2
  go_loopw [8] (fun i wr => ∃ k : Nat, k ≤ M ∧ i = .int .i64 k ∧ wr.heap[w.heap.size]? = some (.cells (nt M (.slice ad n cap)) 26 (0, 0)) ∧ Below w.heap.size w wr ∧ Below w2.heap.size w2 wr ∧ Hid (∀ x : Nat, x < k → 0 < d → jn n f a x = true → dst (jn n f) x b ≠ d - 1)) (fun i _ => M - (intOf i).toNat)
  case atStart => exact ⟨0, Nat.zero_le _, rfl, hbx2, hB2, Below.refl _ _, hide (fun j hj => by omega)⟩
  case round =>
    obtain ⟨k, hk, rfl, hbk, hB, hB', HA⟩ := hrel
    clear hbx2 hB2
    obtain ⟨_, n0, n1⟩ := row2_facts hbk
    by_cases hlt : k < M
    · have ca := keepc hB' (HO2.out.cell ha)
      have ck := keepc hB' (HO2.out.cell hlt)
      rw [HC.out a, HD.out] at ca
      rw [HC.out k] at ck
      obtain ⟨x, hx⟩ : ∃ x, dst (jn n f) k b = x := ⟨_, rfl⟩
      rw [hx] at ck
      have HX := hide hx
      clear hx
      have ha0 : (0 : Int) ≤ (a : Int) := by omega
      have ha1 : (a : Int) < (M : Int) := by omega
      have hk0 : (0 : Int) ≤ (k : Int) := by omega
      have hk1 : (k : Int) < (M : Int) := by omega
      by_cases hd0 : 0 < d
      · have hd1 : decide (0 < d) = true := by simpa using hd0
        by_cases hxd : x = d - 1
        · have hxe : (x == d - 1) = true := by simpa using hxd
          have hJk := fun W h => hJ k W h
          have HSw := hide (HS.out.below hB)
          cases hr : jn n f a k
          · have HA3 : Hid (∀ x : Nat, x < k + 1 → 0 < d → jn n f a x = true → dst (jn n f) x b ≠ d - 1) := hide (fun y hy h0 hj => by
              by_cases e : y = k
              · subst e; rw [hr] at hj; cases hj
              · exact HA.out y (by omega) h0 hj)
            rw [hr] at hJk
            have HXD := hide hxd
            clear hr HA hxd
            go_wp2
            go_region_held3 (fun w' => w'.cell? ⟨g, a, none⟩ = some (.int .i64 d) ∧ w'.cell? ⟨g, k, none⟩ = some (.int .i64 x) ∧ w'.cell? ⟨w.heap.size, 0, none⟩ = some (.int .i64 M) ∧ w'.cell? ⟨w.heap.size, 1, none⟩ = some (.slice ad n cap)) (first | exact ⟨ca, ck, n0, n1⟩ | exact ⟨keepc hb4 ca, keepc hb4 ck, keepc hb4 n0, keepc hb4 n1⟩) (first | (go_at_call 43; refine (hJk _ (HSw.out.below ((Below.refl _ _).drew))).mono ?_; rintro e w4 ⟨rfl, hb4⟩))
            all_goals have HZ := hide (And.intro ((hb4.block _ (lt_of_block hbk)).trans hbk) (And.intro (hB.drew.trans (hb4.mono hB.drew.size)) (hB'.drew.trans (hb4.mono hB'.drew.size))))
            all_goals clear hb4 hB hbk hB' hJ hJk
            all_goals go_wp2
            go_roundw
            case rel => exact ⟨k + 1, by omega, by go_num, HZ.out.1, HZ.out.2.1, HZ.out.2.2, HA3⟩
            case measure => simp [intOf]; omega
          · have HR : Hid ((k : Int) = nx n f a b) := hide (nx_least HN.out (by rw [HD.out]; exact hd0) hr (by rw [HX.out, hxd, HD.out]) (fun x h0 h1 hj => by
              obtain ⟨y, rfl⟩ : ∃ y : Nat, x = y := ⟨x.toNat, by omega⟩
              rw [HD.out]
              exact HA.out y (by omega) hd0 hj)).symm
            rw [hr] at hJk
            have HXD := hide hxd
            clear hr HA hxd
            go_wp2
            go_region_held3 (fun w' => w'.cell? ⟨g, a, none⟩ = some (.int .i64 d) ∧ w'.cell? ⟨g, k, none⟩ = some (.int .i64 x) ∧ w'.cell? ⟨w.heap.size, 0, none⟩ = some (.int .i64 M) ∧ w'.cell? ⟨w.heap.size, 1, none⟩ = some (.slice ad n cap)) (first | exact ⟨ca, ck, n0, n1⟩ | exact ⟨keepc hb4 ca, keepc hb4 ck, keepc hb4 n0, keepc hb4 n1⟩) (first | (go_at_call 43; refine (hJk _ (HSw.out.below ((Below.refl _ _).drew))).mono ?_; rintro e w4 ⟨rfl, hb4⟩))
            all_goals have HZ := hide (hB.drew.trans (hb4.mono hB.drew.size))
            all_goals clear hb4 hB hbk hB' hJ hJk
            all_goals go_wp2
            go_ret
            exact ⟨ret_i HR.out, HZ.out⟩
        · have hxe : (x == d - 1) = false := by simpa using hxd
          have HA3 : Hid (∀ x : Nat, x < k + 1 → 0 < d → jn n f a x = true → dst (jn n f) x b ≠ d - 1) := hide (fun y hy h0 hj => by
            by_cases e : y = k
            · subst e; rw [HX.out]; exact hxd
            · exact HA.out y (by omega) h0 hj)
          have HXD := hide hxd
          clear HA hxd
          go_wp2
          go_quiet (fail)
          go_wp2
          go_roundw
          case rel => exact ⟨k + 1, by omega, by go_num, hbk, below_drewN hB _, below_drewN hB' _, HA3⟩
          case measure => simp [intOf]; omega
      · have hd1 : decide (0 < d) = false := by simpa using hd0
        have HA3 : Hid (∀ x : Nat, x < k + 1 → 0 < d → jn n f a x = true → dst (jn n f) x b ≠ d - 1) := hide (fun y hy h0 hj => absurd h0 hd0)
        have HD0 := hide hd0
        clear HA hd0
        go_wp2
        go_quiet (fail)
        go_wp2
        go_roundw
        case rel => exact ⟨k + 1, by omega, by go_num, hbk, below_drewN hB _, below_drewN hB' _, HA3⟩
        case measure => simp [intOf]; omega
    · have HR : Hid (-1 = nx n f a b) := hide (by
        by_cases hd0 : 0 < d
        · refine (nx_no HN.out (fun x h0 h1 hj => ?_)).symm
          obtain ⟨y, rfl⟩ : ∃ y : Nat, x = y := ⟨x.toNat, by omega⟩
          rw [HD.out]
          exact HA.out y (by omega) hd0 hj
        · exact (nx_zero (by rw [HD.out]; exact hd0)).symm)
      clear HA
      go_wp2
      go_ret
      exact ⟨ret_i HR.out, hB⟩

set_option maxHeartbeats 2000000 in
theorem specNext_any (N : Int) (v : Value) (n : Nat) (f : Nat → Nat → Int) (a b : Int) (w : World) (hs : Sr w v 2 n f) (hl : n ≤ 1048576) :
    Calls Try.prog 20 #[.agg (nt N v), .int .i64 a, .int .i64 b] w fun e w' => e = .returned (.int .i64 (nxA N n f a b)) ∧ Below w.heap.size w w' := by
  have HS := hide hs
  obtain ⟨ad, cap, rfl, _⟩ := hs
  have hB0 : Below w.heap.size w (w.alloc (.cells (nt N (.slice ad n cap)) 26)) := (Below.refl _ _).alloc (Nat.le_refl _) _
  obtain ⟨x0, x1⟩ := bx2 w (.int .i64 N) (.slice ad n cap) 26
  have h1 := fun W h => specThere_any N (.slice ad n cap) n f a b W h hl
  go_enter Try.func20, Try.ntmps20
  go_wp2_with fail
  refine (h1 _ (HS.out.below hB0)).mono ?_
  rintro e w2 ⟨rfl, hb2⟩
  have y0 := keepc hb2 x0
  have y1 := keepc hb2 x1
  have hB2 := hB0.trans (hb2.mono hB0.size)
  clear h1 hb2 hB0 x0 x1
  cases hT : thB N n f a b
  · have HO : Hid (-1 = nxA N n f a b) := hide (by rw [nxA, if_neg (by rw [hT]; decide)])
    clear hT
    go_wp2
    go_ret
    exact ⟨ret_i HO.out, hB2⟩
  have HO : Hid (nx n f a b = nxA N n f a b) := hide (by rw [nxA, if_pos hT])
  simp only [thB, Bool.and_eq_true] at hT
  obtain ⟨⟨hN, ha⟩, hb⟩ := hT
  have hnt := nt_of hN
  have ha' : 0 ≤ a ∧ a < N := by simpa [inB] using ha
  have hb' : 0 ≤ b ∧ b < N := by simpa [inB] using hb
  clear hN ha hb
  obtain ⟨p, rfl⟩ : ∃ p : Nat, a = p := ⟨a.toNat, by omega⟩
  obtain ⟨q, rfl⟩ : ∃ q : Nat, b = q := ⟨b.toNat, by omega⟩
  obtain ⟨M, rfl⟩ : ∃ M : Nat, N = M := ⟨N.toNat, by omega⟩
  have h2 := fun W h => specNext1_any M (.slice ad n cap) n f p q W h hl hnt (by omega) (by omega)
  clear hnt
  generalize nx n f (p : Int) (q : Int) = r at h2 HO
  go_wp2_with fail
  refine (h2 _ (HS.out.below hB2)).mono ?_
  rintro e w3 ⟨rfl, hb3⟩
  have HB := hide (hB2.trans (hb3.mono hB2.size))
  clear h2 hb3 hB2
  go_wp2
  go_ret
  exact ⟨ret_i HO.out, HB.out⟩

end Go.Proofs.Ytgafpepmmjjaaaa
