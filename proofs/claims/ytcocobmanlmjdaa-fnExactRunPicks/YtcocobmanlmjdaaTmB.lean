/- marks of rows of rows, of a Tso (written by mkTmB.py) -/
import Derived.Test.YtcocobmanlmjdaaTmA
namespace Go.Proofs.Ytcocobmanlmjdaa
open Go.RowKit
set_option linter.unusedVariables false
set_option linter.unusedSimpArgs false

set_option maxHeartbeats 4000000 in
theorem mkB_gen (bv : Value) (C : Nat) (vb : Nat → Value) (K : Nat → Int) (I : Nat → World → Prop) (w : World) (hC : C ≤ 1048576) (hI : I 0 w) (hs : ∀ c W, c < C → I c W → Svs W bv C vb)
    (hrow : ∀ c W, c < C → I c W → Calls Try.prog 61 #[vb c, .int .i64 (K c)] W fun e W' => e = .returned (.int .i64 (K (c + 1))) ∧ I (c + 1) W') (hf : Fm bv C) :
    Calls Try.prog 38 #[bv, .int .i64 (K 0)] w fun e w' => e = .returned (.int .i64 (K C)) ∧ I C w' := by
  obtain ⟨ad, cap, rfl, hf⟩ := hf
  generalize hk0 : K 0 = k00
  go_enter Try.func38, Try.ntmps38
  go_wp2
  go_loopw [1, 5] (fun t i wr => ∃ c : Nat, c ≤ C ∧ i = .int .i64 c ∧ t = .int .i64 (K c) ∧ I c wr) (fun _ i _ => C - (intOf i).toNat)
  case atStart => exact ⟨0, Nat.zero_le _, rfl, by rw [hk0], hI⟩
  case round =>
    obtain ⟨c, hc, rfl, rfl, hIc⟩ := hrel
    by_cases hlt : c < C
    · obtain ⟨ad', cap', e', hcell0⟩ := hs c wr hlt hIc
      obtain ⟨g, off, rfl, hcell⟩ := hcell0 (by omega)
      obtain ⟨rfl, rfl⟩ : ad = some ⟨g, off, none⟩ ∧ cap = cap' := by simp only [Value.slice.injEq] at e'; exact ⟨e'.1, e'.2.2⟩
      have x0 := hcell c hlt
      have HR := hide (hrow c wr hlt hIc)
      clear hcell hcell0 e' hs hrow hf hIc hI
      generalize hkc : K c = kc at HR ⊢
      generalize hkd : K (c + 1) = kd at HR
      generalize vb c = u at x0 HR
      have HKD := hide hkd
      clear hkc hkd hk0
      go_wp2_with fail
      refine HR.out.mono ?_
      rintro e W' ⟨rfl, hI'⟩
      have HI := hide hI'
      clear HR x0 hI'
      go_wp2
      go_roundw
      case rel => exact ⟨c + 1, by omega, by go_num, by rw [HKD.out], HI.out⟩
      case measure => simp [intOf]; omega
    · have e : c = C := by omega
      subst e
      clear hs hrow hf hI
      have HI := hide hIc
      clear hIc
      go_wp2
      go_ret
      exact ⟨rfl, HI.out⟩

set_option maxHeartbeats 4000000 in
theorem hdB_gen (bv : Value) (C : Nat) (vb : Nat → Value) (K : Nat → Int) (w : World) (hC : C ≤ 1048576) (hs : Svs w bv C vb) (hK : ∀ c, 0 ≤ K c)
    (hrow : ∀ c, c < C → Calls Try.prog 62 #[vb c, .int .i64 (K c)] w fun e W' => e = .returned (.int .i64 (K (c + 1))) ∧ W' = w) :
    Calls Try.prog 41 #[bv, .int .i64 (K 0)] w fun e w' => e = .returned (.int .i64 (K C)) ∧ w' = w := by
  obtain ⟨ad, cap, rfl, hs⟩ := hs
  generalize hk0 : K 0 = k00
  go_enter Try.func41, Try.ntmps41
  go_wp2
  go_loopw [1, 5] (fun t i wr => ∃ c : Nat, c ≤ C ∧ i = .int .i64 c ∧ t = .int .i64 (K c) ∧ wr = w) (fun _ i _ => C - (intOf i).toNat)
  case atStart => exact ⟨0, Nat.zero_le _, rfl, by rw [hk0], rfl⟩
  case round =>
    obtain ⟨c, hc, rfl, rfl, rfl⟩ := hrel
    by_cases hlt : c < C
    · obtain ⟨g, off, rfl, hcell⟩ := hs (by omega)
      have x0 := hcell c hlt
      have HR := hide (hrow c hlt)
      have hkn := hK (c + 1)
      clear hcell hs hrow hK
      generalize hkc : K c = kc at HR ⊢
      generalize hkd : K (c + 1) = kd at HR hkn
      generalize vb c = u at x0 HR
      have HKD := hide hkd
      clear hkc hkd hk0
      go_wp2_with fail
      refine HR.out.mono ?_
      rintro e W' ⟨rfl, rfl⟩
      clear HR x0
      go_wp2
      go_roundw
      case rel => exact ⟨c + 1, by omega, by go_num, by rw [HKD.out], by first | rfl | trivial⟩
      case measure => simp [intOf]; omega
    · have e : c = C := by omega
      subst e
      clear hs hrow
      go_wp2
      go_ret
      exact ⟨rfl, rfl⟩

set_option maxHeartbeats 4000000 in
theorem mkR_gen (bv : Value) (C : Nat) (vb : Nat → Value) (K : Nat → Int) (I : Nat → World → Prop) (w : World) (hC : C ≤ 1048576) (hI : I 0 w) (hs : ∀ c W, c < C → I c W → Svs W bv C vb)
    (hrow : ∀ c W, c < C → I c W → Calls Try.prog 16 #[vb c, .int .i64 (K c)] W fun e W' => e = .returned (.int .i64 (K (c + 1))) ∧ I (c + 1) W') (hf : Fm bv C) :
    Calls Try.prog 39 #[bv, .int .i64 (K 0)] w fun e w' => e = .returned (.int .i64 (K C)) ∧ I C w' := by
  obtain ⟨ad, cap, rfl, hf⟩ := hf
  generalize hk0 : K 0 = k00
  go_enter Try.func39, Try.ntmps39
  go_wp2
  go_loopw [1, 5] (fun t i wr => ∃ c : Nat, c ≤ C ∧ i = .int .i64 c ∧ t = .int .i64 (K c) ∧ I c wr) (fun _ i _ => C - (intOf i).toNat)
  case atStart => exact ⟨0, Nat.zero_le _, rfl, by rw [hk0], hI⟩
  case round =>
    obtain ⟨c, hc, rfl, rfl, hIc⟩ := hrel
    by_cases hlt : c < C
    · obtain ⟨ad', cap', e', hcell0⟩ := hs c wr hlt hIc
      obtain ⟨g, off, rfl, hcell⟩ := hcell0 (by omega)
      obtain ⟨rfl, rfl⟩ : ad = some ⟨g, off, none⟩ ∧ cap = cap' := by simp only [Value.slice.injEq] at e'; exact ⟨e'.1, e'.2.2⟩
      have x0 := hcell c hlt
      have HR := hide (hrow c wr hlt hIc)
      clear hcell hcell0 e' hs hrow hf hIc hI
      generalize hkc : K c = kc at HR ⊢
      generalize hkd : K (c + 1) = kd at HR
      generalize vb c = u at x0 HR
      have HKD := hide hkd
      clear hkc hkd hk0
      go_wp2_with fail
      refine HR.out.mono ?_
      rintro e W' ⟨rfl, hI'⟩
      have HI := hide hI'
      clear HR x0 hI'
      go_wp2
      go_roundw
      case rel => exact ⟨c + 1, by omega, by go_num, by rw [HKD.out], HI.out⟩
      case measure => simp [intOf]; omega
    · have e : c = C := by omega
      subst e
      clear hs hrow hf hI
      have HI := hide hIc
      clear hIc
      go_wp2
      go_ret
      exact ⟨rfl, HI.out⟩

set_option maxHeartbeats 4000000 in
theorem hdR_gen (bv : Value) (C : Nat) (vb : Nat → Value) (K : Nat → Int) (w : World) (hC : C ≤ 1048576) (hs : Svs w bv C vb) (hK : ∀ c, 0 ≤ K c)
    (hrow : ∀ c, c < C → Calls Try.prog 40 #[vb c, .int .i64 (K c)] w fun e W' => e = .returned (.int .i64 (K (c + 1))) ∧ W' = w) :
    Calls Try.prog 42 #[bv, .int .i64 (K 0)] w fun e w' => e = .returned (.int .i64 (K C)) ∧ w' = w := by
  obtain ⟨ad, cap, rfl, hs⟩ := hs
  generalize hk0 : K 0 = k00
  go_enter Try.func42, Try.ntmps42
  go_wp2
  go_loopw [1, 5] (fun t i wr => ∃ c : Nat, c ≤ C ∧ i = .int .i64 c ∧ t = .int .i64 (K c) ∧ wr = w) (fun _ i _ => C - (intOf i).toNat)
  case atStart => exact ⟨0, Nat.zero_le _, rfl, by rw [hk0], rfl⟩
  case round =>
    obtain ⟨c, hc, rfl, rfl, rfl⟩ := hrel
    by_cases hlt : c < C
    · obtain ⟨g, off, rfl, hcell⟩ := hs (by omega)
      have x0 := hcell c hlt
      have HR := hide (hrow c hlt)
      have hkn := hK (c + 1)
      clear hcell hs hrow hK
      generalize hkc : K c = kc at HR ⊢
      generalize hkd : K (c + 1) = kd at HR hkn
      generalize vb c = u at x0 HR
      have HKD := hide hkd
      clear hkc hkd hk0
      go_wp2_with fail
      refine HR.out.mono ?_
      rintro e W' ⟨rfl, rfl⟩
      clear HR x0
      go_wp2
      go_roundw
      case rel => exact ⟨c + 1, by omega, by go_num, by rw [HKD.out], by first | rfl | trivial⟩
      case measure => simp [intOf]; omega
    · have e : c = C := by omega
      subst e
      clear hs hrow
      go_wp2
      go_ret
      exact ⟨rfl, rfl⟩

set_option maxHeartbeats 4000000 in
theorem markTso_gen (mv bv rv : Value) (k0 k1 k2 k3 : Int) (w : World) (P1 P2 P3 : World → Prop)
    (h1 : Calls Try.prog 16 #[mv, .int .i64 k0] (w.alloc (.cells #[mv, bv, rv] 37)) fun e W' => e = .returned (.int .i64 k1) ∧ P1 W')
    (h2 : ∀ W, P1 W → Calls Try.prog 38 #[bv, .int .i64 k1] W fun e W' => e = .returned (.int .i64 k2) ∧ P2 W')
    (h3 : ∀ W, P2 W → Calls Try.prog 39 #[rv, .int .i64 k2] W fun e W' => e = .returned (.int .i64 k3) ∧ P3 W')
    (q1 : ∀ W, P1 W → W.heap[w.heap.size]? = some (.cells #[mv, bv, rv] 37 (0, 0))) (q2 : ∀ W, P2 W → W.heap[w.heap.size]? = some (.cells #[mv, bv, rv] 37 (0, 0))) :
    Calls Try.prog 17 #[.agg #[mv, bv, rv], .int .i64 k0] w fun e w' => e = .returned (.int .i64 k3) ∧ P3 w' := by
  obtain ⟨a0, a1, a2⟩ := box3 w mv bv rv 37
  have H1 := hide h1
  have H2 := hide h2
  have H3 := hide h3
  have Q1 := hide q1
  have Q2 := hide q2
  clear h1 h2 h3 q1 q2
  go_enter Try.func17, Try.ntmps17
  go_wp2_with fail
  refine H1.out.mono ?_
  rintro e w1 ⟨rfl, hP1⟩
  obtain ⟨_, b0, b1, b2⟩ := row3_facts (Q1.out w1 hP1)
  have HP1 := hide hP1
  clear hP1 H1 a0 a1 a2
  go_wp2_with fail
  refine (H2.out w1 HP1.out).mono ?_
  rintro e w2 ⟨rfl, hP2⟩
  obtain ⟨_, c0, c1, c2⟩ := row3_facts (Q2.out w2 hP2)
  have HP2 := hide hP2
  clear hP2 H2 b0 b1 b2 HP1
  go_wp2_with fail
  refine (H3.out w2 HP2.out).mono ?_
  rintro e w3 ⟨rfl, hP3⟩
  have HP3 := hide hP3
  clear hP3 H3 c0 c1 c2 HP2
  go_wp2
  go_ret
  exact ⟨rfl, HP3.out⟩

set_option maxHeartbeats 4000000 in
theorem heldTso_gen (mv bv rv : Value) (k0 k1 k2 k3 : Int) (w : World) (n1 : 0 ≤ k1) (n2 : 0 ≤ k2) (n3 : 0 ≤ k3)
    (h1 : ∀ W, Below w.heap.size w W → Calls Try.prog 40 #[mv, .int .i64 k0] W fun e W' => e = .returned (.int .i64 k1) ∧ W' = W)
    (h2 : ∀ W, Below w.heap.size w W → Calls Try.prog 41 #[bv, .int .i64 k1] W fun e W' => e = .returned (.int .i64 k2) ∧ W' = W)
    (h3 : ∀ W, Below w.heap.size w W → Calls Try.prog 42 #[rv, .int .i64 k2] W fun e W' => e = .returned (.int .i64 k3) ∧ W' = W) :
    Calls Try.prog 18 #[.agg #[mv, bv, rv], .int .i64 k0] w fun e w' => e = .returned (.int .i64 k3) ∧ Below w.heap.size w w' := by
  have hB0 : Below w.heap.size w (w.alloc (.cells #[mv, bv, rv] 37)) := (Below.refl _ _).alloc (Nat.le_refl _) _
  obtain ⟨a0, a1, a2⟩ := box3 w mv bv rv 37
  have H1 := hide (h1 _ hB0)
  have H2 := hide (h2 _ hB0)
  have H3 := hide (h3 _ hB0)
  clear h1 h2 h3
  go_enter Try.func18, Try.ntmps18
  go_wp2_with fail
  refine H1.out.mono ?_
  rintro e w1 ⟨rfl, rfl⟩
  clear H1
  go_wp2_with fail
  refine H2.out.mono ?_
  rintro e w1 ⟨rfl, rfl⟩
  clear H2
  go_wp2_with fail
  refine H3.out.mono ?_
  rintro e w1 ⟨rfl, rfl⟩
  clear H3
  go_wp2
  go_ret
  exact ⟨rfl, hB0⟩

end Go.Proofs.Ytcocobmanlmjdaa
