/- nets: spec.Dist -/
import Derived.Test.YtgafpepmmjjaaaaNtN
namespace Go.Proofs.Ytgafpepmmjjaaaa
open Go.RowKit
set_option linter.unusedVariables false
set_option linter.unusedSimpArgs false

def thB (N : Int) (n : Nat) (f : Nat → Nat → Int) (a b : Int) : Bool := netB N n f && inB a 0 N && inB b 0 N
theorem dstA_th {N : Int} {n : Nat} {f : Nat → Nat → Int} {a b : Int} (h : thB N n f a b = true) : dstA N n f a b = dst (jn n f) a b := by
  simp only [thB, Bool.and_eq_true] at h
  exact dstA_yes h.1.1 h.1.2 h.2
theorem dstA_nth {N : Int} {n : Nat} {f : Nat → Nat → Int} {a b : Int} (h : thB N n f a b = false) : dstA N n f a b = -1 :=
  dstA_no (fun hh => by rw [thB, hh.1, hh.2.1, hh.2.2] at h; cases h)

set_option maxHeartbeats 2000000 in
theorem specThere_any (N : Int) (v : Value) (n : Nat) (f : Nat → Nat → Int) (a b : Int) (w : World) (hs : Sr w v 2 n f) (hl : n ≤ 1048576) :
    Calls Try.prog 34 #[.agg (nt N v), .int .i64 a, .int .i64 b] w fun e w' => e = .returned (.bool (thB N n f a b)) ∧ Below w.heap.size w w' := by
  have HS := hide hs
  obtain ⟨ad, cap, rfl, _⟩ := hs
  have hB0 : Below w.heap.size w (w.alloc (.cells (nt N (.slice ad n cap)) 26)) := (Below.refl _ _).alloc (Nat.le_refl _) _
  obtain ⟨x0, x1⟩ := bx2 w (.int .i64 N) (.slice ad n cap) 26
  have h1 := fun W h => specNetOk_any N (.slice ad n cap) n f W h hl
  go_enter Try.func34, Try.ntmps34
  go_wp2_with fail
  refine (h1 _ (HS.out.below hB0)).mono ?_
  rintro e w2 ⟨rfl, hb2⟩
  have y0 := keepc hb2 x0
  have y1 := keepc hb2 x1
  have hB2 := hB0.trans (hb2.mono hB0.size)
  clear h1 hb2 hB0 x0 x1
  cases hN : netB N n f
  · have HO : Hid (false = thB N n f a b) := hide (by rw [thB, hN]; rfl)
    clear hN
    go_wp2
    go_ret
    exact ⟨ret_b HO.out, hB2⟩
  have hnt := nt_of hN
  have hNN : 1 ≤ N ∧ N ≤ 6 := ⟨hnt.lo, hnt.hi⟩
  have hwN : wrap64 (N - 1) = N - 1 := Go.IntWalk.wrap64_in _ (by omega)
  have h2 := fun w => l1InB a 0 (N - 1) w
  have h3 := fun w => l1InB b 0 (N - 1) w
  simp only [Int.sub_add_cancel] at h2 h3
  have HN := hide hN
  clear hN hnt
  cases ha : inB a 0 N
  · have HO : Hid (false = thB N n f a b) := hide (by rw [thB, ha, HN.out]; rfl)
    rw [ha] at h2
    clear ha
    go_wp2_with fail
    refine (h2 _).mono ?_
    rintro e w3 ⟨rfl, rfl⟩
    clear h2 h3
    go_wp2
    go_ret
    exact ⟨ret_b HO.out, hB2⟩
  have HO : Hid (inB b 0 N = thB N n f a b) := hide (by rw [thB, ha, HN.out]; rfl)
  rw [ha] at h2
  clear ha
  generalize inB b 0 N = r at h3 HO
  go_wp2_with fail
  refine (h2 _).mono ?_
  rintro e w3 ⟨rfl, rfl⟩
  clear h2
  go_wp2_with fail
  refine (h3 _).mono ?_
  rintro e w4 ⟨rfl, rfl⟩
  clear h3
  go_wp2
  go_ret
  exact ⟨ret_b HO.out, hB2⟩

set_option maxHeartbeats 2000000 in
theorem specDist_any (N : Int) (v : Value) (n : Nat) (f : Nat → Nat → Int) (a b : Int) (w : World) (hs : Sr w v 2 n f) (hl : n ≤ 1048576) :
    Calls Try.prog 11 #[.agg (nt N v), .int .i64 a, .int .i64 b] w fun e w' => e = .returned (.int .i64 (dstA N n f a b)) ∧ Below w.heap.size w w' := by
  have HS := hide hs
  obtain ⟨ad, cap, rfl, _⟩ := hs
  have hB0 : Below w.heap.size w (w.alloc (.cells (nt N (.slice ad n cap)) 26)) := (Below.refl _ _).alloc (Nat.le_refl _) _
  obtain ⟨x0, x1⟩ := bx2 w (.int .i64 N) (.slice ad n cap) 26
  have h1 := fun W h => specThere_any N (.slice ad n cap) n f a b W h hl
  go_enter Try.func11, Try.ntmps11
  go_wp2_with fail
  refine (h1 _ (HS.out.below hB0)).mono ?_
  rintro e w2 ⟨rfl, hb2⟩
  have y0 := keepc hb2 x0
  have y1 := keepc hb2 x1
  have hB2 := hB0.trans (hb2.mono hB0.size)
  clear h1 hb2 hB0 x0 x1
  cases hT : thB N n f a b
  · have HO : Hid (-1 = dstA N n f a b) := hide (dstA_nth hT).symm
    clear hT
    go_wp2
    go_ret
    exact ⟨ret_i HO.out, hB2⟩
  have HO := hide (dstA_th hT)
  simp only [thB, Bool.and_eq_true] at hT
  obtain ⟨⟨hN, ha⟩, hb⟩ := hT
  have hnt := nt_of hN
  have ha' : 0 ≤ a ∧ a < N := by simpa [inB] using ha
  have hb' : 0 ≤ b ∧ b < N := by simpa [inB] using hb
  clear hN ha hb
  obtain ⟨p, rfl⟩ : ∃ p : Nat, a = p := ⟨a.toNat, by omega⟩
  obtain ⟨q, rfl⟩ : ∃ q : Nat, b = q := ⟨b.toNat, by omega⟩
  obtain ⟨M, rfl⟩ : ∃ M : Nat, N = M := ⟨N.toNat, by omega⟩
  have hpM : p < M := by omega
  have h2 := fun W h => specDists_any M (.slice ad n cap) n f q W h hl hnt (by omega)
  have HC : Hid (dst (jn n f) q p = dst (jn n f) p q) := hide (dst_comm (fun a b => jn_comm n f a b) _ _)
  clear hnt
  go_wp2_with fail
  refine (h2 _ (HS.out.below hB2)).mono ?_
  rintro e w3 ⟨g, cap', rfl, ho, hb3⟩
  have c3 := ho.cell hpM
  have HB := hide (hB2.trans (hb3.mono hB2.size))
  rw [HC.out] at c3
  clear h2 ho hb3 hB2
  go_wp2
  go_ret
  exact ⟨ret_i HO.out.symm, HB.out⟩

end Go.Proofs.Ytgafpepmmjjaaaa
