/- nets: spec.PathBy -/
import Derived.Test.YtgafpepmmjjaaaaNtT
namespace Go.Proofs.Ytgafpepmmjjaaaa
open Go.RowKit
set_option linter.unusedVariables false
set_option linter.unusedSimpArgs false

set_option maxHeartbeats 4000000 in
theorem specPath_any (N : Int) (v : Value) (n : Nat) (f : Nat → Nat → Int) (a b : Int) (w : World) (hs : Sr w v 2 n f) (hl : n ≤ 1048576) :
    Calls Try.prog 17 #[.agg (nt N v), .int .i64 a, .int .i64 b] w fun e w' => ∃ u, e = .returned u ∧ Ow w' w.heap.size u (pthA N n f a b) ∧ Below w.heap.size w w' := by
  have HS := hide hs
  obtain ⟨ad, cap, rfl, _⟩ := hs
  obtain ⟨i0, hi, hz0, hz1, hz2⟩ := info_parts Try.info2
  have hB0 : Below w.heap.size w ((w.alloc (.cells (nt N (.slice ad n cap)) 26)).alloc (.cells #[] 2)) := ((Below.refl _ _).alloc (Nat.le_refl _) _).alloc (by simp) _
  have how : Ow ((w.alloc (.cells (nt N (.slice ad n cap)) 26)).alloc (.cells #[] 2)) (w.heap.size + 1) (.slice (some ⟨w.heap.size + 1, 0, none⟩) 0 0) [] := by
    have := Ow.empty_made (w.alloc (.cells (nt N (.slice ad n cap)) 26))
    rwa [World.size_alloc] at this
  have hbx : ((w.alloc (.cells (nt N (.slice ad n cap)) 26)).alloc (.cells #[] 2)).heap[w.heap.size]? = some (.cells (nt N (.slice ad n cap)) 26 (0, 0)) := by
    rw [Below.heap_alloc _ _ _ (by simp)]; exact heap_alloc_new _ _
  obtain ⟨q0, q1⟩ := (row2_facts hbx).2
  have hD := fun W h => specDist_any N (.slice ad n cap) n f a b W h hl
  go_enter Try.func17, Try.ntmps17
  go_wp2_with fail
  refine (hD _ (HS.out.below hB0)).mono ?_
  rintro e w2 ⟨rfl, hb2⟩
  have hbx2 := (hb2.block _ (lt_of_block hbx)).trans hbx
  have hB2 := hB0.trans (hb2.mono hB0.size)
  have how2 := how.below hb2
  clear hb2 hB0 hbx hD how q0 q1
  have hge := dstA_ge N n f a b
  have hlt6 := dstA_lt (N := N) (n := n) (f := f) (a := a) (b := b)
  obtain ⟨x, hx⟩ : ∃ x, dstA N n f a b = x := ⟨_, rfl⟩
  rw [hx] at hge hlt6 ⊢
  by_cases hx1 : x < 0
  · have hxe : decide (x < 0) = true := by simpa using hx1
    have HO : Hid (Ow w2 w.heap.size (.slice (some ⟨w.heap.size + 1, 0, none⟩) 0 0) (pthA N n f a b)) := hide (by rw [pth_no (by omega)]; exact how2.mono (by omega))
    clear hx1 hx
    go_wp2
    go_ret
    exact ⟨_, rfl, HO.out, hB2⟩
  have hxe : decide (x < 0) = false := by simpa using hx1
  obtain ⟨d, rfl⟩ : ∃ d : Nat, x = d := ⟨x.toNat, by omega⟩
  have hd6 : d < 6 := by omega
  have HP := hide (pth_yes hx)
  have ht := th_of hx
  rw [dstA_th ht] at hx
  simp only [thB, Bool.and_eq_true] at ht
  obtain ⟨⟨hN, ha⟩, hb⟩ := ht
  have hnt := nt_of hN
  have hF := ph_facts hnt (a := a) (b := b) (by simpa [inB] using ha) hx
  have HF := hide hF
  have hb' : 0 ≤ b ∧ b < N := by simpa [inB] using hb
  have hlo := hnt.lo
  obtain ⟨M, rfl⟩ : ∃ M : Nat, N = M := ⟨N.toNat, by omega⟩
  obtain ⟨q, rfl⟩ : ∃ q : Nat, b = q := ⟨b.toNat, by omega⟩
  have HX : Hid (∀ k W, k ≤ d → Sr W (.slice ad n cap) 2 n f → Calls Try.prog 39 #[.agg (nt M (.slice ad n cap)), .int .i64 (ph n f a q k), .int .i64 q] W fun e w' => e = .returned (.int .i64 (ph n f a q (k + 1))) ∧ Below W.heap.size W w') := hide (fun k W hk h => by
    have h1 := (HF.out k hk).1
    obtain ⟨p, hp⟩ : ∃ p : Nat, ph n f a q k = p := ⟨(ph n f a q k).toNat, by omega⟩
    have h2 := specNext1_any M (.slice ad n cap) n f p q W h hl hnt (by omega) (by omega)
    rw [ph, hp]
    exact h2)
  have HE : Hid (∀ k, k ≤ d → (ph n f a q k = q ↔ k = d)) := hide (fun k hk => by
    have h2 := (HF.out k hk).2
    constructor
    · intro e; rw [e, dst_self] at h2; omega
    · intro e; subst e; exact dst_zero (R := jn n f) (by omega))
  have HB2 := hide hB2
  have hz2' : w.heap.size ≤ w2.heap.size := hB2.size
  have hsz2 := lt_of_block hbx2
  have HG0 : Hid (∀ w1, (w2.alloc (.cells #[.int .i64 a] 2)).grownBy w1 (Value.slice (some ⟨w.heap.size + 1, 0, none⟩) 0 0).ownBlock → w1.heap[w.heap.size]? = some (.cells (nt M (.slice ad n cap)) 26 (0, 0)) ∧ Below w.heap.size w w1) := hide (fun w1 hg => by
    have hlt5 : ∀ j, (Value.slice (some ⟨w.heap.size + 1, 0, none⟩) 0 0).ownBlock = some j → w.heap.size + 1 ≤ j := fun j hj => (World.ownsRow.lt how2 j hj).1
    refine ⟨(hg.block _ (by simp; omega) (fun e => by have := hlt5 _ e.symm; omega)).trans ((Below.heap_alloc _ _ _ hsz2).trans hbx2), ?_⟩
    exact (HB2.out.alloc (by omega) _).grown hg (by simp; omega) (fun j hj => by have := hlt5 j hj; omega))
  clear hx hN ha hb hnt hF hx1 hB2 hb'
  obtain ⟨_, n0, n1⟩ := row2_facts hbx2
  go_wp2_with (at_builtin; refine wpList_append_own _ rfl _ _ 32 rfl (w.heap.size + 1) 2 i0 (.int .i64 0) 1 8 Try.underlying32 hi hz0 hz1 hz2 rfl (by decide) _ _ _ rfl (World.ownsRow.alloc how2 _) _ 1 1 [.int .i64 a] rfl rfl (cell_one_new _ _ _) (by intro u hu; simp at hu; subst hu; rfl) (by unfold maxLen; simp) (by simp) (by simp; omega) ?_)
  intro v0 w9 hown9 hgrow9 _
  have HZ0 : Hid (Ow w9 (w.heap.size + 1) v0 (rl (0 + 1) (ph n f a q)) ∧ w9.heap[w.heap.size]? = some (.cells (nt M (.slice ad n cap)) 26 (0, 0)) ∧ Below w.heap.size w w9) := hide ⟨Ow.snoc (zs := []) hown9, HG0.out w9 hgrow9⟩
  clear hown9 hgrow9 HG0
  go_wp2
  go_loopw [1, 7] (fun i t wr => ∃ k : Nat, k ≤ d ∧ i = .int .i64 (ph n f a q k) ∧ Ow wr (w.heap.size + 1) t (rl (k + 1) (ph n f a q)) ∧ wr.heap[w.heap.size]? = some (.cells (nt M (.slice ad n cap)) 26 (0, 0)) ∧ Hid (Below w.heap.size w wr)) (fun _ t _ => d + 1 - slen t)
  case atStart => exact ⟨0, Nat.zero_le _, rfl, HZ0.out.1, HZ0.out.2.1, hide HZ0.out.2.2⟩
  case round =>
    obtain ⟨k, hk, rfl, hok, hbk, HB⟩ := hrel
    clear HZ0 HB2 hbx2 n0 n1 how2
    obtain ⟨_, n0, n1⟩ := row2_facts hbk
    have hszb := lt_of_block hbk
    by_cases hlt : k < d
    · have hne : (ph n f a q k != (q : Int)) = true := by
        have : ph n f a q k ≠ q := fun e => by have := (HE.out k hk).1 e; omega
        simpa using this
      have hXk := HX.out k wr hk (HS.out.below HB.out)
      obtain ⟨y, hy⟩ : ∃ y, ph n f a q (k + 1) = y := ⟨_, rfl⟩
      obtain ⟨x, hx⟩ : ∃ x, ph n f a q k = x := ⟨_, rfl⟩
      rw [hy] at hXk
      rw [hx] at hne hXk ⊢
      have HR : Hid (rl (k + 1 + 1) (ph n f a q) = rl (k + 1) (ph n f a q) ++ [y]) := hide (by rw [rl_succ (k + 1), hy])
      have HL := hide (rl_length (k + 1) (ph n f a q))
      have hlen : (rl (k + 1) (ph n f a q)).length ≤ 7 := by rw [rl_length]; omega
      have HY := hide hy
      have HT : Hid (slen u7 = k + 1) := hide (by
        obtain ⟨a7, c7, e7, _⟩ := hok.form
        rw [e7, slen, rl_length])
      clear hx hy
      go_wp2_with fail
      refine hXk.mono ?_
      rintro e w3 ⟨rfl, hb3⟩
      have hok3 := hok.below hb3
      have hbk3 := (hb3.block _ hszb).trans hbk
      have HB3 := hide (HB.out.trans (hb3.mono HB.out.size))
      have hsz3 := lt_of_block hbk3
      clear hb3 hok hbk HB hXk n0 n1
      have HG : Hid (∀ w1, (w3.alloc (.cells #[.int .i64 y] 2)).grownBy w1 u7.ownBlock → w1.heap[w.heap.size]? = some (.cells (nt M (.slice ad n cap)) 26 (0, 0)) ∧ Below w.heap.size w w1) := hide (fun w1 hg => by
        have hlt5 : ∀ j, u7.ownBlock = some j → w.heap.size + 1 ≤ j := fun j hj => (World.ownsRow.lt hok3 j hj).1
        refine ⟨(hg.block _ (by simp; omega) (fun e => by have := hlt5 _ e.symm; omega)).trans ((Below.heap_alloc _ _ _ hsz3).trans hbk3), ?_⟩
        exact (HB3.out.alloc (by omega) _).grown hg (by simp; omega) (fun j hj => by have := hlt5 j hj; omega))
      go_wp2_with (at_builtin; refine wpList_append_own _ rfl _ _ 32 rfl (w.heap.size + 1) 2 i0 (.int .i64 0) 1 8 Try.underlying32 hi hz0 hz1 hz2 rfl (by decide) _ _ _ rfl (World.ownsRow.alloc hok3 _) _ 1 1 [.int .i64 y] rfl rfl (cell_one_new _ _ _) (by intro u hu; simp at hu; subst hu; rfl) (by unfold maxLen; omega) (by omega) (by simp; omega) ?_)
      intro v' w1 hown' hgrow _
      have hR := Ow.snoc hown'
      rw [← HR.out] at hR
      have HT2 : Hid (slen v' = k + 1 + 1) := hide (by
        obtain ⟨a7, c7, e7, _⟩ := hR.form
        rw [e7, slen, rl_length])
      have HZ := hide (And.intro hR (HG.out w1 hgrow))
      clear hown' hgrow hR hok3 HB3 HG hbk3
      go_wp2
      go_roundw
      case rel => exact ⟨k + 1, by omega, by rw [HY.out], HZ.out.1, HZ.out.2.1, hide HZ.out.2.2⟩
      case measure => simp only [HT.out, HT2.out] <;> simp [HT.out, HT2.out] <;> omega
    · have e : k = d := by omega
      have hne : (ph n f a q k != (q : Int)) = false := by
        have : ph n f a q k = q := (HE.out k hk).2 e
        simpa using this
      have HR : Hid (Ow wr w.heap.size u7 (pthA M n f a q)) := hide (by rw [HP.out, ← e]; exact hok.mono (by omega))
      clear e
      go_wp2
      go_ret
      exact ⟨_, rfl, HR.out, HB.out⟩

end Go.Proofs.Ytgafpepmmjjaaaa
