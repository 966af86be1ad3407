/- a net without a link, plainly -/
import Derived.Test.YtgafpepmmjjaaaaNdE
namespace Go.Proofs.Ytgafpepmmjjaaaa
open Go.RowKit
set_option linter.unusedVariables false
set_option linter.unusedSimpArgs false

theorem nt_net {N : Int} {n : Nat} {f : Nat → Nat → Int} (h : Nt N n f) : netB N n f = true := by
  refine (net_yes (by have := h.lo; have := h.hi; simp [inB]; omega) (fun k hk => ?_)).symm
  have h1 := h.lk k hk
  have e1 : inB (f k 0) 0 (f k 1) = true := by simp [inB]; omega
  have e2 : inB (f k 1) 0 N = true := by simp [inB]; omega
  rw [lkB, e1, e2]
  by_cases hk0 : k = 0
  · simp [hk0]
  · have h2 := h.before k (k - 1) (by omega) hk
    have e3 : ahB (f (k - 1) 0) (f (k - 1) 1) (f k 0) (f k 1) = true := by simp [ahB]; omega
    rw [e3]; simp
theorem fewer_nt {N : Int} {n : Nat} {f : Nat → Nat → Int} (h : Nt N n f) {k0 : Nat} (hk : k0 < n) : Nt N (n - 1) (fk f k0) := by
  refine ⟨h.lo, h.hi, fun k hk2 => ?_, fun k hk2 => ?_⟩
  · unfold fk
    by_cases hlt : k < k0
    · simp only [if_pos hlt]; exact h.lk k (by omega)
    · simp only [if_neg hlt]; exact h.lk (k + 1) (by omega)
  · unfold fk
    by_cases h1 : k + 1 < k0
    · simp only [if_pos h1, if_pos (show k < k0 by omega)]; exact h.before (k + 1) k (by omega) (by omega)
    · by_cases h2 : k < k0
      · simp only [if_pos h2, if_neg h1]; exact h.before (k + 1 + 1) k (by omega) (by omega)
      · simp only [if_neg h2, if_neg h1]; exact h.before (k + 1 + 1) (k + 1) (by omega) (by omega)
theorem fewer_jn {N : Int} {n : Nat} {f : Nat → Nat → Int} (h : Nt N n f) {k0 : Nat} (hk : k0 < n) {x y : Int} : jn (n - 1) (fk f k0) x y = true ↔ jn n f x y = true ∧ ¬ (f k0 0 = min x y ∧ f k0 1 = max x y) := by
  rw [jn_iff, jn_iff]
  constructor
  · rintro ⟨k, hkn, e0, e1⟩
    unfold fk at e0 e1
    by_cases hlt : k < k0
    · simp only [if_pos hlt] at e0 e1
      refine ⟨⟨k, by omega, e0, e1⟩, fun hh => ?_⟩
      have := link_one h (j := k) (k := k0) (by omega) hk (e0.trans hh.1.symm) (e1.trans hh.2.symm)
      omega
    · simp only [if_neg hlt] at e0 e1
      refine ⟨⟨k + 1, by omega, e0, e1⟩, fun hh => ?_⟩
      have := link_one h (j := k + 1) (k := k0) (by omega) hk (e0.trans hh.1.symm) (e1.trans hh.2.symm)
      omega
  · rintro ⟨⟨k, hkn, e0, e1⟩, hne⟩
    rcases Nat.lt_trichotomy k k0 with hlt | hlt | hlt
    · exact ⟨k, by omega, by unfold fk; simp only [if_pos hlt]; exact e0, by unfold fk; simp only [if_pos hlt]; exact e1⟩
    · subst hlt; exact absurd ⟨e0, e1⟩ hne
    · refine ⟨k - 1, by omega, ?_, ?_⟩
      · unfold fk; simp only [if_neg (show ¬ k - 1 < k0 by omega), show k - 1 + 1 = k by omega]; exact e0
      · unfold fk; simp only [if_neg (show ¬ k - 1 < k0 by omega), show k - 1 + 1 = k by omega]; exact e1
theorem Wk.more {R R' : Int → Int → Bool} (h : ∀ x y, R x y = true → R' x y = true) {k : Nat} {a b : Int} (hw : Wk R k a b) : Wk R' k a b := by
  induction k generalizing a with
  | zero => exact hw
  | succ k ih => obtain ⟨c, h1, h2⟩ := hw; exact ⟨c, h _ _ h1, ih h2⟩
theorem fewer_far {N : Int} {n : Nat} {f : Nat → Nat → Int} (h : Nt N n f) {k0 : Nat} (hk : k0 < n) {x y : Int} (he : 0 ≤ dst (jn (n - 1) (fk f k0)) x y) : 0 ≤ dst (jn n f) x y ∧ dst (jn n f) x y ≤ dst (jn (n - 1) (fk f k0)) x y := by
  have := dst_le (Wk.more (R := jn (n - 1) (fk f k0)) (R' := jn n f) (fun x y hx => ((fewer_jn h hk).1 hx).1) (dst_wk he))
  omega
theorem fewer_same {N : Int} {n : Nat} {f : Nat → Nat → Int} (h : Nt N n f) {k0 : Nat} (hk : k0 < n) {a b x y : Int} (e0 : f k0 0 = min a b) (e1 : f k0 1 = max a b) (hx : 0 ≤ x ∧ x < N) {d : Nat} (hd : dst (jn n f) x y = d)
    (hu : ∀ j, j < d → ¬ ((ph n f x y j = a ∧ ph n f x y (j + 1) = b) ∨ (ph n f x y j = b ∧ ph n f x y (j + 1) = a))) : dst (jn (n - 1) (fk f k0)) x y = d := by
  have hF := ph_facts h hx hd
  have hs : ∀ j, j ≤ d → Wk (jn (n - 1) (fk f k0)) j x (ph n f x y j) := by
    intro j
    induction j with
    | zero => intro _; rfl
    | succ j ih =>
      intro hj
      refine (ih (by omega)).snoc ?_
      have h2 := (hF j (by omega)).2
      obtain ⟨h3, _⟩ := nx_step h (x := ph n f x y j) (b := y) (by omega)
      refine (fewer_jn h hk).2 ⟨h3, fun hh => hu j (by omega) ?_⟩
      have h4 : ph n f x y (j + 1) = nx n f (ph n f x y j) y := rfl
      rw [h4]
      have := hh.1
      have := hh.2
      omega
  have hend : ph n f x y d = y := dst_zero (R := jn n f) (by have := (hF d (Nat.le_refl _)).2; omega)
  have hw := hs d (Nat.le_refl _)
  rw [hend] at hw
  have h1 := dst_le hw
  have h2 := fewer_far h hk h1.1
  omega
theorem fewer_gone {N : Int} {n : Nat} {f : Nat → Nat → Int} (h : Nt N n f) {k0 : Nat} (hk : k0 < n) {a b : Int} (e0 : f k0 0 = min a b) (e1 : f k0 1 = max a b) : dst (jn (n - 1) (fk f k0)) a b ≠ 1 := fun he =>
  ((fewer_jn h hk).1 (one_dst he)).2 ⟨e0, e1⟩

theorem wpost_yes {N : Int} {n : Nat} {f : Nat → Nat → Int} {a b : Int} (h : netB N n f = true) (hj : jn n f a b = true) : ∃ k0, k0 < n ∧ f k0 0 = min a b ∧ f k0 1 = max a b ∧ ∀ w e w', WPost w N n f a b e w' → ∃ ua uc, e = .returned (.tuple #[.agg (nt N (.slice ua (n - 1) uc)), .bool true]) ∧ Sr w' (.slice ua (n - 1) uc) 2 (n - 1) (fk f k0) ∧ Below w.heap.size w w' := by
  obtain ⟨k0, hk0, h0, h1⟩ := jn_iff.1 hj
  refine ⟨k0, hk0, h0, h1, ?_⟩
  rintro w e w' ⟨⟨_, k, u, hk, e0, e1, rfl, ho⟩ | ⟨q | q, _⟩, hb⟩
  · have e2 : k = k0 := link_one (nt_of h) hk hk0 (e0.trans h0.symm) (e1.trans h1.symm)
    subst e2
    obtain ⟨ua, uc, rfl⟩ := own_form ho
    exact ⟨ua, uc, rfl, ho.sr, hb⟩
  · rw [h] at q; cases q
  · rw [hj] at q; cases q
theorem wpost_no {N : Int} {n : Nat} {f : Nat → Nat → Int} {a b : Int} (h : ¬ (netB N n f = true ∧ jn n f a b = true)) : ∀ w e w', WPost w N n f a b e w' → e = .returned (.tuple #[.agg (nt 0 nilS), .bool false]) ∧ Below w.heap.size w w' := by
  rintro w e w' ⟨⟨hN, k, u, hk, e0, e1, rfl, ho⟩ | ⟨_, rfl⟩, hb⟩
  · exact absurd ⟨hN, jn_iff.2 ⟨k, hk, e0, e1⟩⟩ h
  · exact ⟨rfl, hb⟩

end Go.Proofs.Ytgafpepmmjjaaaa
