/- LcM -/
import Derived.Test.YtgflipkhhpkidaaYnkCalm43
/- a link calmed, plainly: all that comes, a round, rounds -/
namespace Go.Proofs.Ytgflipkhhpkidaa
open Go.RowKit
set_option linter.unusedVariables false
set_option linter.unusedSimpArgs false

/-- how many are under way -/
def cnt (k : Int) (p : Lk) : Nat := if k = 3 then p.nd else p.nu
def allN (k : Int) : Nat → Lk → Lk × Bool
  | 0, p => (p, true)
  | m + 1, p => if ldC p k 0 0 e0 = 0 then allN k m (ldL p k 0 0 e0) else (p, false)
/-- the first one comes until there is none, or one is refused -/
def alC (k : Int) (p : Lk) : Lk × Bool := allN k (cnt k p) p
theorem thB_zero (n : Nat) : thB n 0 = decide (0 < n) := by
  unfold thB
  by_cases h : 0 < n
  · rw [decide_eq_true h, decide_eq_true (by omega), decide_eq_true (by omega)]; rfl
  · rw [decide_eq_false h, decide_eq_false (show ¬ (0 : Int) < (n : Int) by omega), Bool.and_false]
theorem e0_size : e0.size = 0 := rfl
theorem ldC_three (p : Lk) : ldC p 3 0 0 e0 = if p.nd = 0 then 3 else if lkB (comeD p 0) then 0 else 4 := by
  have h1 : laB 3 0 0 e0 = true := by simp [laB, e0_size]
  have h2 : actC p 3 0 0 = if p.nd = 0 then 3 else 0 := by
    simp only [actC, thB_zero]
    by_cases h : p.nd = 0
    · simp [h]
    · simp [h, show 0 < p.nd by omega]
  have h3 : actL p 3 0 0 e0 = comeD p 0 := by simp [actL]
  unfold ldC
  rw [h1, h2, h3, if_pos rfl]
  by_cases h : p.nd = 0
  · simp [h]
  · simp [h]
theorem ldC_four (p : Lk) : ldC p 4 0 0 e0 = if p.nu = 0 then 3 else if lkB (comeU p 0) then 0 else 4 := by
  have h1 : laB 4 0 0 e0 = true := by simp [laB, e0_size]
  have h2 : actC p 4 0 0 = if p.nu = 0 then 3 else 0 := by
    simp only [actC, thB_zero]
    by_cases h : p.nu = 0
    · simp [h]
    · simp [h, show 0 < p.nu by omega]
  have h3 : actL p 4 0 0 e0 = comeU p 0 := by simp [actL]
  unfold ldC
  rw [h1, h2, h3, if_pos rfl]
  by_cases h : p.nu = 0
  · simp [h]
  · simp [h]
theorem comeD_nd (p : Lk) (z : Nat) : (comeD p z).nd = p.nd - 1 := by
  unfold comeD
  split
  · unfold dgL
    split <;> rfl
  · rfl
theorem comeU_nu (p : Lk) (z : Nat) : (comeU p z).nu = p.nu - 1 := by
  unfold comeU
  split
  · unfold ackL
    split <;> rfl
  · rfl
theorem comeU_nd (p : Lk) (z : Nat) : (comeU p z).nd = p.nd := by
  unfold comeU
  split
  · unfold ackL
    split <;> rfl
  · rfl
theorem ldL_ok {p : Lk} {k z bit : Int} {body : ByteArray} (h : ldC p k z bit body = 0) : ldL p k z bit body = actL p k z bit body := by unfold ldL; rw [if_pos h]
theorem ldL_no {p : Lk} {k z bit : Int} {body : ByteArray} (h : ldC p k z bit body ≠ 0) : ldL p k z bit body = p := by unfold ldL; rw [if_neg h]
theorem ld_lf {p : Lk} (hf : Lf p) (k z bit : Int) (body : ByteArray) : Lf (ldL p k z bit body) := by
  by_cases h : ldC p k z bit body = 0
  · rw [ldL_ok h]
    unfold ldC at h
    split at h
    · split at h
      · split at h
        · rename_i hl
          exact lk_iff.1 hl
        · exact absurd h (by decide)
      · rename_i h0
        exact absurd h h0
    · exact absurd h (by decide)
  · rw [ldL_no h]; exact hf
theorem cnt_step {p : Lk} {k : Int} (hk : k = 3 ∨ k = 4) (h : ldC p k 0 0 e0 = 0) : cnt k (ldL p k 0 0 e0) + 1 = cnt k p := by
  rw [ldL_ok h]
  rcases hk with rfl | rfl
  · rw [ldC_three] at h
    by_cases h0 : p.nd = 0
    · rw [if_pos h0] at h; exact absurd h (by decide)
    · rw [show actL p 3 0 0 e0 = comeD p 0 from by simp [actL]]
      simp only [cnt, if_true, comeD_nd]
      omega
  · rw [ldC_four] at h
    by_cases h0 : p.nu = 0
    · rw [if_pos h0] at h; exact absurd h (by decide)
    · rw [show actL p 4 0 0 e0 = comeU p 0 from by simp [actL]]
      simp only [cnt, show ¬ (4 : Int) = 3 by decide, if_false, comeU_nu]
      omega
theorem al_step {p : Lk} {k : Int} (hk : k = 3 ∨ k = 4) (h : ldC p k 0 0 e0 = 0) : alC k (ldL p k 0 0 e0) = alC k p := by
  have hc := cnt_step hk h
  unfold alC
  rw [← hc]
  simp only [allN, h, if_true]
theorem al_stop {p : Lk} {k : Int} (hk : k = 3 ∨ k = 4) (h : ldC p k 0 0 e0 ≠ 0) : alC k p = (p, decide (ldC p k 0 0 e0 = 3)) := by
  unfold alC
  cases hc : cnt k p with
  | zero =>
    have h3 : ldC p k 0 0 e0 = 3 := by
      rcases hk with rfl | rfl
      · rw [ldC_three, if_pos (by simpa [cnt] using hc)]
      · rw [ldC_four, if_pos (by simpa [cnt] using hc)]
    rw [h3]; rfl
  | succ m =>
    have h3 : ldC p k 0 0 e0 ≠ 3 := by
      rcases hk with rfl | rfl
      · have h0 : p.nd ≠ 0 := by have : p.nd = m + 1 := by simpa [cnt] using hc
                                 omega
        rw [ldC_three, if_neg h0]
        split <;> decide
      · have h0 : p.nu ≠ 0 := by have : p.nu = m + 1 := by simpa [cnt] using hc
                                 omega
        rw [ldC_four, if_neg h0]
        split <;> decide
    simp only [allN, h, if_false, decide_eq_false h3]
theorem allN_lf (k : Int) : ∀ (m : Nat) (p : Lk), Lf p → Lf (allN k m p).1
  | 0, p, h => h
  | m + 1, p, h => by
    unfold allN
    split
    · exact allN_lf k m _ (ld_lf h k 0 0 e0)
    · exact h
theorem al_lf {p : Lk} (k : Int) (h : Lf p) : Lf (alC k p).1 := allN_lf k _ p h
theorem allN_cnt {k : Int} (hk : k = 3 ∨ k = 4) : ∀ (m : Nat) (p : Lk), cnt k p = m → (allN k m p).2 = true → cnt k (allN k m p).1 = 0
  | 0, p, hc, _ => hc
  | m + 1, p, hc, h => by
    unfold allN at h ⊢
    split at h
    · rename_i h0
      rw [if_pos h0]
      exact allN_cnt hk m _ (by have := cnt_step hk h0; omega) h
    · cases h
theorem al_cnt {p : Lk} {k : Int} (hk : k = 3 ∨ k = 4) (h : (alC k p).2 = true) : cnt k (alC k p).1 = 0 := allN_cnt hk _ p rfl h
theorem allN_nd : ∀ (m : Nat) (p : Lk), (allN 4 m p).1.nd = p.nd
  | 0, p => rfl
  | m + 1, p => by
    unfold allN
    split
    · rename_i h0
      rw [allN_nd m, ldL_ok h0, show actL p 4 0 0 e0 = comeU p 0 from by simp [actL], comeU_nd]
    · rfl
theorem al_zero {p : Lk} {k : Int} (h : cnt k p = 0) : alC k p = (p, true) := by unfold alC; rw [h]; rfl
/-- a round: what waits is sent, all comes down, all comes up -/
def rnd (p : Lk) : Lk × Bool := ((alC 4 (alC 3 (ldL p 2 0 0 e0)).1).1, decide (ldC p 2 0 0 e0 = 0) && (alC 3 (ldL p 2 0 0 e0)).2 && (alC 4 (alC 3 (ldL p 2 0 0 e0)).1).2)
theorem rnd_no {p : Lk} (hd : p.nd = 0) (hu : p.nu = 0) (h : ldC p 2 0 0 e0 ≠ 0) : rnd p = (p, false) := by
  unfold rnd
  rw [ldL_no h, al_zero (k := 3) (by simpa [cnt] using hd)]
  simp only
  rw [al_zero (k := 4) (by simpa [cnt] using hu), decide_eq_false h]
  rfl
theorem rnd_empty {p : Lk} (h : (rnd p).2 = true) : (rnd p).1.nd = 0 ∧ (rnd p).1.nu = 0 := by
  unfold rnd at h ⊢
  simp only [Bool.and_eq_true] at h
  have h1 := al_cnt (k := 3) (.inl rfl) h.1.2
  have h2 := al_cnt (k := 4) (.inr rfl) h.2
  simp only [cnt, if_true] at h1
  simp only [cnt, show ¬ (4 : Int) = 3 by decide, if_false] at h2
  refine ⟨?_, h2⟩
  simp only
  rw [show (alC 4 (alC 3 (ldL p 2 0 0 e0)).1).1.nd = (alC 3 (ldL p 2 0 0 e0)).1.nd from allN_nd _ _]
  exact h1
theorem rnd_lf {p : Lk} (h : Lf p) : Lf (rnd p).1 := al_lf 4 (al_lf 3 (ld_lf h 2 0 0 e0))
def calN : Nat → Lk → Lk × Bool
  | 0, p => (p, decide (p.nw = 0))
  | m + 1, p => if p.nw = 0 then (p, true) else if (rnd p).2 then calN m (rnd p).1 else ((rnd p).1, false)
/-- a link with nothing under way -/
def bare (p : Lk) : Lk := { p with nd := 0, nu := 0 }
theorem bare_lf {p : Lk} (h : Lf p) : Lf (bare p) :=
  ⟨h.b0, h.b1, h.w8, h.k0, h.k1, h.kg, h.ma, h.tw, h.tg, fun j hj => absurd hj (Nat.not_lt_zero j), by show (0 : Nat) ≤ 12; decide, fun j hj => absurd hj (Nat.not_lt_zero j), by show (0 : Nat) ≤ 12; decide⟩
def cmL (p : Lk) : Lk × Bool := if lkB p then calN 20 (bare p) else (zeL, false)
theorem calN_lf : ∀ (m : Nat) (p : Lk), Lf p → Lf (calN m p).1
  | 0, p, h => h
  | m + 1, p, h => by
    unfold calN
    split
    · exact h
    · split
      · exact calN_lf m _ (rnd_lf h)
      · exact rnd_lf h
theorem cmL_sm (p : Lk) : Lsm 1048576 (cmL p).1 := by
  unfold cmL
  split
  · rename_i h
    exact (calN_lf 20 _ (bare_lf (lk_iff.1 h))).sm
  · exact ⟨⟨by decide, fun j hj => absurd hj (Nat.not_lt_zero j)⟩, ⟨by decide, fun j hj => absurd hj (Nat.not_lt_zero j)⟩, ⟨by decide, fun j hj => absurd hj (Nat.not_lt_zero j)⟩, ⟨by decide, fun j hj => absurd hj (Nat.not_lt_zero j)⟩⟩

end Go.Proofs.Ytgflipkhhpkidaa
