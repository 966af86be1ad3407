/- a look keeps a set right; the looks one after another -/
import Derived.Test.YtlijgkodcbnhbaaCaL4
namespace Go.Proofs.Ytlijgkodcbnhbaa
open Go.RowKit
set_option linter.unusedVariables false
set_option linter.unusedSimpArgs false
namespace Ca

theorem fst_spec (s : Sm) (u : Bool) (x : Int) : (∃ k : Nat, k < 4 ∧ fst s u x = k ∧ at_ s u x k = true ∧ ∀ n, n < k → at_ s u x n = false) ∨ (fst s u x = -1 ∧ ∀ n, n < 4 → at_ s u x n = false) := by
  unfold fst
  cases h0 : at_ s u x 0
  · cases h1 : at_ s u x 1
    · cases h2 : at_ s u x 2
      · cases h3 : at_ s u x 3
        · refine .inr ⟨by simp, fun n hn => ?_⟩
          have : n = 0 ∨ n = 1 ∨ n = 2 ∨ n = 3 := by omega
          rcases this with rfl | rfl | rfl | rfl <;> assumption
        · refine .inl ⟨3, by omega, by simp, h3, fun n hn => ?_⟩
          have : n = 0 ∨ n = 1 ∨ n = 2 := by omega
          rcases this with rfl | rfl | rfl <;> assumption
      · refine .inl ⟨2, by omega, by simp, h2, fun n hn => ?_⟩
        have : n = 0 ∨ n = 1 := by omega
        rcases this with rfl | rfl <;> assumption
    · refine .inl ⟨1, by omega, by simp, h1, fun n hn => ?_⟩
      have : n = 0 := by omega
      subst this; exact h0
  · exact .inl ⟨0, by omega, by simp, h0, fun n hn => by omega⟩

theorem at_iff {s : Sm} {u : Bool} {x : Int} {k : Nat} : at_ s u x k = true ↔ s.u k = u ∧ s.a k = x := by
  unfold at_; simp

theorem right_way {s : Sm} {c k : Nat} (h : rightB s c = true) (hk : k < 4) : wayB s c k = true := by
  simp only [rightB, Bool.and_eq_true] at h
  have : k = 0 ∨ k = 1 ∨ k = 2 ∨ k = 3 := by omega
  rcases this with rfl | rfl | rfl | rfl
  · exact h.1.1.1.1
  · exact h.1.1.1.2
  · exact h.1.1.2
  · exact h.1.2
theorem right_bits {s : Sm} {c : Nat} (h : rightB s c = true) : inR s.b 7 = true := by
  simp only [rightB, Bool.and_eq_true] at h; exact h.2

theorem lk_right {s : Sm} {c : Nat} {x : Int} (h : rightB s c = true) (hx : inR x 1000 = true) (hp : x % 2 = c) : rightB (lk s x) c = true := by
  obtain ⟨kk, hkk, hwy⟩ := wy_nat (x := x) (right_bits h)
  obtain ⟨bn, hbn, hbe⟩ := bits_nat (right_bits h)
  have hway : ∀ k, k < 4 → wayB (lk s x) c k = true := by
    intro k hk
    have hu : ∀ n : Nat, (lk s x).u n = if n = kk then true else s.u n := fun n => by simp only [lk, hwy]; by_cases e : n = kk <;> simp [e] <;> omega
    have ha : ∀ n : Nat, (lk s x).a n = if n = kk then x else s.a n := fun n => by simp only [lk, hwy]; by_cases e : n = kk <;> simp [e] <;> omega
    have hoff : ∀ n : Nat, n ≠ kk → ∀ y, at_ (lk s x) true y n = at_ s true y n := fun n hn y => by unfold at_; rw [hu, ha, if_neg hn, if_neg hn]
    by_cases e : k = kk
    · subst e
      have hk1 : (lk s x).u k = true := by rw [hu, if_pos rfl]
      have hk2 : (lk s x).a k = x := by rw [ha, if_pos rfl]
      refine wayB_yes hk hk1 (by rw [hk2]; exact hx) (by rw [hk2]; exact hp) (fun n hn => ?_)
      rw [hk2, hoff n (by omega)]
      rcases fst_spec s true x with ⟨j, hj, hf, _, hlt⟩ | ⟨_, hno⟩
      · have : (j : Int) = k := by rw [← hwy, wy, if_pos (by omega), hf]
        exact hlt n (by omega)
      · exact hno n (by omega)
    · have hw := right_way h hk
      have hk1 : (lk s x).u k = s.u k := by rw [hu, if_neg e]
      have hk2 : (lk s x).a k = s.a k := by rw [ha, if_neg e]
      cases hs : s.u k
      · unfold wayB at hw ⊢
        rw [hk1, hk2, hs]
        rw [hs] at hw
        simpa using hw
      · have hw2 := hw
        unfold wayB at hw2
        rw [hs, if_pos rfl] at hw2
        simp only [Bool.and_eq_true, decide_eq_true_eq] at hw2
        obtain ⟨⟨hr, hpar⟩, hf⟩ := hw2
        refine wayB_yes hk (by rw [hk1, hs]) (by rw [hk2]; exact hr) (by rw [hk2]; exact hpar) (fun n hn => ?_)
        rw [hk2]
        rcases fst_spec s true (s.a k) with ⟨j, hj, hf2, _, hlt⟩ | ⟨hf2, _⟩
        · have hjk : j = k := by rw [hf] at hf2; omega
          by_cases en : n = kk
          · refine at_no ?_
            rw [ha, if_pos en]
            rintro ⟨_, e2⟩
            have : (kk : Int) = k := by rw [← hwy, wy, e2, hf, if_pos (by omega)]
            omega
          · rw [hoff n en]
            exact hlt n (by omega)
        · rw [hf] at hf2; omega
  have hb : inR (lk s x).b 7 = true := by
    have e : (lk s x).b = ((Plru.touch bn kk : Nat) : Int) := by
      show Plru.tI s.b (wy s x) = _
      rw [hwy, hbe, Plru.tI_yes hbn hkk]
    have := (Plru.law ⟨bn, hbn⟩ ⟨kk, hkk⟩).1
    rw [e]
    exact decide_eq_true ⟨by omega, by simp only [] at this; omega⟩
  simp only [rightB, Bool.and_eq_true]
  exact ⟨⟨⟨⟨hway 0 (by omega), hway 1 (by omega)⟩, hway 2 (by omega)⟩, hway 3 (by omega)⟩, hb⟩

/-- the two sets behind the first k looks -/
def rn (s t : Sm) (z : Nat → Int) : Nat → Sm × Sm
  | 0 => (s, t)
  | k + 1 => lk2 (rn s t z k).1 (rn s t z k).2 (z k)
/-- did the k-th look hit -/
def ht (s t : Sm) (z : Nat → Int) (k : Nat) : Bool := hd (at2 (rn s t z k).1 (rn s t z k).2 (z k)) (z k)
theorem lk2_right {s t : Sm} {x : Int} (hs : rightB s 0 = true) (ht : rightB t 1 = true) (hx : inR x 1000 = true) : rightB (lk2 s t x).1 0 = true ∧ rightB (lk2 s t x).2 1 = true := by
  unfold lk2
  by_cases e : x % 2 = 0
  · rw [if_pos e]; exact ⟨lk_right hs hx (by simpa using e), ht⟩
  · rw [if_neg e]; exact ⟨hs, lk_right ht hx (by simp; omega)⟩
theorem rn_right {s t : Sm} {z : Nat → Int} (hs : rightB s 0 = true) (ht : rightB t 1 = true) : ∀ k, (∀ j, j < k → inR (z j) 1000 = true) → rightB (rn s t z k).1 0 = true ∧ rightB (rn s t z k).2 1 = true
  | 0, _ => ⟨hs, ht⟩
  | k + 1, h => by
    obtain ⟨h1, h2⟩ := rn_right hs ht k (fun j hj => h j (by omega))
    exact lk2_right h1 h2 (h k (by omega))
end Ca

end Go.Proofs.Ytlijgkodcbnhbaa
