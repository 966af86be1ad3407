/- a look done again; what a look leaves: plain facts -/
import Derived.Test.YtlijgkodcbnhbaaCaB1
namespace Go.Proofs.Ytlijgkodcbnhbaa
open Go.RowKit
set_option linter.unusedVariables false
set_option linter.unusedSimpArgs false
namespace Ca

theorem fst_at {s : Sm} {x : Int} {k : Nat} (hk : k < 4) (h : at_ s true x k = true) (hn : ∀ n, n < k → at_ s true x n = false) : fst s true x = k := by
  rcases fst_spec s true x with ⟨j, hj, hf, hy, hlt⟩ | ⟨_, hno⟩
  · rcases Nat.lt_trichotomy j k with hh | hh | hh
    · rw [hn j hh] at hy; cases hy
    · rw [hf, hh]
    · rw [hlt k hh] at h; cases h
  · rw [hno k hk] at h; cases h

theorem lk_u {s : Sm} {x : Int} {kk : Nat} (hwy : wy s x = kk) (n : Nat) : (lk s x).u n = if n = kk then true else s.u n := by simp only [lk, hwy]; by_cases e : n = kk <;> simp [e] <;> omega
theorem lk_a {s : Sm} {x : Int} {kk : Nat} (hwy : wy s x = kk) (n : Nat) : (lk s x).a n = if n = kk then x else s.a n := by simp only [lk, hwy]; by_cases e : n = kk <;> simp [e] <;> omega
/-- the way of a look, and what the set is behind it -/
theorem lk_way {s : Sm} {c : Nat} (x : Int) (h : rightB s c = true) : ∃ kk : Nat, kk < 4 ∧ wy s x = kk ∧ (∀ n : Nat, (lk s x).u n = if n = kk then true else s.u n) ∧ (∀ n : Nat, (lk s x).a n = if n = kk then x else s.a n) ∧ (∀ n, n < kk → at_ (lk s x) true x n = false) ∧ (∀ n, n ≠ kk → n < 4 → at_ s true x n = false) := by
  obtain ⟨kk, hkk, hwy⟩ := wy_nat (x := x) (right_bits h)
  have hu : ∀ n : Nat, (lk s x).u n = if n = kk then true else s.u n := fun n => by simp only [lk, hwy]; by_cases e : n = kk <;> simp [e] <;> omega
  have ha : ∀ n : Nat, (lk s x).a n = if n = kk then x else s.a n := fun n => by simp only [lk, hwy]; by_cases e : n = kk <;> simp [e] <;> omega
  have hoff : ∀ n : Nat, n ≠ kk → ∀ y, at_ (lk s x) true y n = at_ s true y n := fun n hn y => by unfold at_; rw [hu, ha, if_neg hn, if_neg hn]
  have hno : ∀ n, n ≠ kk → n < 4 → at_ s true x n = false := by
    intro n hne hn
    rcases fst_spec s true x with ⟨j, hj, hf, _, hlt⟩ | ⟨_, hno⟩
    · have hjk : (j : Int) = kk := by rw [← hwy, wy, if_pos (by omega), hf]
      cases hq : at_ s true x n
      · rfl
      · obtain ⟨q1, q2⟩ := at_iff.1 hq
        have hw := right_way h hn
        unfold wayB at hw
        rw [q1, if_pos rfl] at hw
        simp only [Bool.and_eq_true, decide_eq_true_eq] at hw
        have := hw.2
        rw [q2, hf] at this
        omega
    · exact hno n hn
  exact ⟨kk, hkk, hwy, hu, ha, fun n hn => by rw [hoff n (by omega)]; exact hno n (by omega) (by omega), hno⟩

theorem lk_at {s : Sm} {c : Nat} {x : Int} (h : rightB s c = true) : fst (lk s x) true x = wy s x := by
  obtain ⟨kk, hkk, hwy, hu, ha, hlt, _⟩ := lk_way x h
  rw [hwy]
  exact fst_at hkk (at_yes (by rw [hu, if_pos rfl]) (by rw [ha, if_pos rfl])) hlt

theorem again {s : Sm} {c : Nat} {x : Int} (h : rightB s c = true) : hd (lk s x) x = true ∧ gn (lk s x) x = -1 ∧ lk (lk s x) x = lk s x := by
  obtain ⟨kk, hkk, hwy, hu, ha, hlt, _⟩ := lk_way x h
  have hf : fst (lk s x) true x = kk := (lk_at h).trans hwy
  have hne : ¬ fst (lk s x) true x = -1 := by rw [hf]; omega
  obtain ⟨h1, h2, h3⟩ := wy_hit hne
  refine ⟨h2, h3, ?_⟩
  have hw2 : wy (lk s x) x = kk := h1.trans hf
  obtain ⟨bn, hbn, hbe⟩ := bits_nat (right_bits h)
  have eb : (lk s x).b = ((Plru.touch bn kk : Nat) : Int) := by
    show Plru.tI s.b (wy s x) = _
    rw [hwy, hbe, Plru.tI_yes hbn hkk]
  obtain ⟨l0, _, _, l3⟩ := Plru.law ⟨bn, hbn⟩ ⟨kk, hkk⟩
  simp only [] at l0 l3
  have e1 : (lk (lk s x) x).b = (lk s x).b := by
    show Plru.tI (lk s x).b (wy (lk s x) x) = _
    rw [hw2, eb, Plru.tI_yes l0 hkk, l3]
  have e2 : (lk (lk s x) x).u = (lk s x).u := by
    funext n
    have : (lk (lk s x) x).u n = if n = kk then true else (lk s x).u n := lk_u hw2 n
    rw [this]
    by_cases e : n = kk
    · rw [if_pos e, hu, if_pos e]
    · rw [if_neg e]
  have e3 : (lk (lk s x) x).a = (lk s x).a := by
    funext n
    have : (lk (lk s x) x).a n = if n = kk then x else (lk s x).a n := lk_a hw2 n
    rw [this]
    by_cases e : n = kk
    · rw [if_pos e, ha, if_pos e]
    · rw [if_neg e]
  cases hq : lk (lk s x) x with | mk b u a =>
    cases hr : lk s x with | mk b' u' a' =>
      rw [hq, hr] at e1 e2 e3
      simp only [] at e1 e2 e3
      rw [e1, e2, e3]

theorem cok_of {s t : Sm} (h0 : rightB s 0 = true) (h1 : rightB t 1 = true) : cokB 2 (fun _ => 4) (two s t) = true := by
  rw [cokB, decide_eq_true rfl, okB_yes (fun c hc => ⟨rfl, ?_⟩)]
  · rfl
  · have : c = 0 ∨ c = 1 := by omega
    rcases this with rfl | rfl
    · exact h0
    · exact h1

theorem again2 {s t : Sm} {x : Int} (hs : rightB s 0 = true) (ht : rightB t 1 = true) : hd (at2 (lk2 s t x).1 (lk2 s t x).2 x) x = true ∧ gn (at2 (lk2 s t x).1 (lk2 s t x).2 x) x = -1 ∧ lk2 (lk2 s t x).1 (lk2 s t x).2 x = lk2 s t x := by
  unfold lk2 at2
  by_cases e : x % 2 = 0
  · simp only [if_pos e]
    obtain ⟨a, b, c⟩ := again (x := x) hs
    exact ⟨a, b, by rw [c]⟩
  · simp only [if_neg e]
    obtain ⟨a, b, c⟩ := again (x := x) ht
    exact ⟨a, b, by rw [c]⟩
end Ca

end Go.Proofs.Ytlijgkodcbnhbaa
