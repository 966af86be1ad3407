/- what a look leaves in a set, address by address: plain facts -/
import Derived.Test.YtlijgkodcbnhbaaCdM
namespace Go.Proofs.Ytlijgkodcbnhbaa
open Go.RowKit
set_option linter.unusedVariables false
set_option linter.unusedSimpArgs false
namespace Ca

def hs (s : Sm) (a : Int) : Prop := ∃ k, k < 4 ∧ s.u k = true ∧ s.a k = a
theorem fst_ne {s : Sm} {a : Int} : ¬ fst s true a = -1 ↔ hs s a := by
  rcases fst_spec s true a with ⟨k, hk, hf, hy, _⟩ | ⟨hf, hno⟩
  · refine ⟨fun _ => ⟨k, hk, (at_iff.1 hy).1, (at_iff.1 hy).2⟩, fun _ => by rw [hf]; omega⟩
  · refine ⟨fun h => absurd hf h, fun ⟨k, hk, h1, h2⟩ => ?_⟩
    have := hno k hk
    rw [at_yes h1 h2] at this
    cases this
theorem right_par {s : Sm} {c k : Nat} (h : rightB s c = true) (hk : k < 4) (hu : s.u k = true) : inR (s.a k) 1000 = true ∧ s.a k % 2 = c ∧ fst s true (s.a k) = k := by
  have hw := right_way h hk
  unfold wayB at hw
  rw [hu, if_pos rfl] at hw
  simp only [Bool.and_eq_true, decide_eq_true_eq] at hw
  exact ⟨hw.1.1, hw.1.2, hw.2⟩
theorem right_one {s : Sm} {c k k' : Nat} (h : rightB s c = true) (hk : k < 4) (hk' : k' < 4) (hu : s.u k = true) (hu' : s.u k' = true) (e : s.a k = s.a k') : k = k' := by
  have h1 := (right_par h hk hu).2.2
  have h2 := (right_par h hk' hu').2.2
  rw [e, h2] at h1
  omega

/-- what the way of a look was -/
theorem way_was {s : Sm} {c : Nat} (x : Int) (h : rightB s c = true) : ∃ kk : Nat, kk < 4 ∧ wy s x = kk ∧ ((s.u kk = true ∧ s.a kk = x ∧ hd s x = true ∧ gn s x = -1) ∨ (s.u kk = false ∧ hd s x = false ∧ ¬ hs s x ∧ gn s x = -1) ∨ (s.u kk = true ∧ hd s x = false ∧ ¬ hs s x ∧ gn s x = s.a kk)) := by
  obtain ⟨kk, hkk, hwy, _⟩ := lk_way x h
  refine ⟨kk, hkk, hwy, ?_⟩
  rcases fst_spec s true x with ⟨j, hj, hf, hy, _⟩ | ⟨hf, hno⟩
  · have hne : ¬ fst s true x = -1 := by rw [hf]; omega
    obtain ⟨h1, h2, h3⟩ := wy_hit hne
    have : j = kk := by have := h1.symm.trans hwy; omega
    subst this
    exact .inl ⟨(at_iff.1 hy).1, (at_iff.1 hy).2, h2, h3⟩
  · have hns : ¬ hs s x := fun q => fst_ne.2 q hf
    rcases fst_spec s false 0 with ⟨j, hj, hf2, hy, _⟩ | ⟨hf2, hno2⟩
    · obtain ⟨h1, h2, h3⟩ := wy_free hf (by rw [hf2]; omega)
      have : j = kk := by have := h1.symm.trans hwy; omega
      subst this
      exact .inr (.inl ⟨(at_iff.1 hy).1, h2, hns, h3⟩)
    · obtain ⟨h1, h2, h3⟩ := wy_full hf hf2
      have hv : (Plru.vI s.b).toNat = kk := by rw [← h1, hwy]; rfl
      rw [hv] at h3
      refine .inr (.inr ⟨?_, h2, hns, h3⟩)
      cases hu : s.u kk
      · have := hno2 kk hkk
        rw [at_yes hu (free_a h hkk hu)] at this
        cases this
      · rfl

theorem lk_hs {s : Sm} {c : Nat} {x a : Int} (h : rightB s c = true) (ha : 0 ≤ a) : hs (lk s x) a ↔ ((hs s a ∧ a ≠ gn s x) ∨ a = x) := by
  obtain ⟨kk, hkk, hwy, hu, hA, _, _⟩ := lk_way x h
  obtain ⟨k2, hk2, hwy2, hcase⟩ := way_was x h
  have : k2 = kk := by have := hwy2.symm.trans hwy; omega
  subst this
  constructor
  · rintro ⟨k, hk, h1, h2⟩
    by_cases e : k = k2
    · rw [hA, if_pos e] at h2; exact .inr h2.symm
    · rw [hu, if_neg e] at h1
      rw [hA, if_neg e] at h2
      by_cases ex : a = x
      · exact .inr ex
      · refine .inl ⟨⟨k, hk, h1, h2⟩, ?_⟩
        rcases hcase with ⟨_, _, _, g⟩ | ⟨_, _, _, g⟩ | ⟨u, _, _, g⟩
        · rw [g]; omega
        · rw [g]; omega
        · rw [g]; exact fun q => e (right_one h hk hk2 h1 u (h2.trans q))
  · rintro (⟨⟨k, hk, h1, h2⟩, hg⟩ | rfl)
    · by_cases e : k = k2
      · subst e
        rcases hcase with ⟨_, q, _, _⟩ | ⟨q, _, _, _⟩ | ⟨_, _, _, g⟩
        · exact ⟨k, hk, by rw [hu, if_pos rfl], by rw [hA, if_pos rfl, ← q, h2]⟩
        · rw [q] at h1; cases h1
        · exact absurd (h2.symm.trans g.symm) hg
      · exact ⟨k, hk, by rw [hu, if_neg e, h1], by rw [hA, if_neg e, h2]⟩
    · exact ⟨k2, hk2, by rw [hu, if_pos rfl], by rw [hA, if_pos rfl]⟩

theorem gn_par {s : Sm} {c : Nat} {x : Int} (h : rightB s c = true) : gn s x = -1 ∨ (inR (gn s x) 1000 = true ∧ gn s x % 2 = c ∧ hs s (gn s x) ∧ hd s x = false) := by
  obtain ⟨k, hk, _, hcase⟩ := way_was x h
  rcases hcase with ⟨_, _, _, g⟩ | ⟨_, _, _, g⟩ | ⟨u, d, _, g⟩
  · exact .inl g
  · exact .inl g
  · rw [g]
    obtain ⟨p1, p2, _⟩ := right_par h hk u
    exact .inr ⟨p1, p2, ⟨k, hk, u, rfl⟩, d⟩
theorem hd_hs (s : Sm) (x : Int) : hd s x = true ↔ hs s x := by
  unfold hd; simp only [decide_eq_true_eq]; exact fst_ne

theorem two_at {s t : Sm} {x : Int} : two s t (x % 2).toNat = at2 s t x := by
  unfold two at2
  by_cases e : x % 2 = 0
  · rw [e, if_pos rfl, if_pos (by rfl)]
  · have : x % 2 = 1 := by omega
    rw [this, if_neg (by decide), if_neg (by decide)]
theorem hld_iff {s t : Sm} {x : Int} (hok : cokB 2 (fun _ => 4) (two s t) = true) : hldB 2 (fun _ => 4) (two s t) x = true ↔ (inR x 1000 = true ∧ hs (at2 s t x) x) := by
  unfold hldB
  rw [hok, two_at]
  simp only [Bool.true_and, Bool.and_eq_true, decide_eq_true_eq, fst_ne]

/-- all that the law says of an address behind a look -/
theorem look_says {s t : Sm} {x a : Int} (hs0 : rightB s 0 = true) (ht1 : rightB t 1 = true) (hx : inR x 1000 = true) (ha : inR a 1000 = true) :
    hldB 2 (fun _ => 4) (two (lk2 s t x).1 (lk2 s t x).2) a = ((hldB 2 (fun _ => 4) (two s t) a && decide (¬ a = gn (at2 s t x) x)) || decide (a = x)) := by
  have hok := cok_of hs0 ht1
  obtain ⟨q1, q2⟩ := lk2_right hs0 ht1 hx
  have hok2 := cok_of q1 q2
  have haa : 0 ≤ a := ((inR_cases ha).1 rfl).1
  rw [Bool.eq_iff_iff, hld_iff hok2, Bool.or_eq_true, Bool.and_eq_true, decide_eq_true_eq, decide_eq_true_eq, hld_iff hok]
  simp only [ha, true_and]
  by_cases ep : a % 2 = x % 2
  · by_cases e0 : x % 2 = 0
    · have e1 : a % 2 = 0 := by omega
      simp only [at2, lk2, if_pos e0, if_pos e1]
      exact lk_hs hs0 haa
    · have e1 : ¬ a % 2 = 0 := by omega
      simp only [at2, lk2, if_neg e0, if_neg e1]
      exact lk_hs ht1 haa
  · have hax : ¬ a = x := fun q => ep (by rw [q])
    have hag : ¬ a = gn (at2 s t x) x := by
      by_cases e0 : x % 2 = 0
      · simp only [at2, if_pos e0]
        rcases gn_par (x := x) hs0 with g | ⟨_, g, _⟩
        · rw [g]; omega
        · intro q; rw [← q] at g; simp at g; omega
      · simp only [at2, if_neg e0]
        rcases gn_par (x := x) ht1 with g | ⟨_, g, _⟩
        · rw [g]; omega
        · intro q; rw [← q] at g; simp at g; omega
    simp only [hax, hag, or_false, not_false_eq_true, and_true]
    by_cases e0 : x % 2 = 0
    · have e1 : ¬ a % 2 = 0 := by omega
      simp only [at2, lk2, if_pos e0, if_neg e1]
    · have e1 : a % 2 = 0 := by omega
      simp only [at2, lk2, if_neg e0, if_pos e1]
theorem hd_hld {s t : Sm} {x : Int} (hok : cokB 2 (fun _ => 4) (two s t) = true) (hx : inR x 1000 = true) : hd (at2 s t x) x = hldB 2 (fun _ => 4) (two s t) x := by
  rw [Bool.eq_iff_iff, hd_hs, hld_iff hok]
  simp only [hx, true_and]
theorem gn_says {s t : Sm} {x : Int} (hs0 : rightB s 0 = true) (ht1 : rightB t 1 = true) : gn (at2 s t x) x = -1 ∨ (gn (at2 s t x) x % 2 = x % 2 ∧ 0 ≤ gn (at2 s t x) x ∧ hldB 2 (fun _ => 4) (two s t) (gn (at2 s t x) x) = true ∧ hd (at2 s t x) x = false) := by
  have hok := cok_of hs0 ht1
  by_cases e0 : x % 2 = 0
  · have ea : at2 s t x = s := by unfold at2; rw [if_pos e0]
    rw [ea]
    rcases gn_par (x := x) hs0 with g | ⟨p1, p2, p3, p4⟩
    · exact .inl g
    · refine .inr ⟨by simp at p2; omega, ((inR_cases p1).1 rfl).1, ?_, p4⟩
      rw [hld_iff hok]
      refine ⟨p1, ?_⟩
      unfold at2
      rw [if_pos (by simpa using p2)]
      exact p3
  · have ea : at2 s t x = t := by unfold at2; rw [if_neg e0]
    rw [ea]
    rcases gn_par (x := x) ht1 with g | ⟨p1, p2, p3, p4⟩
    · exact .inl g
    · refine .inr ⟨by simp at p2; omega, ((inR_cases p1).1 rfl).1, ?_, p4⟩
      rw [hld_iff hok]
      refine ⟨p1, ?_⟩
      unfold at2
      rw [if_neg (by simp at p2; omega)]
      exact p3
theorem cok_lk2 {s t : Sm} {x : Int} (hs0 : rightB s 0 = true) (ht1 : rightB t 1 = true) (hx : inR x 1000 = true) : cokB 2 (fun _ => 4) (two (lk2 s t x).1 (lk2 s t x).2) = true := by
  obtain ⟨q1, q2⟩ := lk2_right hs0 ht1 hx
  exact cok_of q1 q2
end Ca

end Go.Proofs.Ytlijgkodcbnhbaa
