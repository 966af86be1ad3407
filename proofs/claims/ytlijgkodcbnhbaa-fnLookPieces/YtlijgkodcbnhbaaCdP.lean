/- four looks at a full set; DrawCacheOk -/
import Derived.Test.YtlijgkodcbnhbaaCdO
import Derived.Test.YtlijgkodcbnhbaaCdN
namespace Go.Proofs.Ytlijgkodcbnhbaa
open Go.RowKit
set_option linter.unusedVariables false
set_option linter.unusedSimpArgs false

namespace Ca
/-- a look at a full set that has it not -/
theorem full_step {m : Sm} {c b : Nat} {x : Int} (h : rightB m c = true) (hall : ∀ k, k < 4 → m.u k = true) (hno : ¬ hs m x) (hb : m.b = (b : Int)) (hb8 : b < 8) (hv : Plru.victim b < 4) :
    (lk m x).b = (Plru.touch b (Plru.victim b) : Nat) ∧ (∀ n : Nat, (lk m x).u n = if n = Plru.victim b then true else m.u n) ∧ ∀ n : Nat, (lk m x).a n = if n = Plru.victim b then x else m.a n := by
  have hf : fst m true x = -1 := by
    rcases fst_spec m true x with ⟨k, hk, _, hy, _⟩ | ⟨hf, _⟩
    · exact absurd ⟨k, hk, (at_iff.1 hy).1, (at_iff.1 hy).2⟩ hno
    · exact hf
  obtain ⟨h1, _, _⟩ := wy_full hf (free_none hall)
  have hwy : wy m x = (Plru.victim b : Nat) := by rw [h1, hb, Plru.vI_yes hb8]
  refine ⟨?_, lk_u hwy, lk_a hwy⟩
  show Plru.tI m.b (wy m x) = _
  rw [hwy, hb, Plru.tI_yes hb8 hv]
abbrev v0 (b : Nat) := Plru.victim b
abbrev b1 (b : Nat) := Plru.touch b (v0 b)
abbrev v1 (b : Nat) := Plru.victim (b1 b)
abbrev b2 (b : Nat) := Plru.touch (b1 b) (v1 b)
abbrev v2 (b : Nat) := Plru.victim (b2 b)
abbrev b3 (b : Nat) := Plru.touch (b2 b) (v2 b)
abbrev v3 (b : Nat) := Plru.victim (b3 b)
theorem four_ways : ∀ b : Fin 8, (v0 b < 4 ∧ v1 b < 4 ∧ v2 b < 4 ∧ v3 b < 4) ∧ (b1 b < 8 ∧ b2 b < 8 ∧ b3 b < 8) ∧ v0 b ≠ v1 b ∧ v0 b ≠ v2 b ∧ v0 b ≠ v3 b ∧ v1 b ≠ v2 b ∧ v1 b ≠ v3 b ∧ v2 b ≠ v3 b := by decide +kernel

theorem four_there {m : Sm} {c : Nat} {f : Int} (h : rightB m c = true) (hf0 : 0 ≤ f) (hf1 : f ≤ 900) (hp : f % 2 = c) (hall : ∀ k, k < 4 → m.u k = true ∧ m.a k < f) :
    hs (lk (lk (lk (lk m f) (f + 2)) (f + 4)) (f + 6)) f ∧ hs (lk (lk (lk (lk m f) (f + 2)) (f + 4)) (f + 6)) (f + 2) ∧ hs (lk (lk (lk (lk m f) (f + 2)) (f + 4)) (f + 6)) (f + 4) ∧ hs (lk (lk (lk (lk m f) (f + 2)) (f + 4)) (f + 6)) (f + 6) := by
  obtain ⟨b, hb8, hb⟩ := bits_nat (right_bits h)
  obtain ⟨⟨l0, l1, l2, l3⟩, ⟨q1, q2, q3⟩, n01, n02, n03, n12, n13, n23⟩ := four_ways ⟨b, hb8⟩
  simp only [] at l0 l1 l2 l3 q1 q2 q3 n01 n02 n03 n12 n13 n23
  obtain ⟨e1, u1, a1⟩ := full_step (x := f) h (fun k hk => (hall k hk).1) (fun ⟨k, hk, _, q⟩ => by have := (hall k hk).2; omega) hb hb8 l0
  have r1 := lk_right (x := f) h (decide_eq_true ⟨by omega, by omega⟩) hp
  have all1 : ∀ k, k < 4 → (lk m f).u k = true ∧ (lk m f).a k < f + 2 := fun k hk => by
    rw [u1, a1]
    by_cases e : k = v0 b
    · rw [if_pos e, if_pos e]; exact ⟨rfl, by omega⟩
    · rw [if_neg e, if_neg e]; exact ⟨(hall k hk).1, by have := (hall k hk).2; omega⟩
  obtain ⟨e2, u2, a2⟩ := full_step (x := f + 2) r1 (fun k hk => (all1 k hk).1) (fun ⟨k, hk, _, q⟩ => by have := (all1 k hk).2; omega) e1 q1 l1
  have r2 := lk_right (x := f + 2) r1 (decide_eq_true ⟨by omega, by omega⟩) (by omega)
  have all2 : ∀ k, k < 4 → (lk (lk m f) (f + 2)).u k = true ∧ (lk (lk m f) (f + 2)).a k < f + 4 := fun k hk => by
    rw [u2, a2]
    by_cases e : k = v1 b
    · rw [if_pos e, if_pos e]; exact ⟨rfl, by omega⟩
    · rw [if_neg e, if_neg e]; exact ⟨(all1 k hk).1, by have := (all1 k hk).2; omega⟩
  obtain ⟨e3, u3, a3⟩ := full_step (x := f + 4) r2 (fun k hk => (all2 k hk).1) (fun ⟨k, hk, _, q⟩ => by have := (all2 k hk).2; omega) e2 q2 l2
  have r3 := lk_right (x := f + 4) r2 (decide_eq_true ⟨by omega, by omega⟩) (by omega)
  have all3 : ∀ k, k < 4 → (lk (lk (lk m f) (f + 2)) (f + 4)).u k = true ∧ (lk (lk (lk m f) (f + 2)) (f + 4)).a k < f + 6 := fun k hk => by
    rw [u3, a3]
    by_cases e : k = v2 b
    · rw [if_pos e, if_pos e]; exact ⟨rfl, by omega⟩
    · rw [if_neg e, if_neg e]; exact ⟨(all2 k hk).1, by have := (all2 k hk).2; omega⟩
  obtain ⟨e4, u4, a4⟩ := full_step (x := f + 6) r3 (fun k hk => (all3 k hk).1) (fun ⟨k, hk, _, q⟩ => by have := (all3 k hk).2; omega) e3 q3 l3
  have hU : ∀ k, k < 4 → (lk (lk (lk (lk m f) (f + 2)) (f + 4)) (f + 6)).u k = true := fun k hk => by
    rw [u4]
    by_cases e : k = v3 b
    · rw [if_pos e]
    · rw [if_neg e]; exact (all3 k hk).1
  refine ⟨⟨v0 b, l0, hU _ l0, ?_⟩, ⟨v1 b, l1, hU _ l1, ?_⟩, ⟨v2 b, l2, hU _ l2, ?_⟩, ⟨v3 b, l3, hU _ l3, ?_⟩⟩
  · rw [a4, if_neg n03, a3, if_neg n02, a2, if_neg n01, a1, if_pos rfl]
  · rw [a4, if_neg n13, a3, if_neg n12, a2, if_pos rfl]
  · rw [a4, if_neg n23, a3, if_pos rfl]
  · rw [a4, if_pos rfl]

/-- looks at one set, one after another -/
theorem rn_at {s t : Sm} {f : Int} (j : Nat) : ∀ k, at2 (rn s t (fun i => f + 2 * (i : Int)) k).1 (rn s t (fun i => f + 2 * (i : Int)) k).2 f = Nat.rec (at2 s t f) (fun i m => lk m (f + 2 * (i : Int))) k
  | 0 => rfl
  | k + 1 => by
    have ih := rn_at (s := s) (t := t) (f := f) j k
    show at2 (lk2 _ _ _).1 (lk2 _ _ _).2 f = lk _ _
    rw [← ih]
    unfold at2 lk2
    by_cases e : f % 2 = 0
    · have e2 : (f + 2 * (k : Int)) % 2 = 0 := by omega
      simp only [if_pos e, if_pos e2]
    · have e2 : ¬ (f + 2 * (k : Int)) % 2 = 0 := by omega
      simp only [if_neg e, if_neg e2]
theorem at2_par {s t : Sm} {f x : Int} (h : x % 2 = f % 2) : at2 s t x = at2 s t f := by unfold at2; rw [h]
theorem at2_right {s t : Sm} (hs0 : rightB s 0 = true) (ht1 : rightB t 1 = true) (f : Int) : ∃ c : Nat, c < 2 ∧ f % 2 = c ∧ rightB (at2 s t f) c = true ∧ two s t c = at2 s t f := by
  unfold at2
  by_cases e : f % 2 = 0
  · exact ⟨0, by omega, by omega, by rw [if_pos e]; exact hs0, by rw [if_pos e]; rfl⟩
  · exact ⟨1, by omega, by omega, by rw [if_neg e]; exact ht1, by rw [if_neg e]; rfl⟩
/-- all that the law says -/
theorem four_says {s t : Sm} {f : Int} (hs0 : rightB s 0 = true) (ht1 : rightB t 1 = true) (hf0 : 0 ≤ f) (hf1 : f ≤ 900) (hall : ∀ k, k < 4 → (at2 s t f).u k = true ∧ (at2 s t f).a k < f) :
    cokB 2 (fun _ => 4) (two (rn s t (fun i => f + 2 * (i : Int)) 4).1 (rn s t (fun i => f + 2 * (i : Int)) 4).2) = true ∧ ∀ i : Nat, i < 4 → hldB 2 (fun _ => 4) (two (rn s t (fun i => f + 2 * (i : Int)) 4).1 (rn s t (fun i => f + 2 * (i : Int)) 4).2) (f + 2 * (i : Int)) = true := by
  obtain ⟨q1, q2⟩ := rn_right (z := fun i => f + 2 * (i : Int)) hs0 ht1 4 (fun j hj => decide_eq_true ⟨by omega, by omega⟩)
  have hok := cok_of q1 q2
  obtain ⟨c, hc, hp, hr, _⟩ := at2_right hs0 ht1 f
  obtain ⟨t0, t1, t2, t3⟩ := four_there hr hf0 hf1 hp hall
  have e4 := rn_at (s := s) (t := t) (f := f) 0 4
  refine ⟨hok, fun i hi => ?_⟩
  rw [hld_iff hok]
  refine ⟨decide_eq_true ⟨by omega, by omega⟩, ?_⟩
  rw [at2_par (f := f) (by omega), e4]
  have hz : f + 2 * ((0 : Nat) : Int) = f := by omega
  have h1 : f + 2 * ((1 : Nat) : Int) = f + 2 := by omega
  have h2 : f + 2 * ((2 : Nat) : Int) = f + 4 := by omega
  have h3 : f + 2 * ((3 : Nat) : Int) = f + 6 := by omega
  show hs (lk (lk (lk (lk (at2 s t f) (f + 2 * ((0 : Nat) : Int))) (f + 2 * ((1 : Nat) : Int))) (f + 2 * ((2 : Nat) : Int))) (f + 2 * ((3 : Nat) : Int))) _
  rw [hz, h1, h2, h3]
  have : i = 0 ∨ i = 1 ∨ i = 2 ∨ i = 3 := by omega
  rcases this with rfl | rfl | rfl | rfl
  · rw [hz]; exact t0
  · rw [h1]; exact t1
  · rw [h2]; exact t2
  · rw [h3]; exact t3
end Ca

end Go.Proofs.Ytlijgkodcbnhbaa
