/- nets, plainly: who is joined; walks of so many steps, and how far it is -/
import Derived.Test.YtgafpepmmjjaaaaNtD
namespace Go.Proofs.Ytgafpepmmjjaaaa
set_option linter.unusedVariables false
set_option linter.unusedSimpArgs false

/-- a right net -/
structure Nt (N : Int) (n : Nat) (f : Nat → Nat → Int) : Prop where
  lo : 1 ≤ N
  hi : N ≤ 6
  lk : ∀ k, k < n → 0 ≤ f k 0 ∧ f k 0 < f k 1 ∧ f k 1 < N
  ah : ∀ k, k + 1 < n → f k 0 < f (k + 1) 0 ∨ (f k 0 = f (k + 1) 0 ∧ f k 1 < f (k + 1) 1)

theorem nt_of {N : Int} {n : Nat} {f : Nat → Nat → Int} (h : netB N n f = true) : Nt N n f := by
  simp only [netB, Bool.and_eq_true, decide_eq_true_eq, inB] at h
  obtain ⟨h0, h1⟩ := h
  refine ⟨by omega, by omega, fun k hk => ?_, fun k hk => ?_⟩
  · have := h1 k hk
    simp only [lkB, inB, Bool.and_eq_true, decide_eq_true_eq] at this
    omega
  · have := h1 (k + 1) hk
    simp only [lkB, ahB, Bool.and_eq_true, Bool.or_eq_true, decide_eq_true_eq] at this
    rcases this.2 with e | e
    · omega
    · simpa using e
theorem Nt.before {N : Int} {n : Nat} {f : Nat → Nat → Int} (h : Nt N n f) : ∀ k j, j < k → k < n → f j 0 < f k 0 ∨ (f j 0 = f k 0 ∧ f j 1 < f k 1) := by
  intro k
  induction k with
  | zero => intro j hj; omega
  | succ k ih =>
    intro j hj hk
    have h1 := h.ah k hk
    by_cases e : j = k
    · subst e; exact h1
    · have h2 := ih j (by omega) (by omega)
      omega

/-- a link joins them -/
def jn (n : Nat) (f : Nat → Nat → Int) (a b : Int) : Bool := (List.range n).any fun k => decide (f k 0 = min a b) && decide (f k 1 = max a b)
theorem jn_iff {n : Nat} {f : Nat → Nat → Int} {a b : Int} : jn n f a b = true ↔ ∃ k, k < n ∧ f k 0 = min a b ∧ f k 1 = max a b := by
  simp [jn]
theorem jn_comm (n : Nat) (f : Nat → Nat → Int) (a b : Int) : jn n f a b = jn n f b a := by
  rw [jn, jn, Int.min_comm, Int.max_comm]
theorem jn_lt {N : Int} {n : Nat} {f : Nat → Nat → Int} (h : Nt N n f) {a b : Int} (hj : jn n f a b = true) : 0 ≤ a ∧ a < N ∧ 0 ≤ b ∧ b < N ∧ a ≠ b := by
  obtain ⟨k, hk, h0, h1⟩ := jn_iff.1 hj
  have := h.lk k hk
  omega

/-- those that the first k links join with that one -/
def jl (f : Nat → Nat → Int) (x : Int) : Nat → List Int
  | 0 => []
  | k + 1 => jl f x k ++ ((if f k 0 = x then [f k 1] else []) ++ (if f k 1 = x then [f k 0] else []))
theorem jl_le (f : Nat → Nat → Int) (x : Int) (k : Nat) : (jl f x k).length ≤ 2 * k := by
  induction k with
  | zero => simp [jl]
  | succ k ih =>
    simp only [jl, List.length_append]
    split <;> split <;> simp <;> omega
theorem mem_jl {f : Nat → Nat → Int} {x y : Int} {k : Nat} : y ∈ jl f x k ↔ ∃ j, j < k ∧ ((f j 0 = x ∧ f j 1 = y) ∨ (f j 1 = x ∧ f j 0 = y)) := by
  induction k with
  | zero => simp [jl]
  | succ k ih =>
    have hm : y ∈ jl f x (k + 1) ↔ y ∈ jl f x k ∨ ((f k 0 = x ∧ f k 1 = y) ∨ (f k 1 = x ∧ f k 0 = y)) := by
      simp only [jl, List.mem_append]
      have e1 : (y ∈ (if f k 0 = x then [f k 1] else [])) ↔ (f k 0 = x ∧ f k 1 = y) := by
        by_cases e : f k 0 = x
        · rw [if_pos e, List.mem_singleton]; exact ⟨fun h => ⟨e, h.symm⟩, fun h => h.2.symm⟩
        · rw [if_neg e]; exact ⟨fun h => absurd h (by simp), fun h => absurd h.1 e⟩
      have e2 : (y ∈ (if f k 1 = x then [f k 0] else [])) ↔ (f k 1 = x ∧ f k 0 = y) := by
        by_cases e : f k 1 = x
        · rw [if_pos e, List.mem_singleton]; exact ⟨fun h => ⟨e, h.symm⟩, fun h => h.2.symm⟩
        · rw [if_neg e]; exact ⟨fun h => absurd h (by simp), fun h => absurd h.1 e⟩
      rw [e1, e2]
    rw [hm, ih]
    constructor
    · rintro (⟨j, hj, h⟩ | h)
      · exact ⟨j, by omega, h⟩
      · exact ⟨k, by omega, h⟩
    · rintro ⟨j, hj, h⟩
      by_cases e : j = k
      · subst e; exact .inr h
      · exact .inl ⟨j, by omega, h⟩
theorem mem_jl_jn {N : Int} {n : Nat} {f : Nat → Nat → Int} (h : Nt N n f) {x y : Int} : y ∈ jl f x n ↔ jn n f x y = true := by
  rw [mem_jl, jn_iff]
  constructor
  · rintro ⟨j, hj, e⟩
    have := h.lk j hj
    exact ⟨j, hj, by omega, by omega⟩
  · rintro ⟨j, hj, e⟩
    have := h.lk j hj
    exact ⟨j, hj, by omega⟩
theorem jl_rise {N : Int} {n : Nat} {f : Nat → Nat → Int} (h : Nt N n f) (x : Int) (k : Nat) (hk : k ≤ n) : (jl f x k).Pairwise (· < ·) := by
  induction k with
  | zero => simp [jl]
  | succ k ih =>
    have h1 := h.lk k (by omega)
    have H : ∀ y, y ∈ jl f x k → ∀ z, ((f k 0 = x ∧ f k 1 = z) ∨ (f k 1 = x ∧ f k 0 = z)) → y < z := by
      intro y hy z hz
      obtain ⟨j, hj, e⟩ := mem_jl.1 hy
      have h2 := h.lk j (by omega)
      have h3 := h.before k j hj (by omega)
      omega
    simp only [jl]
    refine List.pairwise_append.2 ⟨ih (by omega), ?_, ?_⟩
    · split <;> split <;> simp <;> omega
    · intro y hy z hz
      refine H y hy z ?_
      rw [List.mem_append] at hz
      rcases hz with hz | hz <;> split at hz <;> simp at hz
      · exact .inl ⟨by assumption, hz.symm⟩
      · exact .inr ⟨by assumption, hz.symm⟩

/-- a walk of k steps -/
def Wk (R : Int → Int → Bool) : Nat → Int → Int → Prop
  | 0, a, b => a = b
  | k + 1, a, b => ∃ c, R a c = true ∧ Wk R k c b
theorem Wk.snoc {R : Int → Int → Bool} {k : Nat} {a c b : Int} (h : Wk R k a c) (hr : R c b = true) : Wk R (k + 1) a b := by
  induction k generalizing a with
  | zero => cases h; exact ⟨b, hr, rfl⟩
  | succ k ih => obtain ⟨d, h1, h2⟩ := h; exact ⟨d, h1, ih h2⟩
theorem Wk.unsnoc {R : Int → Int → Bool} {k : Nat} {a b : Int} (h : Wk R (k + 1) a b) : ∃ c, Wk R k a c ∧ R c b = true := by
  induction k generalizing a with
  | zero => obtain ⟨c, h1, h2⟩ := h; cases h2; exact ⟨a, rfl, h1⟩
  | succ k ih =>
    obtain ⟨d, h1, h2⟩ := h
    obtain ⟨c, h3, h4⟩ := ih h2
    exact ⟨c, ⟨d, h1, h3⟩, h4⟩
theorem Wk.trans {R : Int → Int → Bool} {j k : Nat} {a b c : Int} (h : Wk R j a b) (h' : Wk R k b c) : Wk R (j + k) a c := by
  induction j generalizing a with
  | zero => cases h; rw [Nat.zero_add]; exact h'
  | succ j ih =>
    obtain ⟨d, h1, h2⟩ := h
    rw [Nat.succ_add]
    exact ⟨d, h1, ih h2⟩
theorem Wk.symm {R : Int → Int → Bool} (hs : ∀ a b, R a b = R b a) {k : Nat} {a b : Int} (h : Wk R k a b) : Wk R k b a := by
  induction k generalizing a with
  | zero => exact Eq.symm h
  | succ k ih => obtain ⟨c, h1, h2⟩ := h; exact (ih h2).snoc (by rw [hs]; exact h1)

/-- so far it is: the fewest steps; or no walk leads there -/
def isD (R : Int → Int → Bool) (a b : Int) (r : Int) : Prop := (∃ d : Nat, r = d ∧ Wk R d a b ∧ ∀ k, k < d → ¬ Wk R k a b) ∨ (r = -1 ∧ ∀ k, ¬ Wk R k a b)
theorem isD.one {R : Int → Int → Bool} {a b r s : Int} (h : isD R a b r) (h' : isD R a b s) : r = s := by
  rcases h with ⟨d, rfl, h1, h2⟩ | ⟨rfl, h1⟩ <;> rcases h' with ⟨e, rfl, h3, h4⟩ | ⟨rfl, h3⟩
  · have : ¬ d < e := fun hl => h4 d hl h1
    have : ¬ e < d := fun hl => h2 e hl h3
    omega
  · exact absurd h1 (h3 d)
  · exact absurd h3 (h1 e)
  · rfl
theorem least {p : Nat → Prop} {k : Nat} (h : p k) : ∃ d, d ≤ k ∧ p d ∧ ∀ j, j < d → ¬ p j := by
  induction k using Nat.strongRecOn with
  | _ k ih =>
    by_cases e : ∃ j, j < k ∧ p j
    · obtain ⟨j, hj, hp⟩ := e
      obtain ⟨d, h1, h2⟩ := ih j hj hp
      exact ⟨d, by omega, h2⟩
    · exact ⟨k, Nat.le_refl _, h, fun j hj hp => e ⟨j, hj, hp⟩⟩
theorem isD_some (R : Int → Int → Bool) (a b : Int) : ∃ r, isD R a b r := by
  by_cases e : ∃ k, Wk R k a b
  · obtain ⟨k, hk⟩ := e
    obtain ⟨d, _, h1, h2⟩ := least (p := fun k => Wk R k a b) hk
    exact ⟨d, .inl ⟨d, rfl, h1, h2⟩⟩
  · exact ⟨-1, .inr ⟨rfl, fun k hk => e ⟨k, hk⟩⟩⟩
noncomputable def dst (R : Int → Int → Bool) (a b : Int) : Int := Classical.choose (isD_some R a b)
theorem dst_is (R : Int → Int → Bool) (a b : Int) : isD R a b (dst R a b) := Classical.choose_spec (isD_some R a b)
theorem dst_eq {R : Int → Int → Bool} {a b r : Int} (h : isD R a b r) : dst R a b = r := (dst_is R a b).one h
theorem dst_comm {R : Int → Int → Bool} (hs : ∀ a b, R a b = R b a) (a b : Int) : dst R a b = dst R b a := by
  refine dst_eq ?_
  rcases dst_is R b a with ⟨d, e, h1, h2⟩ | ⟨e, h1⟩
  · exact .inl ⟨d, e, h1.symm hs, fun k hk h => h2 k hk (h.symm hs)⟩
  · exact .inr ⟨e, fun k h => h1 k (h.symm hs)⟩
theorem dst_self (R : Int → Int → Bool) (a : Int) : dst R a a = 0 := dst_eq (.inl ⟨0, rfl, rfl, fun k hk => by omega⟩)
theorem dst_ge (R : Int → Int → Bool) (a b : Int) : -1 ≤ dst R a b := by
  rcases dst_is R a b with ⟨d, e, _⟩ | ⟨e, _⟩ <;> omega
theorem dst_le {R : Int → Int → Bool} {a b : Int} {k : Nat} (h : Wk R k a b) : 0 ≤ dst R a b ∧ dst R a b ≤ k := by
  rcases dst_is R a b with ⟨d, e, _, h2⟩ | ⟨e, h1⟩
  · have : ¬ k < d := fun hl => h2 k hl h
    omega
  · exact absurd h (h1 k)
theorem dst_wk {R : Int → Int → Bool} {a b : Int} (h : 0 ≤ dst R a b) : Wk R (dst R a b).toNat a b := by
  rcases dst_is R a b with ⟨d, e, h1, _⟩ | ⟨e, h1⟩
  · rw [e]; exact h1
  · omega
theorem dst_zero {R : Int → Int → Bool} {a b : Int} (h : dst R a b = 0) : a = b := by
  have := dst_wk (R := R) (a := a) (b := b) (by omega)
  rw [h] at this
  exact this

/-- numbers below N, none twice, are N at most -/
theorem pigeon : ∀ (N : Nat) (l : List Int), l.Nodup → (∀ x, x ∈ l → 0 ≤ x ∧ x < N) → l.length ≤ N := by
  intro N
  induction N with
  | zero =>
    intro l _ h
    cases l with
    | nil => simp
    | cons x l => have := h x (by simp); omega
  | succ N ih =>
    intro l hn h
    have h1 := ih (l.erase (N : Int)) (hn.erase _) (fun x hx => by
      rw [hn.mem_erase_iff] at hx
      have := h x hx.2
      have := hx.1
      omega)
    have h2 : l.length ≤ (l.erase (N : Int)).length + 1 := by
      rw [List.length_erase]
      split <;> omega
    omega

/-- on a shortest walk there is a node at every distance -/
theorem levels {R : Int → Int → Bool} {a b : Int} {d : Nat} (h : Wk R d a b) (hm : ∀ k, k < d → ¬ Wk R k a b) : ∀ i, i ≤ d → ∃ c, Wk R i a c ∧ (∀ k, k < i → ¬ Wk R k a c) ∧ Wk R (d - i) c b := by
  intro i
  induction i with
  | zero => intro _; exact ⟨a, rfl, fun k hk => by omega, h⟩
  | succ i ih =>
    intro hi
    obtain ⟨c, h1, _, h3⟩ := ih (by omega)
    obtain ⟨j, hj⟩ : ∃ j, d - i = j + 1 := ⟨d - i - 1, by omega⟩
    rw [hj] at h3
    obtain ⟨c', h4, h5⟩ := h3
    have e : d - (i + 1) = j := by omega
    rw [e]
    refine ⟨c', h1.snoc h4, fun k hk hw => ?_, h5⟩
    exact hm (k + j) (by omega) (hw.trans h5)
theorem near {R : Int → Int → Bool} {N : Nat} {a b : Int} (hR : ∀ x y, R x y = true → 0 ≤ y ∧ y < N) (ha : 0 ≤ a ∧ a < N) {d : Nat} (h : Wk R d a b) (hm : ∀ k, k < d → ¬ Wk R k a b) : d < N := by
  have hl := levels h hm
  obtain ⟨g, hg⟩ : ∃ g : Nat → Int, ∀ i, i ≤ d → Wk R i a (g i) ∧ (∀ k, k < i → ¬ Wk R k a (g i)) := ⟨fun i => if hi : i ≤ d then Classical.choose (hl i hi) else 0, fun i hi => by
    have := Classical.choose_spec (hl i hi)
    simp only [hi, dite_true]
    exact ⟨this.1, this.2.1⟩⟩
  have hlen := pigeon N ((List.range (d + 1)).map g) ?_ ?_
  · simp at hlen; omega
  · rw [List.nodup_iff_pairwise_ne, List.pairwise_map]
    refine List.Pairwise.imp_of_mem (R := (· < ·)) ?_ List.pairwise_lt_range
    intro i j hi hj hlt e
    simp at hi hj
    obtain ⟨h1, _⟩ := hg i (by omega)
    obtain ⟨_, h2⟩ := hg j (by omega)
    rw [e] at h1
    exact h2 i hlt h1
  · intro x hx
    simp at hx
    obtain ⟨i, hi, rfl⟩ := hx
    obtain ⟨h1, _⟩ := hg i (by omega)
    cases i with
    | zero => cases h1; exact ha
    | succ i => obtain ⟨c, _, h2⟩ := h1.unsnoc; exact hR _ _ h2
theorem dst_lt {R : Int → Int → Bool} {N : Nat} {a b : Int} (hR : ∀ x y, R x y = true → 0 ≤ y ∧ y < N) (ha : 0 ≤ a ∧ a < N) : dst R a b < N := by
  rcases dst_is R a b with ⟨d, e, h1, h2⟩ | ⟨e, _⟩
  · have := near hR ha h1 h2; omega
  · omega

end Go.Proofs.Ytgafpepmmjjaaaa
