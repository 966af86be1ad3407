/- nets, plainly: what a search knows -/
import Derived.Test.YtgafpepmmjjaaaaNtG
namespace Go.Proofs.Ytgafpepmmjjaaaa
set_option linter.unusedVariables false
set_option linter.unusedSimpArgs false

/-- the k-th of a list of nodes -/
abbrev gd (qs : List Int) (i : Nat) : Int := qs.getD i 0
theorem gd_mem {qs : List Int} {i : Nat} (h : i < qs.length) : gd qs i ∈ qs := by
  simp [gd, h]
theorem gd_of_mem {qs : List Int} {x : Int} (h : x ∈ qs) : ∃ i, i < qs.length ∧ gd qs i = x := by
  obtain ⟨i, hi, e⟩ := List.getElem_of_mem h
  exact ⟨i, hi, by simp [gd, hi, e]⟩
theorem gd_snoc_lt {qs : List Int} {v : Int} {i : Nat} (h : i < qs.length) : gd (qs ++ [v]) i = gd qs i := by
  simp [gd, List.getElem?_append_left h]
theorem gd_snoc_eq {qs : List Int} {v : Int} : gd (qs ++ [v]) qs.length = v := by simp [gd]

/-- a number put in at one place -/
def fput (far : Int → Int) (v d : Int) : Int → Int := fun x => if x = v then d else far x
theorem fput_same (far : Int → Int) (v d : Int) : fput far v d v = d := if_pos rfl
theorem fput_other (far : Int → Int) {v x : Int} (d : Int) (h : x ≠ v) : fput far v d x = far x := if_neg h

/-- a search under way: the nodes found, of which the first p are looked through; how far they are -/
structure Bf (R : Int → Int → Bool) (N : Int) (s : Int) (qs : List Int) (p : Nat) (far : Int → Int) : Prop where
  nd : qs.Nodup
  lt : ∀ x, x ∈ qs → 0 ≤ x ∧ x < N
  hd : gd qs 0 = s
  ps : 0 < qs.length
  f0 : far s = 0
  wk : ∀ x, x ∈ qs → ∃ d : Nat, far x = d ∧ Wk R d s x
  mono : ∀ i j, i ≤ j → j < qs.length → far (gd qs i) ≤ far (gd qs j)
  cap : p < qs.length → ∀ j, j < qs.length → far (gd qs j) ≤ far (gd qs p) + 1
  done : ∀ i, i < p → i < qs.length → ∀ v, R (gd qs i) v = true → v ∈ qs ∧ far v ≤ far (gd qs i) + 1

theorem Bf.start (R : Int → Int → Bool) (N : Int) {s : Int} (hs : 0 ≤ s ∧ s < N) (far : Int → Int) (hf : far s = 0) : Bf R N s [s] 0 far := by
  refine ⟨by simp, fun x hx => ?_, rfl, by simp, hf, fun x hx => ?_, fun i j hij hj => ?_, fun _ j hj => ?_, fun i hi => by omega⟩
  · simp at hx; subst hx; exact hs
  · simp at hx; subst hx; exact ⟨0, hf, rfl⟩
  · have e1 : j = 0 := by simpa using hj
    have e2 : i = 0 := by omega
    subst e1 e2
    exact Int.le_refl _
  · have e1 : j = 0 := by simpa using hj
    subst e1
    show far s ≤ far s + 1
    omega
theorem Bf.len {R : Int → Int → Bool} {N s : Int} {qs : List Int} {p : Nat} {far : Int → Int} (h : Bf R N s qs p far) (hN : N ≤ 6) : qs.length ≤ 6 := by
  have := pigeon 6 qs h.nd (fun x hx => by have := h.lt x hx; omega)
  exact this
/-- a node that is new, joined with the one that is looked through -/
theorem Bf.push {R : Int → Int → Bool} {N s : Int} {qs : List Int} {p : Nat} {far : Int → Int} (h : Bf R N s qs p far) (hp : p < qs.length) {v : Int} (hv : v ∉ qs) (hr : R (gd qs p) v = true) (hN : 0 ≤ v ∧ v < N) : Bf R N s (qs ++ [v]) p (fput far v (far (gd qs p) + 1)) := by
  have hne : ∀ i, i < qs.length → gd qs i ≠ v := fun i hi e => hv (e ▸ gd_mem hi)
  have hsq : s ∈ qs := by rw [← h.hd]; exact gd_mem h.ps
  have hsv : s ≠ v := fun e => hv (e ▸ hsq)
  have hF : ∀ i, i < qs.length → fput far v (far (gd qs p) + 1) (gd (qs ++ [v]) i) = far (gd qs i) := fun i hi => by
    rw [gd_snoc_lt hi]; exact fput_other _ _ (hne i hi)
  have hL : fput far v (far (gd qs p) + 1) (gd (qs ++ [v]) qs.length) = far (gd qs p) + 1 := by
    rw [gd_snoc_eq]; exact fput_same _ _ _
  refine ⟨?_, fun x hx => ?_, ?_, by simp, ?_, fun x hx => ?_, fun i j hij hj => ?_, fun _ j hj => ?_, fun i hi hi2 x hx => ?_⟩
  · rw [List.nodup_append]
    exact ⟨h.nd, by simp, fun a ha b hb => by simp at hb; subst hb; intro e; exact hv (e ▸ ha)⟩
  · rcases List.mem_append.1 hx with hx | hx
    · exact h.lt x hx
    · simp at hx; subst hx; exact hN
  · rw [gd_snoc_lt h.ps]; exact h.hd
  · rw [fput_other _ _ hsv]; exact h.f0
  · rcases List.mem_append.1 hx with hx | hx
    · have : x ≠ v := fun e => hv (e ▸ hx)
      rw [fput_other _ _ this]; exact h.wk x hx
    · simp at hx; subst hx
      obtain ⟨d, h1, h2⟩ := h.wk _ (gd_mem hp)
      exact ⟨d + 1, by rw [fput_same, h1]; rfl, h2.snoc hr⟩
  · rw [List.length_append, List.length_singleton] at hj
    by_cases ej : j = qs.length
    · subst ej
      rw [hL]
      by_cases ei : i = qs.length
      · subst ei; rw [hL]; exact Int.le_refl _
      · rw [hF i (by omega)]; exact h.cap hp i (by omega)
    · rw [hF i (by omega), hF j (by omega)]; exact h.mono i j hij (by omega)
  · rw [List.length_append, List.length_singleton] at hj
    rw [hF p hp]
    by_cases ej : j = qs.length
    · subst ej; rw [hL]; exact Int.le_refl _
    · rw [hF j (by omega)]; exact h.cap hp j (by omega)
  · rw [gd_snoc_lt (by omega)] at hx
    obtain ⟨h1, h2⟩ := h.done i hi (by omega) x hx
    rw [hF i (by omega)]
    refine ⟨List.mem_append.2 (.inl h1), ?_⟩
    have : x ≠ v := fun e => hv (e ▸ h1)
    rw [fput_other _ _ this]; exact h2
/-- the one looked through -/
theorem Bf.next {R : Int → Int → Bool} {N s : Int} {qs : List Int} {p : Nat} {far : Int → Int} (h : Bf R N s qs p far) (hp : p < qs.length) (hd : ∀ v, R (gd qs p) v = true → v ∈ qs) : Bf R N s qs (p + 1) far := by
  refine ⟨h.nd, h.lt, h.hd, h.ps, h.f0, h.wk, h.mono, fun hp2 j hj => ?_, fun i hi hi2 v hv => ?_⟩
  · have h1 := h.cap hp j hj
    have h2 := h.mono p (p + 1) (by omega) hp2
    omega
  · by_cases e : i = p
    · subst e
      obtain ⟨j, hj, ej⟩ := gd_of_mem (hd v hv)
      have := h.cap hp j hj
      rw [ej] at this
      exact ⟨hd v hv, this⟩
    · exact h.done i (by omega) hi2 v hv
/-- so far is the node that is looked through -/
theorem Bf.exact {R : Int → Int → Bool} {N s : Int} {qs : List Int} {p : Nat} {far : Int → Int} (h : Bf R N s qs p far) (hp : p < qs.length) : isD R s (gd qs p) (far (gd qs p)) := by
  obtain ⟨d, h1, h2⟩ := h.wk _ (gd_mem hp)
  refine .inl ⟨d, h1, h2, fun k hk hw => ?_⟩
  have step : ∀ i, i ≤ k → ∀ c, Wk R i s c → c ∈ qs ∧ far c ≤ i := by
    intro i
    induction i with
    | zero => intro _ c hc; cases hc; exact ⟨by rw [← h.hd]; exact gd_mem h.ps, by rw [h.f0]; exact Int.le_refl _⟩
    | succ i ih =>
      intro hi c hc
      obtain ⟨x, hx, hr⟩ := hc.unsnoc
      obtain ⟨h3, h4⟩ := ih (by omega) x hx
      obtain ⟨j, hj, rfl⟩ := gd_of_mem h3
      have hjp : j < p := by
        apply Nat.lt_of_not_le
        intro hle
        have := h.mono p j hle hj
        omega
      obtain ⟨h5, h6⟩ := h.done j hjp hj c hr
      exact ⟨h5, by omega⟩
  have := (step k (Nat.le_refl _) _ hw).2
  omega
/-- all looked through: no walk leads to what was not found -/
theorem Bf.none {R : Int → Int → Bool} {N s : Int} {qs : List Int} {far : Int → Int} (h : Bf R N s qs qs.length far) {b : Int} (hb : b ∉ qs) : isD R s b (-1) := by
  refine .inr ⟨rfl, fun k hw => hb ?_⟩
  have step : ∀ i c, Wk R i s c → c ∈ qs := by
    intro i
    induction i with
    | zero => intro c hc; cases hc; rw [← h.hd]; exact gd_mem h.ps
    | succ i ih =>
      intro c hc
      obtain ⟨x, hx, hr⟩ := hc.unsnoc
      obtain ⟨j, hj, rfl⟩ := gd_of_mem (ih x hx)
      exact (h.done j hj hj c hr).1
  exact step k b hw

/-- all distances, round by round: those of d steps and fewer are known; a row's nodes up to A, and its neighbours up to B, are done -/
structure Lv (R : Int → Int → Bool) (N : Nat) (s : Int) (o : Nat → Int) (d A B : Nat) : Prop where
  yes : ∀ v, v < N → 0 ≤ o v → isD R s v (o v) ∧ o v ≤ (d : Int) + 1
  no : ∀ v, v < N → o v < 0 → o v = -1 ∧ ∀ k, k ≤ d → ¬ Wk R k s v
  row : ∀ a v, a < A → a < N → v < N → o a = d → o v < 0 → R a v = false
  cur : ∀ v, A < N → v < B → v < N → o A = d → o v < 0 → R A v = false

theorem Lv.start (R : Int → Int → Bool) (N s : Nat) (o : Nat → Int) (h0 : o s = 0) (h1 : ∀ v, v ≠ s → o v = -1) : Lv R N s o 0 0 0 := by
  refine ⟨fun v hv h => ?_, fun v hv h => ?_, fun a v ha => by omega, fun v _ hv => by omega⟩
  · by_cases e : v = s
    · subst e; rw [h0]; exact ⟨.inl ⟨0, rfl, rfl, fun k hk => by omega⟩, by omega⟩
    · rw [h1 v e] at h; omega
  · have e : v ≠ s := by intro e; subst e; rw [h0] at h; omega
    refine ⟨h1 v e, fun k hk hw => ?_⟩
    have : k = 0 := by omega
    subst this
    have : (s : Int) = (v : Int) := hw
    omega
/-- a neighbour found -/
theorem Lv.put {R : Int → Int → Bool} {N : Nat} {s : Int} {o : Nat → Int} {d A B : Nat} (h : Lv R N s o d A B) (hA : A < N) (hB : B < N) (hd : o A = d) (hn : o B < 0) (hr : R A B = true) (o' : Nat → Int) (hB' : o' B = (d : Int) + 1) (ho : ∀ v, v ≠ B → o' v = o v) : Lv R N s o' d A (B + 1) := by
  have hAB : A ≠ B := by intro e; subst e; omega
  refine ⟨fun v hv h0 => ?_, fun v hv h0 => ?_, fun a v ha haN hv h1 h2 => ?_, fun v _ hvB hv h1 h2 => ?_⟩
  · by_cases e : v = B
    · subst e
      rw [hB']
      refine ⟨.inl ⟨d + 1, rfl, ?_, fun k hk hw => ?_⟩, Int.le_refl _⟩
      · rcases (h.yes A hA (by omega)).1 with ⟨e, h1, h2, _⟩ | ⟨h1, _⟩
        · have : e = d := by omega
          subst this
          exact h2.snoc hr
        · omega
      · exact (h.no v hv hn).2 k (by omega) hw
    · rw [ho v e] at h0 ⊢; exact h.yes v hv h0
  · have e : v ≠ B := by intro e; subst e; omega
    rw [ho v e] at h0 ⊢; exact h.no v hv h0
  · have e : v ≠ B := by intro e; subst e; omega
    have e2 : a ≠ B := by intro e; subst e; omega
    rw [ho v e] at h2
    rw [ho a e2] at h1
    exact h.row a v ha haN hv h1 h2
  · have e : v ≠ B := by intro e; subst e; omega
    rw [ho v e] at h2
    exact h.cur v hA (by omega) hv hd h2
theorem Lv.skip {R : Int → Int → Bool} {N : Nat} {s : Int} {o : Nat → Int} {d A B : Nat} (h : Lv R N s o d A B) (hs : o B < 0 → R A B = false) : Lv R N s o d A (B + 1) := by
  refine ⟨h.yes, h.no, h.row, fun v hA hvB hv h1 h2 => ?_⟩
  by_cases e : v = B
  · subst e; exact hs h2
  · exact h.cur v hA (by omega) hv h1 h2
/-- a node done: all its neighbours looked at, or it is not so far -/
theorem Lv.node {R : Int → Int → Bool} {N : Nat} {s : Int} {o : Nat → Int} {d A B : Nat} (h : Lv R N s o d A B) (hs : N ≤ B ∨ o A ≠ d) : Lv R N s o d (A + 1) 0 := by
  refine ⟨h.yes, h.no, fun a v ha haN hv h1 h2 => ?_, fun v _ hv => by omega⟩
  by_cases e : a = A
  · subst e
    rcases hs with hs | hs
    · exact h.cur v haN (by omega) hv h1 h2
    · exact absurd h1 hs
  · exact h.row a v (by omega) haN hv h1 h2
/-- a round done -/
theorem Lv.round {R : Int → Int → Bool} {N : Nat} {s : Int} {o : Nat → Int} {d : Nat} (h : Lv R N s o d N 0) (hR : ∀ x y, R x y = true → 0 ≤ x ∧ x < N) : Lv R N s o (d + 1) 0 0 := by
  refine ⟨fun v hv h0 => ?_, fun v hv h0 => ?_, fun a v ha => by omega, fun v _ hv => by omega⟩
  · have := h.yes v hv h0
    exact ⟨this.1, by omega⟩
  · obtain ⟨h1, h2⟩ := h.no v hv h0
    refine ⟨h1, fun k hk hw => ?_⟩
    by_cases e : k ≤ d
    · exact h2 k e hw
    · have e : k = d + 1 := by omega
      subst e
      obtain ⟨c, hc, hr⟩ := hw.unsnoc
      obtain ⟨c0, c1⟩ := hR _ _ hr
      obtain ⟨a, rfl⟩ : ∃ a : Nat, c = a := ⟨c.toNat, by omega⟩
      have haN : a < N := by omega
      by_cases ho : o a < 0
      · exact (h.no a haN ho).2 d (Nat.le_refl _) hc
      · rcases (h.yes a haN (by omega)).1 with ⟨e, h3, h4, h5⟩ | ⟨h3, _⟩
        · have hle : ¬ d < e := fun hl => h5 d hl hc
          by_cases hed : e = d
          · subst hed
            have := h.row a v haN haN hv h3 h0
            rw [this] at hr; cases hr
          · exact h2 (e + 1) (by omega) (h4.snoc hr)
        · omega
/-- all rounds done: so far all are -/
theorem Lv.all {R : Int → Int → Bool} {N : Nat} {s : Int} {o : Nat → Int} (h : Lv R N s o N 0 0) (hR : ∀ x y, R x y = true → 0 ≤ y ∧ y < N) (hs : 0 ≤ s ∧ s < N) (v : Nat) (hv : v < N) : o v = dst R s v := by
  refine (dst_eq ?_).symm
  by_cases e : o v < 0
  · obtain ⟨h1, h2⟩ := h.no v hv e
    refine .inr ⟨h1, fun k hw => ?_⟩
    obtain ⟨d, hd, h3, h4⟩ := least (p := fun k => Wk R k s v) hw
    have := near hR hs h3 h4
    exact h2 d (by omega) h3
  · exact (h.yes v hv (by omega)).1

end Go.Proofs.Ytgafpepmmjjaaaa
