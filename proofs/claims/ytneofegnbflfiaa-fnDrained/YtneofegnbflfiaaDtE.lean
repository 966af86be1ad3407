/- a Tso in its variable; what the drawn laws of the buffers say, plainly -/
import Derived.Test.YtneofegnbflfiaaDtD
namespace Go.Proofs.Ytneofegnbflfiaa
open Go.RowKit
set_option linter.unusedVariables false
set_option linter.unusedSimpArgs false

/-- a Tso in a variable of its own -/
structure Bq (V : World) (B : Nat) (m b r : Value) (d : Td) (C : Nat) : Prop where
  box : V.heap[B]? = some (.cells #[m, b, r] 28 (0, 0))
  tv : Tv V m b r d.zs C d.L d.F C d.Z
theorem Bq.below {V V' : World} {B : Nat} {m b r : Value} {d : Td} {C : Nat} (h : Bq V B m b r d C) (hb : Below V.heap.size V V') : Bq V' B m b r d C := ⟨heap_b h.box hb, h.tv.below hb⟩
theorem Bq.new {V : World} {m b r : Value} {d : Td} {C : Nat} (h : Tv V m b r d.zs C d.L d.F C d.Z) : Bq (V.alloc (.cells #[m, b, r] 28)) V.heap.size m b r d C ∧ Below V.heap.size V (V.alloc (.cells #[m, b, r] 28)) :=
  have hA : Below V.heap.size V (V.alloc (.cells #[m, b, r] 28)) := (Below.refl _ _).alloc (Nat.le_refl _) _
  ⟨⟨heap_alloc_new _ _, h.below hA⟩, hA⟩
theorem Bq.new2 {V : World} {m b r : Value} {d : Td} {C : Nat} (k co va vl rg : Int) (h : Tv V m b r d.zs C d.L d.F C d.Z) : Bq ((V.alloc (.cells #[m, b, r] 28)).alloc (.cells (five k co va vl rg) 37)) V.heap.size m b r d C ∧ Below V.heap.size V ((V.alloc (.cells #[m, b, r] 28)).alloc (.cells (five k co va vl rg) 37)) ∧ ((V.alloc (.cells #[m, b, r] 28)).alloc (.cells (five k co va vl rg) 37)).heap[V.heap.size + 1]? = some (.cells (five k co va vl rg) 37 (0, 0)) :=
  have hA := boxes2 V m b r k co va vl rg 28 37
  ⟨⟨hA.2.1, h.below hA.1⟩, hA.1, hA.2.2⟩

theorem seB_true {d : Td} {C : Nat} {c v : Int} (h : seB d.zs C d.L d.F C d.Z c v = true) : tokD d C = true ∧ (0 ≤ c ∧ c < C) ∧ 0 ≤ v ∧ v < 3 := by
  unfold seB at h
  simp only [Bool.and_eq_true, inB, decide_eq_true_eq] at h
  exact ⟨h.1.1, h.1.2, h.2⟩
theorem seB_of {d : Td} {C : Nat} {c v : Nat} (h : tokD d C = true) (hc : c < C) (hv : v < 3) : seB d.zs C d.L d.F C d.Z c v = true ∧ seV d.zs C d.L d.F C d.Z c v = sn d.zs (d.F c) v (d.L c) := by
  have e : seB d.zs C d.L d.F C d.Z c v = true := by
    unfold seB
    simp only [Bool.and_eq_true, inB, decide_eq_true_eq]
    exact ⟨⟨h, by omega⟩, by omega⟩
  exact ⟨e, by unfold seV; rw [if_pos e]; simp⟩
theorem seV_true {d : Td} {C : Nat} {c v : Nat} (h : seB d.zs C d.L d.F C d.Z c v = true) : seV d.zs C d.L d.F C d.Z c v = sn d.zs (d.F c) v (d.L c) := by
  unfold seV; rw [if_pos h]; simp

theorem sn_congr {zs : List Int} {f g : Nat → Nat → Int} {v k : Nat} (h : ∀ j, j < k → f j = g j) : sn zs f v k = sn zs g v k := by
  induction k with
  | zero => rfl
  | succ k ih => rw [sn, sn, h k (by omega), ih (fun j hj => h j (by omega))]
theorem sn_snoc (zs : List Int) (f : Nat → Nat → Int) (v n : Nat) (va vl : Int) : sn zs (snocF f n va vl) v (n + 1) = if (v : Int) = va then vl else sn zs f v n := by
  rw [sn]
  have e0 : snocF f n va vl n 0 = va := by rw [snocF, upd_at, if_pos rfl]
  have e1 : snocF f n va vl n 1 = vl := by rw [snocF, upd_at, if_neg (by decide)]
  rw [e0, e1, sn_congr (g := f) (fun j hj => by rw [snocF, upd_ne (by omega)])]
  by_cases q : va = (v : Int)
  · rw [if_pos q, if_pos q.symm]
  · rw [if_neg q, if_neg (fun e => q e.symm)]
theorem getD_set {zs : List Int} {i v : Nat} {x : Int} (hi : i < zs.length) : (zs.set i x).getD v 0 = if v = i then x else zs.getD v 0 := by
  by_cases q : v = i
  · subst q
    rw [if_pos rfl, List.getD_eq_getElem?_getD, List.getElem?_set_self hi]; rfl
  · rw [if_neg q, List.getD_eq_getElem?_getD, List.getElem?_set_ne (fun e => q e.symm), List.getD_eq_getElem?_getD]
theorem sn_drain (zs : List Int) (f : Nat → Nat → Int) (v : Nat) (h0 : 0 ≤ f 0 0) (h1 : f 0 0 < zs.length) : ∀ n, sn (zs.set (f 0 0).toNat (f 0 1)) (fun j => f (j + 1)) v n = sn zs f v (n + 1)
  | 0 => by
    show (zs.set (f 0 0).toNat (f 0 1)).getD v 0 = if f 0 0 = (v : Int) then f 0 1 else zs.getD v 0
    rw [getD_set (by omega)]
    by_cases q : v = (f 0 0).toNat
    · rw [if_pos q, if_pos (by omega)]
    · rw [if_neg q, if_neg (by omega)]
  | n + 1 => by
    rw [sn, sn_drain zs f v h0 h1 n]
    exact (sn.eq_2 zs f v (n + 1)).symm

theorem okc_form {d : Td} {C : Nat} {k co va vl rg : Int} (h : okc d C k co va vl rg = 0) : fmB C k co va vl rg = true := by
  cases hf : fmB C k co va vl rg
  · rw [(ok_form hf).1] at h
    exact absurd h (by decide)
  · rfl
theorem nxt_ref {d : Td} {C : Nat} {k co va vl rg : Int} (h : ¬ okc d C k co va vl rg = 0) : nxt d C k co va vl rg = d := by unfold nxt; rw [if_pos h]
theorem okc_one {d : Td} {C : Nat} {k co va vl rg : Int} : okc d C k co va vl rg ≠ 1 := by
  unfold okc
  repeat' split
  all_goals decide
theorem own_says {d : Td} {C : Nat} {co va vl rg : Int} (h : okc d C 1 co va vl rg = 0) (c v : Nat) : sn (nxt d C 1 co va vl rg).zs ((nxt d C 1 co va vl rg).F c) v ((nxt d C 1 co va vl rg).L c) = if (c : Int) = co ∧ (v : Int) = va then vl else sn d.zs (d.F c) v (d.L c) := by
  have hf := okc_form h
  have hc := fm_core hf
  obtain ⟨x, rfl⟩ : ∃ x : Nat, co = x := ⟨co.toNat, by omega⟩
  have q := ok1 (d := d) hf
  simp only [Int.toNat_natCast] at q
  by_cases h4 : 4 ≤ d.L x
  · rw [(q.1 h4).1] at h; exact absurd h (by decide)
  rw [(q.2 h4).2]
  show sn d.zs (upd d.F x (snocF (d.F x) (d.L x) va vl) c) v (upd d.L x (d.L x + 1) c) = _
  by_cases e : c = x
  · subst e
    rw [upd_at, upd_at, sn_snoc]
    by_cases e2 : (v : Int) = va
    · rw [if_pos e2, if_pos ⟨rfl, e2⟩]
    · rw [if_neg e2, if_neg (fun q => e2 q.2)]
  · rw [upd_ne e, upd_ne e, if_neg (fun q => e (by omega))]
theorem fifo_says {d : Td} {C : Nat} {co : Int} (ht : tokD d C = true) (h : okc d C 4 co 0 0 0 = 0) : ∃ x : Nat, co = x ∧ x < C ∧ 0 < d.L x ∧ (∃ s : Nat, d.F x 0 0 = s ∧ s < 3 ∧ (nxt d C 4 co 0 0 0).zs.getD s 0 = d.F x 0 1 ∧ ∀ v : Nat, v ≠ s → (nxt d C 4 co 0 0 0).zs.getD v 0 = d.zs.getD v 0) ∧ (∀ v, sn (nxt d C 4 co 0 0 0).zs ((nxt d C 4 co 0 0 0).F x) v ((nxt d C 4 co 0 0 0).L x) = sn d.zs (d.F x) v (d.L x)) ∧ (nxt d C 4 co 0 0 0).L x = d.L x - 1 := by
  have hf := okc_form h
  have hc := fm_core hf
  obtain ⟨x, rfl⟩ : ∃ x : Nat, co = x := ⟨co.toNat, by omega⟩
  have hx : x < C := by omega
  obtain ⟨_, _, h3, _, h5⟩ := tok_parts ht
  have q := ok4 (d := d) hf
  simp only [Int.toNat_natCast] at q
  by_cases h4 : d.L x = 0
  · rw [(q.1 h4).1] at h; exact absurd h (by decide)
  have hp : 0 < d.L x := by omega
  rw [(q.2 hp).2]
  have hs := ((h5 x hx).2.1 0 hp).1
  obtain ⟨s, hse⟩ : ∃ s : Nat, d.F x 0 0 = s := ⟨(d.F x 0 0).toNat, by omega⟩
  refine ⟨x, rfl, hx, hp, ⟨s, hse, by omega, ?_, fun v hv => ?_⟩, fun v => ?_, upd_at _ _ _⟩
  · show (d.zs.set (d.F x 0 0).toNat (d.F x 0 1)).getD s 0 = _
    rw [getD_set (by omega), if_pos (by omega)]
  · show (d.zs.set (d.F x 0 0).toNat (d.F x 0 1)).getD v 0 = _
    rw [getD_set (by omega), if_neg (by omega)]
  · show sn (d.zs.set (d.F x 0 0).toNat (d.F x 0 1)) (upd d.F x (fun j => d.F x (j + 1)) x) v (upd d.L x (d.L x - 1) x) = _
    rw [upd_at, upd_at, sn_drain _ _ _ hs.1 (by omega)]
    congr 1
    omega
theorem okc_kind {d : Td} {C : Nat} {k co va vl rg : Int} (h : okc d C k co va vl rg = 0) : k = 1 ∨ k = 2 ∨ k = 3 ∨ k = 4 := by
  by_cases h1 : k = 1
  · exact .inl h1
  by_cases h2 : k = 2
  · exact .inr (.inl h2)
  by_cases h3 : k = 3
  · exact .inr (.inr (.inl h3))
  exact .inr (.inr (.inr (fm_four (okc_form h) h1 h2 h3)))
theorem nxt_mem {d : Td} {C : Nat} {k co va vl rg : Int} (h : k ≠ 4) : (nxt d C k co va vl rg).zs = d.zs := by
  by_cases h0 : okc d C k co va vl rg = 0
  · have hf := okc_form h0
    rcases okc_kind h0 with rfl | rfl | rfl | rfl
    · have q := ok1 (d := d) hf
      by_cases h4 : 4 ≤ d.L co.toNat
      · rw [(q.1 h4).2]
      · rw [(q.2 h4).2]
    · rw [(ok2 (d := d) hf).1.2]
    · rw [(ok3 (d := d) hf).2]
    · exact absurd rfl h
  · rw [nxt_ref h0]
theorem nxt_regs {d : Td} {C : Nat} {k co va vl rg : Int} (h : okc d C k co va vl rg = 0) (h2 : k ≠ 2) : (nxt d C k co va vl rg).Z = d.Z := by
  have hf := okc_form h
  rcases okc_kind h with rfl | rfl | rfl | rfl
  · have q := ok1 (d := d) hf
    by_cases h4 : 4 ≤ d.L co.toNat
    · rw [(q.1 h4).2]
    · rw [(q.2 h4).2]
  · exact absurd rfl h2
  · rw [(ok3 (d := d) hf).2]
  · have q := ok4 (d := d) hf
    by_cases h4 : d.L co.toNat = 0
    · rw [(q.1 h4).2]
    · rw [(q.2 (by omega)).2]
theorem loads_says {d : Td} {C : Nat} {k co va vl rg : Int} (ht : tokD d C = true) (h : okc d C k co va vl rg = 0) (i j : Nat) (hi : i < C) (hj : j < 2) : (k = 2 → (0 ≤ co ∧ co < C) ∧ 0 ≤ va ∧ va < 3) ∧ ((nxt d C k co va vl rg).Z i).getD j 0 = if k = 2 ∧ (i : Int) = co ∧ (j : Int) = rg then sn d.zs (d.F co.toNat) va.toNat (d.L co.toNat) else (d.Z i).getD j 0 := by
  have hf := okc_form h
  have hc := fm_core hf
  by_cases h2 : k = 2
  · subst h2
    obtain ⟨⟨_, q⟩, hva, hrg⟩ := ok2 (d := d) hf
    refine ⟨fun _ => ⟨hc, hva⟩, ?_⟩
    rw [q]
    obtain ⟨x, rfl⟩ : ∃ x : Nat, co = x := ⟨co.toNat, by omega⟩
    obtain ⟨y, rfl⟩ : ∃ y : Nat, rg = y := ⟨rg.toNat, by omega⟩
    simp only [Int.toNat_natCast]
    obtain ⟨_, _, _, _, h5⟩ := tok_parts ht
    have hl := (h5 x (by omega)).2.2.1
    by_cases e : i = x
    · subst e
      rw [upd_at, getD_set (by omega)]
      by_cases e2 : j = y
      · rw [if_pos e2, if_pos ⟨trivial, rfl, by omega⟩]
      · rw [if_neg e2, if_neg (fun q => e2 (by omega))]
    · rw [upd_ne e, if_neg (fun q => e (by omega))]
  · exact ⟨fun e => absurd e h2, by rw [nxt_regs h h2, if_neg (fun q => h2 q.1)]⟩

theorem dnN_other {d : Td} {c n : Nat} : (dnN d c n).Z = d.Z ∧ ∀ c', c' ≠ c → (dnN d c n).L c' = d.L c' := by
  induction n with
  | zero => exact ⟨rfl, fun c' _ => rfl⟩
  | succ n ih =>
    refine ⟨ih.1, fun c' hc' => ?_⟩
    show upd (dnN d c n).L c _ c' = _
    rw [upd_ne hc']
    exact ih.2 c' hc'
theorem dal_other {d : Td} {k : Nat} : (dal d k).Z = d.Z ∧ ∀ c, c < k → (dal d k).L c = 0 := by
  induction k with
  | zero => exact ⟨rfl, fun c hc => absurd hc (by omega)⟩
  | succ k ih =>
    refine ⟨(dnN_other (d := dal d k) (c := k)).1.trans ih.1, fun c hc => ?_⟩
    by_cases e : c = k
    · subst e
      show (dnN (dal d c) c ((dal d c).L c)).L c = 0
      rw [dnN_L]; omega
    · show (dnN (dal d k) k ((dal d k).L k)).L c = 0
      rw [(dnN_other (d := dal d k) (c := k)).2 c e]
      exact ih.2 c (by omega)
theorem dal_again {d : Td} {k : Nat} (h : ∀ c, c < k → d.L c = 0) : dal d k = d := by
  induction k with
  | zero => rfl
  | succ k ih =>
    have e := ih (fun c hc => h c (by omega))
    show dnN (dal d k) k ((dal d k).L k) = d
    rw [e, h k (by omega)]; rfl

theorem act_yes {d : Td} {C : Nat} {k co va vl rg : Int} (h : tokD d C = true) : aK d C C k co va vl rg = okc d C k co va vl rg ∧ aD d C C k co va vl rg = nxt d C k co va vl rg ∧ aC d C C = C := by
  have h' : tokB d.zs C d.L d.F C d.Z = true := h
  exact ⟨by unfold aK; rw [if_pos h'], by unfold aD; rw [if_pos h'], by unfold aC; rw [if_pos h']⟩
theorem act_no {d : Td} {C : Nat} {k co va vl rg : Int} (h : tokD d C = false) : aK d C C k co va vl rg = 1 := by
  have h' : ¬ tokB d.zs C d.L d.F C d.Z = true := by intro e; rw [show tokB d.zs C d.L d.F C d.Z = false from h] at e; exact absurd e (by decide)
  unfold aK; rw [if_neg h']
theorem zero_says {d : Td} {C : Nat} {k co va vl rg : Int} (h : aK d C C k co va vl rg = 0) : tokD d C = true ∧ okc d C k co va vl rg = 0 ∧ aD d C C k co va vl rg = nxt d C k co va vl rg ∧ aC d C C = C := by
  cases hx : tokD d C
  · rw [act_no hx] at h; exact absurd h (by decide)
  · obtain ⟨a, b, c⟩ := act_yes (k := k) (co := co) (va := va) (vl := vl) (rg := rg) hx
    exact ⟨rfl, a.symm.trans h, b, c⟩
theorem fence_says (d : Td) (C : Nat) (co : Int) : aK d C C 3 co 0 0 0 = 1 ∨ aK d C C 3 co 0 0 0 = 2 ∨ (aD d C C 3 co 0 0 0 = d ∧ aC d C C = C ∧ tokD d C = true ∧ ∃ c : Nat, co = c ∧ c < C ∧ ((aK d C C 3 co 0 0 0 = 4 ∧ 0 < d.L c) ∨ (aK d C C 3 co 0 0 0 = 0 ∧ d.L c = 0))) := by
  cases hx : tokD d C
  · exact .inl (act_no hx)
  · obtain ⟨a, b, e⟩ := act_yes (k := 3) (co := co) (va := 0) (vl := 0) (rg := 0) hx
    rw [a, b, e]
    cases hf : fmB C 3 co 0 0 0
    · exact .inr (.inl (ok_form hf).1)
    · have hc := fm_core hf
      obtain ⟨c, rfl⟩ : ∃ c : Nat, co = c := ⟨co.toNat, by omega⟩
      obtain ⟨q1, q2⟩ := ok3 (d := d) hf
      simp only [Int.toNat_natCast] at q1
      refine .inr (.inr ⟨q2, rfl, rfl, c, rfl, by omega, ?_⟩)
      rw [q1]
      by_cases hp : 0 < d.L c
      · exact .inl ⟨if_pos hp, hp⟩
      · exact .inr ⟨if_neg hp, by omega⟩
theorem done_says (d : Td) (C : Nat) (k co va vl rg : Int) : (aK d C C k co va vl rg = 1 ∧ tokD d C = false) ∨ (tokD d C = true ∧ aC d C C = C ∧ ((aK d C C k co va vl rg ≠ 0 ∧ aK d C C k co va vl rg ≠ 1 ∧ aD d C C k co va vl rg = d) ∨ (aK d C C k co va vl rg = 0 ∧ tokD (aD d C C k co va vl rg) C = true ∧ (k = 4 ∨ (k ≠ 4 ∧ (aD d C C k co va vl rg).zs = d.zs))))) := by
  cases hx : tokD d C
  · exact .inl ⟨act_no hx, rfl⟩
  · obtain ⟨a, b, e⟩ := act_yes (k := k) (co := co) (va := va) (vl := vl) (rg := rg) hx
    rw [a, b, e]
    refine .inr ⟨rfl, rfl, ?_⟩
    by_cases h0 : okc d C k co va vl rg = 0
    · refine .inr ⟨h0, nxt_tok hx, ?_⟩
      by_cases h4 : k = 4
      · exact .inl h4
      · exact .inr ⟨h4, nxt_mem h4⟩
    · exact .inl ⟨h0, okc_one, nxt_ref h0⟩

/-- what a law's loops keep: the Tso, the answer, the act, each in its variable -/
def Lw (w : World) (B1 B2 : Nat) (m b r m2 b2 r2 : Value) (d D : Td) (C : Nat) (a : Array Value) (wr : World) : Prop := Bq wr B1 m b r d C ∧ Bq wr B2 m2 b2 r2 D C ∧ wr.heap[B1 + 1]? = some (.cells a 37 (0, 0)) ∧ Below w.heap.size w wr
theorem Lw.below {w : World} {B1 B2 : Nat} {m b r m2 b2 r2 : Value} {d D : Td} {C : Nat} {a : Array Value} {wr wr' : World} (h : Lw w B1 B2 m b r m2 b2 r2 d D C a wr) (hb : Below wr.heap.size wr wr') : Lw w B1 B2 m b r m2 b2 r2 d D C a wr' :=
  ⟨h.1.below hb, h.2.1.below hb, heap_b h.2.2.1 hb, h.2.2.2.trans (hb.mono h.2.2.2.size)⟩
theorem Tv.regAt {w : World} {mv bv rv : Value} {zs : List Int} {C : Nat} {L : Nat → Nat} {F : Nat → Nat → Nat → Int} {R : Nat} {Z : Nat → List Int} (h : Tv w mv bv rv zs C L F R Z) {c : Nat} (hc : c < R) (hp : 0 < (Z c).length) :
    ∃ rb ro rc p o ic, rv = .slice (some ⟨rb, ro, none⟩) R rc ∧ w.cell? ⟨rb, ro + c, none⟩ = some (.slice (some ⟨p, o, none⟩) (Z c).length ic) ∧ ∀ j, j < (Z c).length → w.cell? ⟨p, o + j, none⟩ = some (.int .i64 ((Z c).getD j 0)) := by
  obtain ⟨_, _, ⟨ra, rc, rfl, h1⟩⟩ := h
  obtain ⟨rb, ro, rfl, h2⟩ := h1 (by omega)
  obtain ⟨ia, ic, h3, ad, cap, e, h4⟩ := h2 c hc
  obtain ⟨rfl, rfl⟩ : ia = ad ∧ ic = cap := by simp at e; exact e
  obtain ⟨p, o, rfl, h5⟩ := h4 hp
  exact ⟨rb, ro, rc, p, o, ic, rfl, h3, h5⟩
theorem Tv.bufAt2 {w : World} {mv bv rv : Value} {zs : List Int} {C : Nat} {L : Nat → Nat} {F : Nat → Nat → Nat → Int} {R : Nat} {Z : Nat → List Int} (h : Tv w mv bv rv zs C L F R Z) {c : Nat} (hc : c < C) :
    ∃ bb bo bc ia ic, bv = .slice (some ⟨bb, bo, none⟩) C bc ∧ w.cell? ⟨bb, bo + c, none⟩ = some (.slice ia (L c) ic) ∧ Sr w (.slice ia (L c) ic) 2 (L c) (F c) := by
  obtain ⟨_, ⟨ba, bc, rfl, h1⟩, _⟩ := h
  obtain ⟨bb, bo, rfl, h3⟩ := h1 (by omega)
  obtain ⟨ia, ic, q, r⟩ := h3 c hc
  exact ⟨bb, bo, bc, ia, ic, rfl, q, r⟩
theorem Tv.memAt {w : World} {mv bv rv : Value} {zs : List Int} {C : Nat} {L : Nat → Nat} {F : Nat → Nat → Nat → Int} {R : Nat} {Z : Nat → List Int} (h : Tv w mv bv rv zs C L F R Z) (hp : 0 < zs.length) :
    ∃ mb mo mc, mv = .slice (some ⟨mb, mo, none⟩) zs.length mc ∧ ∀ v, v < zs.length → w.cell? ⟨mb, mo + v, none⟩ = some (.int .i64 (zs.getD v 0)) := by
  obtain ⟨⟨ma, mc, rfl, h0⟩, _, _⟩ := h
  obtain ⟨mb, mo, rfl, h2⟩ := h0 hp
  exact ⟨mb, mo, mc, rfl, h2⟩

end Go.Proofs.Ytneofegnbflfiaa
