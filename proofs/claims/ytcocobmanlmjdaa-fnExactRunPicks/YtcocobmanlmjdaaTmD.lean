/- laws.toTso once more: its rows may be marked (written by mkTmD.py) -/
import Derived.Test.YtcocobmanlmjdaaTmC
import Derived.Test.YtcocobmanlmjdaaTkM
namespace Go.Proofs.Ytcocobmanlmjdaa
open Go.RowKit
set_option linter.unusedVariables false
set_option linter.unusedSimpArgs false

/-- a row that may be written -/
def Srx (w : World) (v : Value) (n : Nat) (f : Nat → Nat → Int) : Prop := Sr w v 2 n f ∧ ∀ g off m cap, v = .slice (some ⟨g, off, none⟩) m cap → Wc w g (off + n * 2)
def Slx (w : World) (v : Value) (zs : List Int) : Prop := Sl w v zs ∧ ∀ g off m cap, v = .slice (some ⟨g, off, none⟩) m cap → Wc w g (off + zs.length)
theorem Srx.below {w w' : World} {v : Value} {n : Nat} {f : Nat → Nat → Int} (h : Srx w v n f) (hb : Below w.heap.size w w') : Srx w' v n f := ⟨h.1.below hb, fun g off m cap e => (h.2 g off m cap e).below hb⟩
theorem Slx.below {w w' : World} {v : Value} {zs : List Int} (h : Slx w v zs) (hb : Below w.heap.size w w') : Slx w' v zs := ⟨h.1.below hb, fun g off m cap e => (h.2 g off m cap e).below hb⟩
theorem Srx.set {w : World} {ib n cap B i : Nat} {f : Nat → Nat → Int} {x : Value} (h : Srx w (.slice (some ⟨ib, 0, none⟩) n cap) n f) (hne : B ≠ ib) : Srx (w.setCell ⟨B, i, none⟩ x) (.slice (some ⟨ib, 0, none⟩) n cap) n f := ⟨h.1.set hne, fun g off m cap e => (h.2 g off m cap e).set x⟩
theorem Slx.set {w : World} {ib n cap B i : Nat} {zs : List Int} {x : Value} (h : Slx w (.slice (some ⟨ib, 0, none⟩) n cap) zs) (hne : B ≠ ib) : Slx (w.setCell ⟨B, i, none⟩ x) (.slice (some ⟨ib, 0, none⟩) n cap) zs := ⟨h.1.set hne, fun g off m cap e => (h.2 g off m cap e).set x⟩
theorem wc_own {w : World} {base m n : Nat} {T : TypeId} {v : Value} {xs : List Value} (h : w.ownsRow base T m v n xs) (hm : 0 < m) : ∀ g off n' cap, v = .slice (some ⟨g, off, none⟩) n' cap → Wc w g (off + n * m) := fun g off n' cap e => by
  rcases h.2 with ⟨h', _⟩ | ⟨g', cap', cur, h', hb, hg, hnc, _, hcs, _⟩
  · rw [h'] at e; simp at e
  · rw [h'] at e
    simp only [Value.slice.injEq, Option.some.injEq, Addr.mk.injEq] at e
    obtain ⟨⟨rfl, rfl, _⟩, rfl, rfl⟩ := e
    refine ⟨cur, T, hg, ?_⟩
    rw [hcs, Nat.zero_add]
    exact Nat.mul_le_mul_right _ hnc
theorem Orow.srx {w : World} {base : Nat} {T : TypeId} {v : Value} {n : Nat} {f : Nat → Nat → Int} (h : Orow w base T 2 v n n f) : Srx w v n f := ⟨Orow.sr h, wc_own h (by decide)⟩
theorem Ow.slx {w : World} {base : Nat} {v : Value} {zs : List Int} (h : Ow w base v zs) : Slx w v zs := ⟨Ow.sl h, fun g off m cap e => by
  have := wc_own h (by decide) g off m cap e
  rw [Nat.mul_one] at this
  exact this⟩

/-- rows that are being laid: the outer block g, filled up to k; the inner ones behind it and ahead of E -/
def Osw (w : World) (g C k E : Nat) (L : Nat → Nat) (F : Nat → Nat → Nat → Int) : Prop :=
  ∃ cur : Array Value, w.heap[g]? = some (.cells cur 90 (0, 0)) ∧ cur.size = C ∧ ∀ c, c < k → ∃ ib, cur[c]? = some (.slice (some ⟨ib, 0, none⟩) (L c) (L c)) ∧ (g < ib ∧ ib < E) ∧ Srx w (.slice (some ⟨ib, 0, none⟩) (L c) (L c)) (L c) (F c)

theorem Osw.below {w w' : World} {g C k E : Nat} {L : Nat → Nat} {F : Nat → Nat → Nat → Int} (h : Osw w g C k E L F) (hb : Below w.heap.size w w') : Osw w' g C k E L F := by
  obtain ⟨cur, h1, h2, h3⟩ := h
  refine ⟨cur, (hb.block g (lt_of_block h1)).trans h1, h2, fun c hc => ?_⟩
  obtain ⟨ib, a, b, d⟩ := h3 c hc
  exact ⟨ib, a, b, d.below hb⟩

theorem Osw.mono {w : World} {g C k E E' : Nat} {L : Nat → Nat} {F : Nat → Nat → Nat → Int} (h : Osw w g C k E L F) (hE : E ≤ E') : Osw w g C k E' L F := by
  obtain ⟨cur, h1, h2, h3⟩ := h
  refine ⟨cur, h1, h2, fun c hc => ?_⟩
  obtain ⟨ib, a, b, d⟩ := h3 c hc
  exact ⟨ib, a, ⟨b.1, Nat.lt_of_lt_of_le b.2 hE⟩, d⟩

theorem Osw.put {w : World} {g C k ib E : Nat} {L : Nat → Nat} {F : Nat → Nat → Nat → Int} (h : Osw w g C k E L F) (hk : k < C) (hne : g < ib ∧ ib < E) (hi : Srx w (.slice (some ⟨ib, 0, none⟩) (L k) (L k)) (L k) (F k)) :
    Osw (w.setCell ⟨g, k, none⟩ (.slice (some ⟨ib, 0, none⟩) (L k) (L k))) g C (k + 1) E L F := by
  obtain ⟨cur, h1, h2, h3⟩ := h
  refine ⟨cur.setIfInBounds k (.slice (some ⟨ib, 0, none⟩) (L k) (L k)), heap_setCell_same w g k _ _ _ h1, by simpa using h2, fun c hc => ?_⟩
  by_cases e : c = k
  · subst e
    refine ⟨ib, ?_, hne, hi.set (Nat.ne_of_lt hne.1)⟩
    rw [Array.getElem?_setIfInBounds_self_of_lt (by omega)]
  · obtain ⟨jb, a, b, d⟩ := h3 c (by omega)
    refine ⟨jb, ?_, b, d.set (Nat.ne_of_lt b.1)⟩
    rw [Array.getElem?_setIfInBounds_ne (by omega)]
    exact a

theorem Osw.facts {w : World} {g C k j E : Nat} {L : Nat → Nat} {F : Nat → Nat → Nat → Int} (h : Osw w g C k E L F) (hj : j < C) : w.frozen? ⟨g, j, none⟩ = false ∧ ∃ o, w.cell? ⟨g, j, none⟩ = some o := by
  obtain ⟨cur, h1, h2, _⟩ := h
  refine ⟨frozen_of_row _ _ j _ _ h1, cur[j], ?_⟩
  rw [cell_of_row _ _ _ _ _ _ h1]
  exact Array.getElem?_eq_getElem (by omega)

theorem Osw.set {w : World} {g C k B i E : Nat} {L : Nat → Nat} {F : Nat → Nat → Nat → Int} {v : Value} (h : Osw w g C k E L F) (hlt : B < g) : Osw (w.setCell ⟨B, i, none⟩ v) g C k E L F := by
  obtain ⟨cur, h1, h2, h3⟩ := h
  refine ⟨cur, ?_, h2, fun c hc => ?_⟩
  · rw [heap_setCell_other _ _ _ _ (by first | omega | (simp; omega))]; exact h1
  · obtain ⟨ib, a, b, d⟩ := h3 c hc
    exact ⟨ib, a, b, d.set (by omega)⟩

/-- what they are -/
theorem Osw.rows {w : World} {g C E : Nat} {L : Nat → Nat} {F : Nat → Nat → Nat → Int} (h : Osw w g C C E L F) : ∃ vb : Nat → Value, Svs w (.slice (some ⟨g, 0, none⟩) C C) C vb ∧ Wc w g C ∧ ∀ c, c < C → ∃ ib, vb c = .slice (some ⟨ib, 0, none⟩) (L c) (L c) ∧ (g < ib ∧ ib < E) ∧ Srx w (vb c) (L c) (F c) := by
  obtain ⟨cur, h1, h2, h3⟩ := h
  refine ⟨fun c => (cur[c]?).getD undef, ⟨some ⟨g, 0, none⟩, C, rfl, fun _ => ⟨g, 0, rfl, fun c hc => ?_⟩⟩, ⟨cur, _, h1, by omega⟩, fun c hc => ?_⟩
  · obtain ⟨ib, a, _, d⟩ := h3 c hc
    rw [cell_of_row _ _ _ _ _ _ h1, Nat.zero_add]
    show cur[c]? = some ((cur[c]?).getD undef)
    rw [a]
    rfl
  · obtain ⟨ib, a, b, d⟩ := h3 c hc
    have e : (cur[c]?).getD undef = .slice (some ⟨ib, 0, none⟩) (L c) (L c) := by rw [a]; rfl
    exact ⟨ib, e, b, by dsimp only; rw [e]; exact d⟩

theorem Osw_start {w1 : World} {base g n E : Nat} {xs : List Value} {L : Nat → Nat} {F : Nat → Nat → Nat → Int} (h : w1.ownsRow base 90 1 (.slice (some ⟨g, 0, none⟩) n n) n xs) : Osw w1 g n 0 E L F := by
  rcases h.2 with ⟨h', _⟩ | ⟨g', cap', cur, h', _, hg, _, _, hcs, _⟩
  · simp at h'
  · simp only [Value.slice.injEq, Option.some.injEq, Addr.mk.injEq, and_true, true_and] at h'
    obtain ⟨rfl, rfl⟩ := h'
    exact ⟨cur, hg, by omega, fun c hc => by omega⟩

/-- rows that are being laid: the outer block g, filled up to k; the inner ones behind it and ahead of E -/
def Oiw (w : World) (g C k E : Nat) (Z : Nat → List Int) : Prop :=
  ∃ cur : Array Value, w.heap[g]? = some (.cells cur 33 (0, 0)) ∧ cur.size = C ∧ ∀ c, c < k → ∃ ib, cur[c]? = some (.slice (some ⟨ib, 0, none⟩) ((Z c).length) ((Z c).length)) ∧ (g < ib ∧ ib < E) ∧ Slx w (.slice (some ⟨ib, 0, none⟩) ((Z c).length) ((Z c).length)) (Z c)

theorem Oiw.below {w w' : World} {g C k E : Nat} {Z : Nat → List Int} (h : Oiw w g C k E Z) (hb : Below w.heap.size w w') : Oiw w' g C k E Z := by
  obtain ⟨cur, h1, h2, h3⟩ := h
  refine ⟨cur, (hb.block g (lt_of_block h1)).trans h1, h2, fun c hc => ?_⟩
  obtain ⟨ib, a, b, d⟩ := h3 c hc
  exact ⟨ib, a, b, d.below hb⟩

theorem Oiw.mono {w : World} {g C k E E' : Nat} {Z : Nat → List Int} (h : Oiw w g C k E Z) (hE : E ≤ E') : Oiw w g C k E' Z := by
  obtain ⟨cur, h1, h2, h3⟩ := h
  refine ⟨cur, h1, h2, fun c hc => ?_⟩
  obtain ⟨ib, a, b, d⟩ := h3 c hc
  exact ⟨ib, a, ⟨b.1, Nat.lt_of_lt_of_le b.2 hE⟩, d⟩

theorem Oiw.put {w : World} {g C k ib E : Nat} {Z : Nat → List Int} (h : Oiw w g C k E Z) (hk : k < C) (hne : g < ib ∧ ib < E) (hi : Slx w (.slice (some ⟨ib, 0, none⟩) ((Z k).length) ((Z k).length)) (Z k)) :
    Oiw (w.setCell ⟨g, k, none⟩ (.slice (some ⟨ib, 0, none⟩) ((Z k).length) ((Z k).length))) g C (k + 1) E Z := by
  obtain ⟨cur, h1, h2, h3⟩ := h
  refine ⟨cur.setIfInBounds k (.slice (some ⟨ib, 0, none⟩) ((Z k).length) ((Z k).length)), heap_setCell_same w g k _ _ _ h1, by simpa using h2, fun c hc => ?_⟩
  by_cases e : c = k
  · subst e
    refine ⟨ib, ?_, hne, hi.set (Nat.ne_of_lt hne.1)⟩
    rw [Array.getElem?_setIfInBounds_self_of_lt (by omega)]
  · obtain ⟨jb, a, b, d⟩ := h3 c (by omega)
    refine ⟨jb, ?_, b, d.set (Nat.ne_of_lt b.1)⟩
    rw [Array.getElem?_setIfInBounds_ne (by omega)]
    exact a

theorem Oiw.facts {w : World} {g C k j E : Nat} {Z : Nat → List Int} (h : Oiw w g C k E Z) (hj : j < C) : w.frozen? ⟨g, j, none⟩ = false ∧ ∃ o, w.cell? ⟨g, j, none⟩ = some o := by
  obtain ⟨cur, h1, h2, _⟩ := h
  refine ⟨frozen_of_row _ _ j _ _ h1, cur[j], ?_⟩
  rw [cell_of_row _ _ _ _ _ _ h1]
  exact Array.getElem?_eq_getElem (by omega)

theorem Oiw.set {w : World} {g C k B i E : Nat} {Z : Nat → List Int} {v : Value} (h : Oiw w g C k E Z) (hlt : B < g) : Oiw (w.setCell ⟨B, i, none⟩ v) g C k E Z := by
  obtain ⟨cur, h1, h2, h3⟩ := h
  refine ⟨cur, ?_, h2, fun c hc => ?_⟩
  · rw [heap_setCell_other _ _ _ _ (by first | omega | (simp; omega))]; exact h1
  · obtain ⟨ib, a, b, d⟩ := h3 c hc
    exact ⟨ib, a, b, d.set (by omega)⟩

/-- what they are -/
theorem Oiw.rows {w : World} {g C E : Nat} {Z : Nat → List Int} (h : Oiw w g C C E Z) : ∃ vb : Nat → Value, Svs w (.slice (some ⟨g, 0, none⟩) C C) C vb ∧ Wc w g C ∧ ∀ c, c < C → ∃ ib, vb c = .slice (some ⟨ib, 0, none⟩) ((Z c).length) ((Z c).length) ∧ (g < ib ∧ ib < E) ∧ Slx w (vb c) (Z c) := by
  obtain ⟨cur, h1, h2, h3⟩ := h
  refine ⟨fun c => (cur[c]?).getD undef, ⟨some ⟨g, 0, none⟩, C, rfl, fun _ => ⟨g, 0, rfl, fun c hc => ?_⟩⟩, ⟨cur, _, h1, by omega⟩, fun c hc => ?_⟩
  · obtain ⟨ib, a, _, d⟩ := h3 c hc
    rw [cell_of_row _ _ _ _ _ _ h1, Nat.zero_add]
    show cur[c]? = some ((cur[c]?).getD undef)
    rw [a]
    rfl
  · obtain ⟨ib, a, b, d⟩ := h3 c hc
    have e : (cur[c]?).getD undef = .slice (some ⟨ib, 0, none⟩) ((Z c).length) ((Z c).length) := by rw [a]; rfl
    exact ⟨ib, e, b, by dsimp only; rw [e]; exact d⟩

theorem Oiw_start {w1 : World} {base g n E : Nat} {xs : List Value} {Z : Nat → List Int} (h : w1.ownsRow base 33 1 (.slice (some ⟨g, 0, none⟩) n n) n xs) : Oiw w1 g n 0 E Z := by
  rcases h.2 with ⟨h', _⟩ | ⟨g', cap', cur, h', _, hg, _, _, hcs, _⟩
  · simp at h'
  · simp only [Value.slice.injEq, Option.some.injEq, Addr.mk.injEq, and_true, true_and] at h'
    obtain ⟨rfl, rfl⟩ := h'
    exact ⟨cur, hg, by omega, fun c hc => by omega⟩

end Go.Proofs.Ytcocobmanlmjdaa
