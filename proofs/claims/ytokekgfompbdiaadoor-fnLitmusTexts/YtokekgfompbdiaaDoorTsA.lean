/- slices of slices of stores: read ('Ss'), copied, compared -/
import Derived.Test.YtokekgfompbdiaaDoorRwStore
import Derived.Deep.RegionHeld3
namespace Go.Proofs.YtokekgfompbdiaaDoor
open Go.RowKit
set_option linter.unusedVariables false
set_option linter.unusedSimpArgs false

theorem Sr.set {w : World} {g m n cap B i : Nat} {f : Nat → Nat → Int} {v : Value} (h : Sr w (.slice (some ⟨g, 0, none⟩) n cap) m n f) (hne : B ≠ g) : Sr (w.setCell ⟨B, i, none⟩ v) (.slice (some ⟨g, 0, none⟩) n cap) m n f := by
  obtain ⟨ad, c, e, h⟩ := h
  refine ⟨ad, c, e, fun hp => ?_⟩
  obtain ⟨b, off, rfl, hc⟩ := h hp
  simp only [Value.slice.injEq, Option.some.injEq, Addr.mk.injEq] at e
  obtain ⟨⟨rfl, rfl, _⟩, _, _⟩ := e
  exact ⟨g, 0, rfl, fun j hj k hk => by rw [World.cell?_setCell_far _ _ _ _ hne]; exact hc j hj k hk⟩
theorem Ow.block {w : World} {base : Nat} {g n cap : Nat} {zs : List Int} (h : Ow w base (.slice (some ⟨g, 0, none⟩) n cap) zs) : base ≤ g ∧ g < w.heap.size := World.ownsRow.lt h g rfl
theorem Orow.block {w : World} {base : Nat} {T : TypeId} {m g n cap k l : Nat} {f : Nat → Nat → Int} (h : Orow w base T m (.slice (some ⟨g, 0, none⟩) l cap) n k f) : base ≤ g ∧ g < w.heap.size := World.ownsRow.lt h g rfl

/-- rows of stores: C of them, the c-th of L c stores, F c -/
def Ss (w : World) (v : Value) (C : Nat) (L : Nat → Nat) (F : Nat → Nat → Nat → Int) : Prop :=
  ∃ ad cap, v = .slice ad C cap ∧ (0 < C → ∃ b off, ad = some ⟨b, off, none⟩ ∧ ∀ c, c < C → ∃ ia ic, w.cell? ⟨b, off + c, none⟩ = some (.slice ia (L c) ic) ∧ Sr w (.slice ia (L c) ic) 2 (L c) (F c))

theorem Ss.below {w w' : World} {v : Value} {C : Nat} {L : Nat → Nat} {F : Nat → Nat → Nat → Int} (h : Ss w v C L F) (hb : Below w.heap.size w w') : Ss w' v C L F := by
  obtain ⟨ad, cap, rfl, h⟩ := h
  refine ⟨ad, cap, rfl, fun hp => ?_⟩
  obtain ⟨b, off, rfl, hc⟩ := h hp
  refine ⟨b, off, rfl, fun c hcc => ?_⟩
  obtain ⟨ia, ic, h1, h2⟩ := hc c hcc
  exact ⟨ia, ic, Below.keep hb _ _ h1, h2.below hb⟩

/-- rows that are being laid: the outer block g, filled up to k -/
def Oss (w : World) (g C k : Nat) (L : Nat → Nat) (F : Nat → Nat → Nat → Int) : Prop :=
  ∃ cur : Array Value, w.heap[g]? = some (.cells cur 106 (0, 0)) ∧ cur.size = C ∧ ∀ c, c < k → ∃ ib, cur[c]? = some (.slice (some ⟨ib, 0, none⟩) (L c) (L c)) ∧ g < ib ∧ Sr w (.slice (some ⟨ib, 0, none⟩) (L c) (L c)) 2 (L c) (F c)

theorem Oss.below {w w' : World} {g C k : Nat} {L : Nat → Nat} {F : Nat → Nat → Nat → Int} (h : Oss w g C k L F) (hb : Below w.heap.size w w') : Oss w' g C k L F := by
  obtain ⟨cur, h1, h2, h3⟩ := h
  refine ⟨cur, (hb.block g (lt_of_block h1)).trans h1, h2, fun c hc => ?_⟩
  obtain ⟨ib, a, b, d⟩ := h3 c hc
  exact ⟨ib, a, b, d.below hb⟩

theorem Oss.put {w : World} {g C k ib : Nat} {L : Nat → Nat} {F : Nat → Nat → Nat → Int} (h : Oss w g C k L F) (hk : k < C) (hne : g < ib) (hi : Sr w (.slice (some ⟨ib, 0, none⟩) (L k) (L k)) 2 (L k) (F k)) :
    Oss (w.setCell ⟨g, k, none⟩ (.slice (some ⟨ib, 0, none⟩) (L k) (L k))) g C (k + 1) L F := by
  obtain ⟨cur, h1, h2, h3⟩ := h
  refine ⟨cur.setIfInBounds k (.slice (some ⟨ib, 0, none⟩) (L k) (L k)), heap_setCell_same w g k _ _ _ h1, by simpa using h2, fun c hc => ?_⟩
  by_cases e : c = k
  · subst e
    refine ⟨ib, ?_, hne, hi.set (Nat.ne_of_lt hne)⟩
    rw [Array.getElem?_setIfInBounds_self_of_lt (by omega)]
  · obtain ⟨jb, a, b, d⟩ := h3 c (by omega)
    refine ⟨jb, ?_, b, d.set (Nat.ne_of_lt b)⟩
    rw [Array.getElem?_setIfInBounds_ne (by omega)]
    exact a

theorem Oss.facts {w : World} {g C k j : Nat} {L : Nat → Nat} {F : Nat → Nat → Nat → Int} (h : Oss w g C k L F) (hj : j < C) : w.frozen? ⟨g, j, none⟩ = false ∧ ∃ o, w.cell? ⟨g, j, none⟩ = some o := by
  obtain ⟨cur, h1, h2, _⟩ := h
  refine ⟨frozen_of_row _ _ j _ _ h1, cur[j], ?_⟩
  rw [cell_of_row _ _ _ _ _ _ h1]
  exact Array.getElem?_eq_getElem (by omega)

theorem Oss.ss {w : World} {g C : Nat} {L : Nat → Nat} {F : Nat → Nat → Nat → Int} (h : Oss w g C C L F) : Ss w (.slice (some ⟨g, 0, none⟩) C C) C L F := by
  obtain ⟨cur, h1, h2, h3⟩ := h
  refine ⟨some ⟨g, 0, none⟩, C, rfl, fun _ => ⟨g, 0, rfl, fun c hc => ?_⟩⟩
  obtain ⟨ib, a, _, d⟩ := h3 c hc
  refine ⟨_, _, ?_, d⟩
  rw [cell_of_row _ _ _ _ _ _ h1, Nat.zero_add]
  exact a

theorem infoStores : (Tryd.prog.info? 106).map (fun i => (i.zero, i.size, i.bytes)) = some (some (.slice none 0 0), 1, 24) := by kernel_rfl

theorem oss_start {w1 : World} {base g n : Nat} {xs : List Value} {L : Nat → Nat} {F : Nat → Nat → Nat → Int} (h : w1.ownsRow base 106 1 (.slice (some ⟨g, 0, none⟩) n n) n xs) : Oss w1 g n 0 L F := by
  rcases h.2 with ⟨h', _⟩ | ⟨g', cap', cur, h', _, hg, _, _, hcs, _⟩
  · simp at h'
  · simp only [Value.slice.injEq, Option.some.injEq, Addr.mk.injEq, and_true, true_and] at h'
    obtain ⟨rfl, rfl⟩ := h'
    exact ⟨cur, hg, by omega, fun c hc => by omega⟩

theorem keepS2 {w W W' : World} {p0 p1 : Addr} {x0 x1 : Value} (h : Below w.heap.size w W ∧ W.cell? p0 = some x0 ∧ W.cell? p1 = some x1) (hb : Below W.heap.size W W') :
    Below w.heap.size w W' ∧ W'.cell? p0 = some x0 ∧ W'.cell? p1 = some x1 := ⟨h.1.trans (hb.mono h.1.size), keepc hb h.2.1, keepc hb h.2.2⟩

end Go.Proofs.YtokekgfompbdiaaDoor
