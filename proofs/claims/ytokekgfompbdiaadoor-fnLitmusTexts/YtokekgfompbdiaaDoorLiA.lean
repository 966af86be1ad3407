/- rows of rows of acts: read ('Sa'), copied, compared (written by mkLi.py) -/
import Derived.Test.YtokekgfompbdiaaDoorLiR
import Derived.Deep.RegionHeld3
namespace Go.Proofs.YtokekgfompbdiaaDoor
open Go.RowKit
set_option linter.unusedVariables false
set_option linter.unusedSimpArgs false

/-- rows of acts: C of them, the c-th of L c acts, F c -/
def Sa (w : World) (v : Value) (C : Nat) (L : Nat → Nat) (F : Nat → Nat → Nat → Int) : Prop :=
  ∃ ad cap, v = .slice ad C cap ∧ (0 < C → ∃ b off, ad = some ⟨b, off, none⟩ ∧ ∀ c, c < C → ∃ ia ic, w.cell? ⟨b, off + c, none⟩ = some (.slice ia (L c) ic) ∧ Sr w (.slice ia (L c) ic) 5 (L c) (F c))

theorem Sa.below {w w' : World} {v : Value} {C : Nat} {L : Nat → Nat} {F : Nat → Nat → Nat → Int} (h : Sa w v C L F) (hb : Below w.heap.size w w') : Sa w' v C L F := by
  obtain ⟨ad, cap, rfl, h⟩ := h
  refine ⟨ad, cap, rfl, fun hp => ?_⟩
  obtain ⟨b, off, rfl, hc⟩ := h hp
  refine ⟨b, off, rfl, fun c hcc => ?_⟩
  obtain ⟨ia, ic, h1, h2⟩ := hc c hcc
  exact ⟨ia, ic, Below.keep hb _ _ h1, h2.below hb⟩

/-- rows that are being laid: the outer block g, filled up to k -/
def Oas (w : World) (g C k : Nat) (L : Nat → Nat) (F : Nat → Nat → Nat → Int) : Prop :=
  ∃ cur : Array Value, w.heap[g]? = some (.cells cur 34 (0, 0)) ∧ cur.size = C ∧ ∀ c, c < k → ∃ ib, cur[c]? = some (.slice (some ⟨ib, 0, none⟩) (L c) (L c)) ∧ g < ib ∧ Sr w (.slice (some ⟨ib, 0, none⟩) (L c) (L c)) 5 (L c) (F c)

theorem Oas.below {w w' : World} {g C k : Nat} {L : Nat → Nat} {F : Nat → Nat → Nat → Int} (h : Oas w g C k L F) (hb : Below w.heap.size w w') : Oas w' g C k L F := by
  obtain ⟨cur, h1, h2, h3⟩ := h
  refine ⟨cur, (hb.block g (lt_of_block h1)).trans h1, h2, fun c hc => ?_⟩
  obtain ⟨ib, a, b, d⟩ := h3 c hc
  exact ⟨ib, a, b, d.below hb⟩

theorem Oas.put {w : World} {g C k ib : Nat} {L : Nat → Nat} {F : Nat → Nat → Nat → Int} (h : Oas w g C k L F) (hk : k < C) (hne : g < ib) (hi : Sr w (.slice (some ⟨ib, 0, none⟩) (L k) (L k)) 5 (L k) (F k)) :
    Oas (w.setCell ⟨g, k, none⟩ (.slice (some ⟨ib, 0, none⟩) (L k) (L k))) g C (k + 1) L F := by
  obtain ⟨cur, h1, h2, h3⟩ := h
  refine ⟨cur.setIfInBounds k (.slice (some ⟨ib, 0, none⟩) (L k) (L k)), heap_setCell_same w g k _ _ _ h1, by simpa using h2, fun c hc => ?_⟩
  by_cases e : c = k
  · subst e
    refine ⟨ib, ?_, hne, hi.set (Nat.ne_of_lt hne)⟩
    rw [Array.getElem?_setIfInBounds_self_of_lt (by omega)]
  · obtain ⟨jb, a, b, d⟩ := h3 c (by omega)
    refine ⟨jb, ?_, b, d.set (Nat.ne_of_lt b)⟩
    rw [Array.getElem?_setIfInBounds_ne (by omega)]
    exact a

theorem Oas.facts {w : World} {g C k j : Nat} {L : Nat → Nat} {F : Nat → Nat → Nat → Int} (h : Oas w g C k L F) (hj : j < C) : w.frozen? ⟨g, j, none⟩ = false ∧ ∃ o, w.cell? ⟨g, j, none⟩ = some o := by
  obtain ⟨cur, h1, h2, _⟩ := h
  refine ⟨frozen_of_row _ _ j _ _ h1, cur[j], ?_⟩
  rw [cell_of_row _ _ _ _ _ _ h1]
  exact Array.getElem?_eq_getElem (by omega)

theorem Oas.ss {w : World} {g C : Nat} {L : Nat → Nat} {F : Nat → Nat → Nat → Int} (h : Oas w g C C L F) : Sa w (.slice (some ⟨g, 0, none⟩) C C) C L F := by
  obtain ⟨cur, h1, h2, h3⟩ := h
  refine ⟨some ⟨g, 0, none⟩, C, rfl, fun _ => ⟨g, 0, rfl, fun c hc => ?_⟩⟩
  obtain ⟨ib, a, _, d⟩ := h3 c hc
  refine ⟨_, _, ?_, d⟩
  rw [cell_of_row _ _ _ _ _ _ h1, Nat.zero_add]
  exact a

theorem infoActs : (Tryd.prog.info? 34).map (fun i => (i.zero, i.size, i.bytes)) = some (some (.slice none 0 0), 1, 24) := by kernel_rfl

theorem oas_start {w1 : World} {base g n : Nat} {xs : List Value} {L : Nat → Nat} {F : Nat → Nat → Nat → Int} (h : w1.ownsRow base 34 1 (.slice (some ⟨g, 0, none⟩) n n) n xs) : Oas w1 g n 0 L F := by
  rcases h.2 with ⟨h', _⟩ | ⟨g', cap', cur, h', _, hg, _, _, hcs, _⟩
  · simp at h'
  · simp only [Value.slice.injEq, Option.some.injEq, Addr.mk.injEq, and_true, true_and] at h'
    obtain ⟨rfl, rfl⟩ := h'
    exact ⟨cur, hg, by omega, fun c hc => by omega⟩

end Go.Proofs.YtokekgfompbdiaaDoor
