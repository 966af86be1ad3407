/- copies that may be written (written by mkMkC.py) -/
import Derived.Test.YtelknolcneiikaaDoorMkB
namespace Go.Proofs.YtelknolcneiikaaDoor
open Go.RowKit
set_option linter.unusedVariables false
set_option linter.unusedSimpArgs false

/-- every slice that lies in the block g may be written: m i cells an element -/
def UA (m : Nat → Nat) (w : World) (g : Nat) : Prop := ∀ i ib l cp, w.cell? ⟨g, i, none⟩ = some (.slice (some ⟨ib, 0, none⟩) l cp) → Wc w ib (l * m i)
theorem UA.below {m : Nat → Nat} {w w' : World} {g : Nat} (h : UA m w g) (hg : g < w.heap.size) (hb : Below w.heap.size w w') : UA m w' g := by
  intro i ib l cp hc
  refine (h i ib l cp ?_).below hb
  have e := hb.block g hg
  simp only [World.cell?] at hc ⊢
  rw [← e]; exact hc
theorem UA.put {m : Nat → Nat} {w : World} {g k len : Nat} {v : Value} (h : UA m w g) (hw : Wc w g len) (hk : k < len) (hv : ∀ ib l cp, v = .slice (some ⟨ib, 0, none⟩) l cp → Wc w ib (l * m k)) : UA m (w.setCell ⟨g, k, none⟩ v) g := by
  intro i ib l cp hc
  by_cases e : k = i
  · subst e
    obtain ⟨u, hu⟩ := hw.facts.2 k hk
    rw [World.cell?_setCell_same (h := hu)] at hc
    exact (hv ib l cp (by simpa using hc)).set v
  · rw [far_set e] at hc
    exact (h i ib l cp hc).set v
theorem ua_start {m : Nat → Nat} {w1 : World} {base g n sz : Nat} {T : TypeId} {z : Array Value} (hz0 : 0 < z.size) (hz : ∀ (x ib l cp : Nat), x < z.size → z[x]! ≠ Value.slice (some ⟨ib, 0, none⟩) l cp) (h : w1.ownsRow base T sz (.slice (some ⟨g, 0, none⟩) n n) n (madeCells z (n * sz)).toList) : UA m w1 g ∧ Wc w1 g (n * sz) := by
  obtain ⟨h0, h⟩ := h
  rcases h with ⟨h', _⟩ | ⟨g', cap', cur, h', _, hg, _, _, hcs, ht⟩
  · simp at h'
  · simp only [Value.slice.injEq, Option.some.injEq, Addr.mk.injEq, and_true, true_and] at h'
    obtain ⟨rfl, rfl⟩ := h'
    refine ⟨?_, cur, T, hg, by omega⟩
    intro i ib l cp hc
    exfalso
    rw [cell_of_row _ _ _ _ _ _ hg] at hc
    have e : cur.toList = (madeCells z (n * sz)).toList := by rw [← ht, List.take_of_length_le (by simp; omega)]
    have e2 : cur[i]? = (madeCells z (n * sz))[i]? := by rw [← Array.getElem?_toList, e, Array.getElem?_toList]
    rw [e2] at hc
    simp only [madeCells, Array.getElem?_map] at hc
    cases hr : (Array.range (n * sz))[i]? with
    | none => rw [hr] at hc; simp at hc
    | some x => rw [hr] at hc; simp only [Option.map_some, Option.some.injEq] at hc; exact hz _ _ _ _ (Nat.mod_lt _ hz0) hc
theorem Orow.wc {w : World} {base : Nat} {T : TypeId} {m g n k : Nat} {f : Nat → Nat → Int} (h : Orow w base T m (.slice (some ⟨g, 0, none⟩) n n) n k f) : Wc w g (n * m) := by
  rcases h.2 with ⟨h', _⟩ | ⟨g', cap', cur, h', _, hg, _, _, hcs, ht⟩
  · simp at h'
  · simp only [Value.slice.injEq, Option.some.injEq, Addr.mk.injEq, and_true, true_and] at h'
    obtain ⟨rfl, rfl⟩ := h'
    exact ⟨cur, T, hg, by omega⟩
theorem Ow.wc {w : World} {base g n : Nat} {zs : List Int} (h : Ow w base (.slice (some ⟨g, 0, none⟩) n n) zs) : Wc w g n := by
  rcases h.2 with ⟨h', _⟩ | ⟨g', cap', cur, h', _, hg, _, _, hcs, ht⟩
  · simp at h'
  · simp only [Value.slice.injEq, Option.some.injEq, Addr.mk.injEq, and_true] at h'
    obtain ⟨rfl, h2, rfl⟩ := h'
    exact ⟨cur, _, hg, by omega⟩
theorem Chg.of_below {w w' : World} (hb : Below w.heap.size w w') : Chg (fun _ => False) w w' := ⟨hb.os, hb.tape, hb.output, hb.size, fun j hj _ => hb.block j hj, fun _ _ h => h.below hb⟩
theorem Chg.put (w : World) (B i : Nat) (v : Value) : Chg (· = B) w (w.setCell ⟨B, i, none⟩ v) := (Chg.refl (fun j => j = B) w).set rfl v
theorem MLs.grow {w : World} {g E E' N : Nat} {Z Q : Nat → Nat} (h : MLs w g E N Z Q) (hE : E ≤ E') : MLs w g E' N Z Q :=
  ⟨h.1, fun c hc => by
    obtain ⟨⟨sb, a, b, d⟩, qb, a', b', d'⟩ := h.2 c hc
    exact ⟨⟨sb, a, ⟨b.1, by omega⟩, d⟩, qb, a', ⟨b'.1, by omega⟩, d'⟩⟩
theorem Oss.mss {w : World} {g C : Nat} {L : Nat → Nat} {F : Nat → Nat → Nat → Int} (h : Oss w g C C L F) (hu : UA (fun _ => 4) w g) : MSs w g w.heap.size C L := by
  obtain ⟨cur, h1, h2, h3⟩ := h
  intro c hc
  obtain ⟨ib, a, b, d⟩ := h3 c hc
  have e : w.cell? ⟨g, c, none⟩ = some (.slice (some ⟨ib, 0, none⟩) (L c) (L c)) := by rw [cell_of_row _ _ _ _ _ _ h1]; exact a
  have hw := hu c ib _ _ e
  exact ⟨ib, e, ⟨b, hw.lt⟩, hw⟩
def mLn (i : Nat) : Nat := if i % 7 = 6 then 2 else 1
theorem mLn2 (c : Nat) : mLn (c * 7 + 2) = 1 := by unfold mLn; rw [if_neg (by omega)]
theorem mLn6 (c : Nat) : mLn (c * 7 + 6) = 2 := by unfold mLn; rw [if_pos (by omega)]
theorem Ols.mls {w : World} {g n : Nat} {G : Nat → LnD} (h : Ols w g n n G) (hu : UA mLn w g) : MLs w g w.heap.size n (fun c => (G c).zs.length) (fun c => (G c).qn) := by
  obtain ⟨cur, h1, h2, h3⟩ := h
  refine ⟨⟨cur, _, h1, by omega⟩, fun c hc => ?_⟩
  obtain ⟨sg, qg, a, b, ⟨d0, d1, d2, d3, d4, d5, d6⟩, _, _⟩ := h3 c hc
  have e2 : w.cell? ⟨g, c * 7 + 2, none⟩ = some (.slice (some ⟨sg, 0, none⟩) (G c).zs.length (G c).zs.length) := by rw [cell_of_row _ _ _ _ _ _ h1]; exact d2
  have e6 : w.cell? ⟨g, c * 7 + 6, none⟩ = some (.slice (some ⟨qg, 0, none⟩) (G c).qn (G c).qn) := by rw [cell_of_row _ _ _ _ _ _ h1]; exact d6
  have w2 := hu _ _ _ _ e2
  have w6 := hu _ _ _ _ e6
  rw [mLn2, Nat.mul_one] at w2
  rw [mLn6] at w6
  exact ⟨⟨sg, e2, ⟨a, w2.lt⟩, w2⟩, qg, e6, ⟨b, w6.lt⟩, w6⟩

end Go.Proofs.YtelknolcneiikaaDoor
