/- slices of lines: read ('Ls'), copied, compared (written by mkMsB.py) -/
import Derived.Test.YtelknolcneiikaaDoorLqE
import Derived.Deep.RegionHeld3
namespace Go.Proofs.YtelknolcneiikaaDoor
open Go.RowKit
set_option linter.unusedVariables false
set_option linter.unusedSimpArgs false

/-- what a line reads as -/
structure LnD where
  mem : Int
  ow : Int
  zs : List Int
  bu : Int
  wt : Int
  ac : Int
  qn : Nat
  f : Nat → Nat → Int

/-- a line that lies in seven cells -/
def LnAt (w : World) (b o : Nat) (l : LnD) : Prop :=
  ∃ sa sc qa qc, (w.cell? ⟨b, o, none⟩ = some (.int .i64 l.mem) ∧ w.cell? ⟨b, o + 1, none⟩ = some (.int .i64 l.ow) ∧ w.cell? ⟨b, o + 2, none⟩ = some (.slice sa l.zs.length sc) ∧ w.cell? ⟨b, o + 3, none⟩ = some (.int .i64 l.bu) ∧ w.cell? ⟨b, o + 4, none⟩ = some (.int .i64 l.wt) ∧ w.cell? ⟨b, o + 5, none⟩ = some (.int .i64 l.ac) ∧ w.cell? ⟨b, o + 6, none⟩ = some (.slice qa l.qn qc)) ∧ Sl w (.slice sa l.zs.length sc) l.zs ∧ Sr w (.slice qa l.qn qc) 2 l.qn l.f
theorem LnAt.below {w w' : World} {b o : Nat} {l : LnD} (h : LnAt w b o l) (hb : Below w.heap.size w w') : LnAt w' b o l := by
  obtain ⟨sa, sc, qa, qc, ⟨h0, h1, h2, h3, h4, h5, h6⟩, hs, hq⟩ := h
  exact ⟨sa, sc, qa, qc, ⟨keepc hb h0, keepc hb h1, keepc hb h2, keepc hb h3, keepc hb h4, keepc hb h5, keepc hb h6⟩, hs.below hb, hq.below hb⟩

def Ls (w : World) (v : Value) (n : Nat) (G : Nat → LnD) : Prop :=
  ∃ ad cap, v = .slice ad n cap ∧ (0 < n → ∃ b off, ad = some ⟨b, off, none⟩ ∧ ∀ j, j < n → LnAt w b (off + j * 7) (G j))
theorem Ls.below {w w' : World} {v : Value} {n : Nat} {G : Nat → LnD} (h : Ls w v n G) (hb : Below w.heap.size w w') : Ls w' v n G := by
  obtain ⟨ad, cap, rfl, h⟩ := h
  refine ⟨ad, cap, rfl, fun hp => ?_⟩
  obtain ⟨b, off, rfl, hc⟩ := h hp
  exact ⟨b, off, rfl, fun j hj => (hc j hj).below hb⟩

/-- lines that are being laid: the block g, filled up to k -/
def Ols (w : World) (g n k : Nat) (G : Nat → LnD) : Prop :=
  ∃ cur : Array Value, w.heap[g]? = some (.cells cur 51 (0, 0)) ∧ cur.size = n * 7 ∧ ∀ c, c < k → ∃ sg qg, g < sg ∧ g < qg ∧ (cur[c * 7]? = some (.int .i64 (G c).mem) ∧ cur[c * 7 + 1]? = some (.int .i64 (G c).ow) ∧ cur[c * 7 + 2]? = some (.slice (some ⟨sg, 0, none⟩) (G c).zs.length (G c).zs.length) ∧ cur[c * 7 + 3]? = some (.int .i64 (G c).bu) ∧ cur[c * 7 + 4]? = some (.int .i64 (G c).wt) ∧ cur[c * 7 + 5]? = some (.int .i64 (G c).ac) ∧ cur[c * 7 + 6]? = some (.slice (some ⟨qg, 0, none⟩) (G c).qn (G c).qn)) ∧
    Sl w (.slice (some ⟨sg, 0, none⟩) (G c).zs.length (G c).zs.length) (G c).zs ∧ Sr w (.slice (some ⟨qg, 0, none⟩) (G c).qn (G c).qn) 2 (G c).qn (G c).f
theorem Ols.below {w w' : World} {g n k : Nat} {G : Nat → LnD} (h : Ols w g n k G) (hb : Below w.heap.size w w') : Ols w' g n k G := by
  obtain ⟨cur, h1, h2, h3⟩ := h
  refine ⟨cur, (hb.block g (lt_of_block h1)).trans h1, h2, fun c hc => ?_⟩
  obtain ⟨sg, qg, a, b, d, e, f⟩ := h3 c hc
  exact ⟨sg, qg, a, b, d, e.below hb, f.below hb⟩

theorem Ols.put {w : World} {g n k sg qg : Nat} {G : Nat → LnD} (h : Ols w g n k G) (hk : k < n) (h8 : g < sg) (h9 : g < qg)
    (hs : Sl w (.slice (some ⟨sg, 0, none⟩) (G k).zs.length (G k).zs.length) (G k).zs) (hq : Sr w (.slice (some ⟨qg, 0, none⟩) (G k).qn (G k).qn) 2 (G k).qn (G k).f) :
    Ols (((((((w.setCell ⟨g, k * 7, none⟩ (.int .i64 (G k).mem)).setCell ⟨g, k * 7 + 1, none⟩ (.int .i64 (G k).ow)).setCell ⟨g, k * 7 + 2, none⟩ (.slice (some ⟨sg, 0, none⟩) (G k).zs.length (G k).zs.length)).setCell ⟨g, k * 7 + 3, none⟩ (.int .i64 (G k).bu)).setCell ⟨g, k * 7 + 4, none⟩ (.int .i64 (G k).wt)).setCell ⟨g, k * 7 + 5, none⟩ (.int .i64 (G k).ac)).setCell ⟨g, k * 7 + 6, none⟩ (.slice (some ⟨qg, 0, none⟩) (G k).qn (G k).qn)) g n (k + 1) G := by
  obtain ⟨cur, h1, h2, h3⟩ := h
  refine ⟨(((((((cur.setIfInBounds (k * 7) (.int .i64 (G k).mem)).setIfInBounds (k * 7 + 1) (.int .i64 (G k).ow)).setIfInBounds (k * 7 + 2) (.slice (some ⟨sg, 0, none⟩) (G k).zs.length (G k).zs.length)).setIfInBounds (k * 7 + 3) (.int .i64 (G k).bu)).setIfInBounds (k * 7 + 4) (.int .i64 (G k).wt)).setIfInBounds (k * 7 + 5) (.int .i64 (G k).ac)).setIfInBounds (k * 7 + 6) (.slice (some ⟨qg, 0, none⟩) (G k).qn (G k).qn)), (heap_setCell_same _ g (k * 7 + 6) _ _ _ (heap_setCell_same _ g (k * 7 + 5) _ _ _ (heap_setCell_same _ g (k * 7 + 4) _ _ _ (heap_setCell_same _ g (k * 7 + 3) _ _ _ (heap_setCell_same _ g (k * 7 + 2) _ _ _ (heap_setCell_same _ g (k * 7 + 1) _ _ _ (heap_setCell_same _ g (k * 7) _ _ _ h1))))))), by simpa using h2, fun c hc => ?_⟩
  by_cases e : c = k
  · subst e
    refine ⟨sg, qg, h8, h9, ⟨?_, ?_, ?_, ?_, ?_, ?_, ?_⟩, (((((((hs.set (Nat.ne_of_lt h8)).set (Nat.ne_of_lt h8)).set (Nat.ne_of_lt h8)).set (Nat.ne_of_lt h8)).set (Nat.ne_of_lt h8)).set (Nat.ne_of_lt h8)).set (Nat.ne_of_lt h8)), (((((((hq.set (Nat.ne_of_lt h9)).set (Nat.ne_of_lt h9)).set (Nat.ne_of_lt h9)).set (Nat.ne_of_lt h9)).set (Nat.ne_of_lt h9)).set (Nat.ne_of_lt h9)).set (Nat.ne_of_lt h9))⟩
    · rw [Array.getElem?_setIfInBounds_ne (by omega), Array.getElem?_setIfInBounds_ne (by omega), Array.getElem?_setIfInBounds_ne (by omega), Array.getElem?_setIfInBounds_ne (by omega), Array.getElem?_setIfInBounds_ne (by omega), Array.getElem?_setIfInBounds_ne (by omega), Array.getElem?_setIfInBounds_self_of_lt (by (try simp only [Array.size_setIfInBounds]); omega)]
    · rw [Array.getElem?_setIfInBounds_ne (by omega), Array.getElem?_setIfInBounds_ne (by omega), Array.getElem?_setIfInBounds_ne (by omega), Array.getElem?_setIfInBounds_ne (by omega), Array.getElem?_setIfInBounds_ne (by omega), Array.getElem?_setIfInBounds_self_of_lt (by (try simp only [Array.size_setIfInBounds]); omega)]
    · rw [Array.getElem?_setIfInBounds_ne (by omega), Array.getElem?_setIfInBounds_ne (by omega), Array.getElem?_setIfInBounds_ne (by omega), Array.getElem?_setIfInBounds_ne (by omega), Array.getElem?_setIfInBounds_self_of_lt (by (try simp only [Array.size_setIfInBounds]); omega)]
    · rw [Array.getElem?_setIfInBounds_ne (by omega), Array.getElem?_setIfInBounds_ne (by omega), Array.getElem?_setIfInBounds_ne (by omega), Array.getElem?_setIfInBounds_self_of_lt (by (try simp only [Array.size_setIfInBounds]); omega)]
    · rw [Array.getElem?_setIfInBounds_ne (by omega), Array.getElem?_setIfInBounds_ne (by omega), Array.getElem?_setIfInBounds_self_of_lt (by (try simp only [Array.size_setIfInBounds]); omega)]
    · rw [Array.getElem?_setIfInBounds_ne (by omega), Array.getElem?_setIfInBounds_self_of_lt (by (try simp only [Array.size_setIfInBounds]); omega)]
    · rw [Array.getElem?_setIfInBounds_self_of_lt (by (try simp only [Array.size_setIfInBounds]); omega)]
  · obtain ⟨sg', qg', a, b, ⟨d0, d1, d2, d3, d4, d5, d6⟩, e1, f1⟩ := h3 c (by omega)
    refine ⟨sg', qg', a, b, ⟨?_, ?_, ?_, ?_, ?_, ?_, ?_⟩, (((((((e1.set (Nat.ne_of_lt a)).set (Nat.ne_of_lt a)).set (Nat.ne_of_lt a)).set (Nat.ne_of_lt a)).set (Nat.ne_of_lt a)).set (Nat.ne_of_lt a)).set (Nat.ne_of_lt a)), (((((((f1.set (Nat.ne_of_lt b)).set (Nat.ne_of_lt b)).set (Nat.ne_of_lt b)).set (Nat.ne_of_lt b)).set (Nat.ne_of_lt b)).set (Nat.ne_of_lt b)).set (Nat.ne_of_lt b))⟩
    · rw [Array.getElem?_setIfInBounds_ne (by omega), Array.getElem?_setIfInBounds_ne (by omega), Array.getElem?_setIfInBounds_ne (by omega), Array.getElem?_setIfInBounds_ne (by omega), Array.getElem?_setIfInBounds_ne (by omega), Array.getElem?_setIfInBounds_ne (by omega), Array.getElem?_setIfInBounds_ne (by omega)]; exact d0
    · rw [Array.getElem?_setIfInBounds_ne (by omega), Array.getElem?_setIfInBounds_ne (by omega), Array.getElem?_setIfInBounds_ne (by omega), Array.getElem?_setIfInBounds_ne (by omega), Array.getElem?_setIfInBounds_ne (by omega), Array.getElem?_setIfInBounds_ne (by omega), Array.getElem?_setIfInBounds_ne (by omega)]; exact d1
    · rw [Array.getElem?_setIfInBounds_ne (by omega), Array.getElem?_setIfInBounds_ne (by omega), Array.getElem?_setIfInBounds_ne (by omega), Array.getElem?_setIfInBounds_ne (by omega), Array.getElem?_setIfInBounds_ne (by omega), Array.getElem?_setIfInBounds_ne (by omega), Array.getElem?_setIfInBounds_ne (by omega)]; exact d2
    · rw [Array.getElem?_setIfInBounds_ne (by omega), Array.getElem?_setIfInBounds_ne (by omega), Array.getElem?_setIfInBounds_ne (by omega), Array.getElem?_setIfInBounds_ne (by omega), Array.getElem?_setIfInBounds_ne (by omega), Array.getElem?_setIfInBounds_ne (by omega), Array.getElem?_setIfInBounds_ne (by omega)]; exact d3
    · rw [Array.getElem?_setIfInBounds_ne (by omega), Array.getElem?_setIfInBounds_ne (by omega), Array.getElem?_setIfInBounds_ne (by omega), Array.getElem?_setIfInBounds_ne (by omega), Array.getElem?_setIfInBounds_ne (by omega), Array.getElem?_setIfInBounds_ne (by omega), Array.getElem?_setIfInBounds_ne (by omega)]; exact d4
    · rw [Array.getElem?_setIfInBounds_ne (by omega), Array.getElem?_setIfInBounds_ne (by omega), Array.getElem?_setIfInBounds_ne (by omega), Array.getElem?_setIfInBounds_ne (by omega), Array.getElem?_setIfInBounds_ne (by omega), Array.getElem?_setIfInBounds_ne (by omega), Array.getElem?_setIfInBounds_ne (by omega)]; exact d5
    · rw [Array.getElem?_setIfInBounds_ne (by omega), Array.getElem?_setIfInBounds_ne (by omega), Array.getElem?_setIfInBounds_ne (by omega), Array.getElem?_setIfInBounds_ne (by omega), Array.getElem?_setIfInBounds_ne (by omega), Array.getElem?_setIfInBounds_ne (by omega), Array.getElem?_setIfInBounds_ne (by omega)]; exact d6

theorem Ols.facts {w : World} {g n k j : Nat} {G : Nat → LnD} (h : Ols w g n k G) (hj : j < n) : (∀ i, w.frozen? ⟨g, i, none⟩ = false) ∧ (∃ o, w.cell? ⟨g, j * 7, none⟩ = some o) ∧ (∃ o, w.cell? ⟨g, j * 7 + 1, none⟩ = some o) ∧ (∃ o, w.cell? ⟨g, j * 7 + 2, none⟩ = some o) ∧ (∃ o, w.cell? ⟨g, j * 7 + 3, none⟩ = some o) ∧ (∃ o, w.cell? ⟨g, j * 7 + 4, none⟩ = some o) ∧ (∃ o, w.cell? ⟨g, j * 7 + 5, none⟩ = some o) ∧ (∃ o, w.cell? ⟨g, j * 7 + 6, none⟩ = some o) := by
  obtain ⟨cur, h1, h2, _⟩ := h
  refine ⟨fun i => frozen_of_row _ _ i _ _ h1, ?_, ?_, ?_, ?_, ?_, ?_, ?_⟩
  · exact ⟨cur[j * 7], by rw [cell_of_row _ _ _ _ _ _ h1]; exact Array.getElem?_eq_getElem (by omega)⟩
  · exact ⟨cur[j * 7 + 1], by rw [cell_of_row _ _ _ _ _ _ h1]; exact Array.getElem?_eq_getElem (by omega)⟩
  · exact ⟨cur[j * 7 + 2], by rw [cell_of_row _ _ _ _ _ _ h1]; exact Array.getElem?_eq_getElem (by omega)⟩
  · exact ⟨cur[j * 7 + 3], by rw [cell_of_row _ _ _ _ _ _ h1]; exact Array.getElem?_eq_getElem (by omega)⟩
  · exact ⟨cur[j * 7 + 4], by rw [cell_of_row _ _ _ _ _ _ h1]; exact Array.getElem?_eq_getElem (by omega)⟩
  · exact ⟨cur[j * 7 + 5], by rw [cell_of_row _ _ _ _ _ _ h1]; exact Array.getElem?_eq_getElem (by omega)⟩
  · exact ⟨cur[j * 7 + 6], by rw [cell_of_row _ _ _ _ _ _ h1]; exact Array.getElem?_eq_getElem (by omega)⟩

theorem Ols.ls {w : World} {g n : Nat} {G : Nat → LnD} (h : Ols w g n n G) : Ls w (.slice (some ⟨g, 0, none⟩) n n) n G := by
  obtain ⟨cur, h1, h2, h3⟩ := h
  refine ⟨some ⟨g, 0, none⟩, n, rfl, fun _ => ⟨g, 0, rfl, fun c hc => ?_⟩⟩
  obtain ⟨sg, qg, _, _, ⟨d0, d1, d2, d3, d4, d5, d6⟩, e, f⟩ := h3 c hc
  refine ⟨_, _, _, _, ⟨?_, ?_, ?_, ?_, ?_, ?_, ?_⟩, e, f⟩
  · rw [cell_of_row _ _ _ _ _ _ h1, Nat.zero_add]; exact d0
  · rw [cell_of_row _ _ _ _ _ _ h1, Nat.zero_add]; exact d1
  · rw [cell_of_row _ _ _ _ _ _ h1, Nat.zero_add]; exact d2
  · rw [cell_of_row _ _ _ _ _ _ h1, Nat.zero_add]; exact d3
  · rw [cell_of_row _ _ _ _ _ _ h1, Nat.zero_add]; exact d4
  · rw [cell_of_row _ _ _ _ _ _ h1, Nat.zero_add]; exact d5
  · rw [cell_of_row _ _ _ _ _ _ h1, Nat.zero_add]; exact d6

theorem infoLine : (Tryd.prog.info? 51).map (fun i => (i.zero, i.size, i.bytes)) = some (some (.agg zln), 7, 88) := by kernel_rfl
theorem ols_start {w1 : World} {base g n : Nat} {xs : List Value} {G : Nat → LnD} (h : w1.ownsRow base 51 7 (.slice (some ⟨g, 0, none⟩) n n) n xs) : Ols w1 g n 0 G := by
  rcases h.2 with ⟨h', _⟩ | ⟨g', cap', cur, h', _, hg, _, _, hcs, _⟩
  · simp at h'
  · simp only [Value.slice.injEq, Option.some.injEq, Addr.mk.injEq, and_true, true_and] at h'
    obtain ⟨rfl, rfl⟩ := h'
    exact ⟨cur, hg, by omega, fun c hc => by omega⟩

theorem keepL14 {w W W' : World} {p0 p1 p2 p3 p4 p5 p6 p7 p8 p9 p10 p11 p12 p13 : Addr} {x0 x1 x2 x3 x4 x5 x6 x7 x8 x9 x10 x11 x12 x13 : Value} (h : Below w.heap.size w W ∧ W.cell? p0 = some x0 ∧ W.cell? p1 = some x1 ∧ W.cell? p2 = some x2 ∧ W.cell? p3 = some x3 ∧ W.cell? p4 = some x4 ∧ W.cell? p5 = some x5 ∧ W.cell? p6 = some x6 ∧ W.cell? p7 = some x7 ∧ W.cell? p8 = some x8 ∧ W.cell? p9 = some x9 ∧ W.cell? p10 = some x10 ∧ W.cell? p11 = some x11 ∧ W.cell? p12 = some x12 ∧ W.cell? p13 = some x13) (hb : Below W.heap.size W W') : Below w.heap.size w W' ∧ W'.cell? p0 = some x0 ∧ W'.cell? p1 = some x1 ∧ W'.cell? p2 = some x2 ∧ W'.cell? p3 = some x3 ∧ W'.cell? p4 = some x4 ∧ W'.cell? p5 = some x5 ∧ W'.cell? p6 = some x6 ∧ W'.cell? p7 = some x7 ∧ W'.cell? p8 = some x8 ∧ W'.cell? p9 = some x9 ∧ W'.cell? p10 = some x10 ∧ W'.cell? p11 = some x11 ∧ W'.cell? p12 = some x12 ∧ W'.cell? p13 = some x13 := ⟨h.1.trans (hb.mono h.1.size), keepc hb h.2.1, keepc hb h.2.2.1, keepc hb h.2.2.2.1, keepc hb h.2.2.2.2.1, keepc hb h.2.2.2.2.2.1, keepc hb h.2.2.2.2.2.2.1, keepc hb h.2.2.2.2.2.2.2.1, keepc hb h.2.2.2.2.2.2.2.2.1, keepc hb h.2.2.2.2.2.2.2.2.2.1, keepc hb h.2.2.2.2.2.2.2.2.2.2.1, keepc hb h.2.2.2.2.2.2.2.2.2.2.2.1, keepc hb h.2.2.2.2.2.2.2.2.2.2.2.2.1, keepc hb h.2.2.2.2.2.2.2.2.2.2.2.2.2.1, keepc hb h.2.2.2.2.2.2.2.2.2.2.2.2.2.2⟩

end Go.Proofs.YtelknolcneiikaaDoor
