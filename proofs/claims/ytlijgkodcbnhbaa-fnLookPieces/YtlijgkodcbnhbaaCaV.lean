/- caches in memory: read ('Ws', 'Cv'), being laid ('Ow2', 'Oc2'), the call's own ('Cg') -/
import Derived.Test.YtlijgkodcbnhbaaChA
import Derived.Test.YtlijgkodcbnhbaaChecked
namespace Go.Proofs.Ytlijgkodcbnhbaa
open Go.RowKit
set_option linter.unusedVariables false
set_option linter.unusedSimpArgs false

/-- what a set reads as -/
structure Sm where
  b : Int
  u : Nat → Bool
  a : Nat → Int

/-- a row of ways -/
def Ws (w : World) (v : Value) (n : Nat) (s : Sm) : Prop :=
  ∃ ad cap, v = .slice ad n cap ∧ (0 < n → ∃ b off, ad = some ⟨b, off, none⟩ ∧ ∀ j, j < n → w.cell? ⟨b, off + j * 2, none⟩ = some (.bool (s.u j)) ∧ w.cell? ⟨b, off + j * 2 + 1, none⟩ = some (.int .i64 (s.a j)))
theorem Ws.below {w w' : World} {v : Value} {n : Nat} {s : Sm} (h : Ws w v n s) (hb : Below w.heap.size w w') : Ws w' v n s := by
  obtain ⟨ad, cap, rfl, h⟩ := h
  refine ⟨ad, cap, rfl, fun hp => ?_⟩
  obtain ⟨b, off, rfl, hc⟩ := h hp
  exact ⟨b, off, rfl, fun j hj => ⟨keepc hb (hc j hj).1, keepc hb (hc j hj).2⟩⟩

/-- a row of sets -/
def Cv (w : World) (v : Value) (n : Nat) (L : Nat → Nat) (D : Nat → Sm) : Prop :=
  ∃ ad cap, v = .slice ad n cap ∧ (0 < n → ∃ b off, ad = some ⟨b, off, none⟩ ∧ ∀ c, c < n → ∃ ia ic, w.cell? ⟨b, off + c * 2, none⟩ = some (.int .i64 (D c).b) ∧ w.cell? ⟨b, off + c * 2 + 1, none⟩ = some (.slice ia (L c) ic) ∧ Ws w (.slice ia (L c) ic) (L c) (D c))
theorem Cv.below {w w' : World} {v : Value} {n : Nat} {L : Nat → Nat} {D : Nat → Sm} (h : Cv w v n L D) (hb : Below w.heap.size w w') : Cv w' v n L D := by
  obtain ⟨ad, cap, rfl, h⟩ := h
  refine ⟨ad, cap, rfl, fun hp => ?_⟩
  obtain ⟨b, off, rfl, hc⟩ := h hp
  refine ⟨b, off, rfl, fun c hcc => ?_⟩
  obtain ⟨ia, ic, h0, h1, h2⟩ := hc c hcc
  exact ⟨ia, ic, keepc hb h0, keepc hb h1, h2.below hb⟩
theorem Cv.nil (w : World) (L : Nat → Nat) (D : Nat → Sm) : Cv w (.slice none 0 0) 0 L D := ⟨none, 0, rfl, fun h => by omega⟩

/-- a row of ways that is being laid: the block g, filled up to k -/
def Ow2 (w : World) (g n k : Nat) (s : Sm) : Prop :=
  ∃ cur : Array Value, w.heap[g]? = some (.cells cur 40 (0, 0)) ∧ cur.size = n * 2 ∧ ∀ j, j < k → cur[j * 2]? = some (.bool (s.u j)) ∧ cur[j * 2 + 1]? = some (.int .i64 (s.a j))
theorem Ow2.lt {w : World} {g n k : Nat} {s : Sm} (h : Ow2 w g n k s) : g < w.heap.size := by obtain ⟨cur, h1, _⟩ := h; exact lt_of_block h1
theorem Ow2.below {w w' : World} {g n k : Nat} {s : Sm} (h : Ow2 w g n k s) (hb : Below w.heap.size w w') : Ow2 w' g n k s := by
  obtain ⟨cur, h1, h2, h3⟩ := h
  exact ⟨cur, (hb.block g (lt_of_block h1)).trans h1, h2, h3⟩
theorem Ow2.set {w : World} {g n k B i : Nat} {s : Sm} {v : Value} (h : Ow2 w g n k s) (hne : B ≠ g) : Ow2 (w.setCell ⟨B, i, none⟩ v) g n k s := by
  obtain ⟨cur, h1, h2, h3⟩ := h
  exact ⟨cur, by rw [heap_setCell_other _ _ _ _ (fun h => hne h.symm)]; exact h1, h2, h3⟩
theorem Ow2.put {w : World} {g n k : Nat} {s : Sm} (h : Ow2 w g n k s) (hk : k < n) : Ow2 ((w.setCell ⟨g, k * 2, none⟩ (.bool (s.u k))).setCell ⟨g, k * 2 + 1, none⟩ (.int .i64 (s.a k))) g n (k + 1) s := by
  obtain ⟨cur, h1, h2, h3⟩ := h
  refine ⟨(cur.setIfInBounds (k * 2) (.bool (s.u k))).setIfInBounds (k * 2 + 1) (.int .i64 (s.a k)), heap_setCell_same _ g (k * 2 + 1) _ _ _ (heap_setCell_same _ g (k * 2) _ _ _ h1), by simpa using h2, fun j hj => ?_⟩
  by_cases e : j = k
  · subst e
    refine ⟨?_, ?_⟩
    · rw [Array.getElem?_setIfInBounds_ne (by omega), Array.getElem?_setIfInBounds_self_of_lt (by omega)]
    · rw [Array.getElem?_setIfInBounds_self_of_lt (by (try simp only [Array.size_setIfInBounds]); omega)]
  · obtain ⟨a, b⟩ := h3 j (by omega)
    refine ⟨?_, ?_⟩
    · rw [Array.getElem?_setIfInBounds_ne (by omega), Array.getElem?_setIfInBounds_ne (by omega)]; exact a
    · rw [Array.getElem?_setIfInBounds_ne (by omega), Array.getElem?_setIfInBounds_ne (by omega)]; exact b
theorem Ow2.facts {w : World} {g n k j : Nat} {s : Sm} (h : Ow2 w g n k s) (hj : j < n) : (∀ i, w.frozen? ⟨g, i, none⟩ = false) ∧ (∃ o, w.cell? ⟨g, j * 2, none⟩ = some o) ∧ ∃ o, w.cell? ⟨g, j * 2 + 1, none⟩ = some o := by
  obtain ⟨cur, h1, h2, _⟩ := h
  refine ⟨fun i => frozen_of_row _ _ i _ _ h1, ⟨cur[j * 2], ?_⟩, ⟨cur[j * 2 + 1], ?_⟩⟩
  all_goals rw [cell_of_row _ _ _ _ _ _ h1]
  all_goals exact Array.getElem?_eq_getElem (by omega)
theorem Ow2.ws {w : World} {g n cap : Nat} {s : Sm} (h : Ow2 w g n n s) : Ws w (.slice (some ⟨g, 0, none⟩) n cap) n s := by
  obtain ⟨cur, h1, h2, h3⟩ := h
  refine ⟨some ⟨g, 0, none⟩, cap, rfl, fun _ => ⟨g, 0, rfl, fun j hj => ?_⟩⟩
  rw [Nat.zero_add, cell_of_row _ _ _ _ _ _ h1, cell_of_row _ _ _ _ _ _ h1]
  exact h3 j hj
theorem ow2_start {w1 : World} {base g n : Nat} {xs : List Value} {s : Sm} (h : w1.ownsRow base 40 2 (.slice (some ⟨g, 0, none⟩) n n) n xs) : Ow2 w1 g n 0 s := by
  rcases h.2 with ⟨h', _⟩ | ⟨g', cap', cur, h', _, hg, _, _, hcs, _⟩
  · simp at h'
  · simp only [Value.slice.injEq, Option.some.injEq, Addr.mk.injEq, and_true, true_and] at h'
    obtain ⟨rfl, rfl⟩ := h'
    exact ⟨cur, hg, by omega, fun c hc => by omega⟩

/-- sets that are being laid: the block g, filled up to k; the c-th row lies in ib c -/
structure Oc2 (w : World) (g n k : Nat) (L : Nat → Nat) (D : Nat → Sm) (ib : Nat → Nat) : Prop where
  blk : ∃ cur : Array Value, w.heap[g]? = some (.cells cur 58 (0, 0)) ∧ cur.size = n * 2 ∧ ∀ c, c < k → cur[c * 2]? = some (.int .i64 (D c).b) ∧ cur[c * 2 + 1]? = some (.slice (some ⟨ib c, 0, none⟩) (L c) (L c))
  gt : ∀ c, c < k → g < ib c
  row : ∀ c, c < k → Ow2 w (ib c) (L c) (L c) (D c)
  mono : ∀ c c', c < c' → c' < k → ib c < ib c'
theorem Oc2.lt {w : World} {g n k : Nat} {L : Nat → Nat} {D : Nat → Sm} {ib : Nat → Nat} (h : Oc2 w g n k L D ib) : g < w.heap.size := by obtain ⟨cur, h1, _⟩ := h.blk; exact lt_of_block h1
theorem Oc2.below {w w' : World} {g n k : Nat} {L : Nat → Nat} {D : Nat → Sm} {ib : Nat → Nat} (h : Oc2 w g n k L D ib) (hb : Below w.heap.size w w') : Oc2 w' g n k L D ib := by
  obtain ⟨⟨cur, h1, h2, h3⟩, b, c, d⟩ := h
  exact ⟨⟨cur, (hb.block g (lt_of_block h1)).trans h1, h2, h3⟩, b, fun x hx => (c x hx).below hb, d⟩
theorem Oc2.facts {w : World} {g n k j : Nat} {L : Nat → Nat} {D : Nat → Sm} {ib : Nat → Nat} (h : Oc2 w g n k L D ib) (hj : j < n) : (∀ i, w.frozen? ⟨g, i, none⟩ = false) ∧ (∃ o, w.cell? ⟨g, j * 2, none⟩ = some o) ∧ ∃ o, w.cell? ⟨g, j * 2 + 1, none⟩ = some o := by
  obtain ⟨cur, h1, h2, _⟩ := h.blk
  refine ⟨fun i => frozen_of_row _ _ i _ _ h1, ⟨cur[j * 2], ?_⟩, ⟨cur[j * 2 + 1], ?_⟩⟩
  all_goals rw [cell_of_row _ _ _ _ _ _ h1]
  all_goals exact Array.getElem?_eq_getElem (by omega)
theorem Oc2.put {w : World} {g n k nb : Nat} {L : Nat → Nat} {D : Nat → Sm} {ib : Nat → Nat} (h : Oc2 w g n k L D ib) (hk : k < n) (hg : g < nb) (hm : ∀ c, c < k → ib c < nb) (hr : Ow2 w nb (L k) (L k) (D k)) :
    Oc2 ((w.setCell ⟨g, k * 2, none⟩ (.int .i64 (D k).b)).setCell ⟨g, k * 2 + 1, none⟩ (.slice (some ⟨nb, 0, none⟩) (L k) (L k))) g n (k + 1) L D (fun c => if c = k then nb else ib c) := by
  obtain ⟨⟨cur, h1, h2, h3⟩, hgt, hrow, hmono⟩ := h
  refine ⟨⟨(cur.setIfInBounds (k * 2) (.int .i64 (D k).b)).setIfInBounds (k * 2 + 1) (.slice (some ⟨nb, 0, none⟩) (L k) (L k)), heap_setCell_same _ g (k * 2 + 1) _ _ _ (heap_setCell_same _ g (k * 2) _ _ _ h1), by simpa using h2, fun j hj => ?_⟩, fun c hc => ?_, fun c hc => ?_, fun c c' hcc hc' => ?_⟩
  · by_cases e : j = k
    · subst e
      rw [if_pos rfl]
      refine ⟨?_, ?_⟩
      · rw [Array.getElem?_setIfInBounds_ne (by omega), Array.getElem?_setIfInBounds_self_of_lt (by omega)]
      · rw [Array.getElem?_setIfInBounds_self_of_lt (by (try simp only [Array.size_setIfInBounds]); omega)]
    · rw [if_neg e]
      obtain ⟨a, b⟩ := h3 j (by omega)
      refine ⟨?_, ?_⟩
      · rw [Array.getElem?_setIfInBounds_ne (by omega), Array.getElem?_setIfInBounds_ne (by omega)]; exact a
      · rw [Array.getElem?_setIfInBounds_ne (by omega), Array.getElem?_setIfInBounds_ne (by omega)]; exact b
  · by_cases e : c = k
    · subst e; rw [if_pos rfl]; exact hg
    · rw [if_neg e]; exact hgt c (by omega)
  · by_cases e : c = k
    · subst e; rw [if_pos rfl]; exact (hr.set (Nat.ne_of_lt hg)).set (Nat.ne_of_lt hg)
    · rw [if_neg e]; have := hgt c (by omega); exact ((hrow c (by omega)).set (Nat.ne_of_lt this)).set (Nat.ne_of_lt this)
  · by_cases e : c' = k
    · subst e; rw [if_pos rfl, if_neg (by omega)]; exact hm c hcc
    · rw [if_neg e, if_neg (by omega)]; exact hmono c c' hcc (by omega)
theorem oc2_start {w1 : World} {base g n : Nat} {xs : List Value} {L : Nat → Nat} {D : Nat → Sm} {ib : Nat → Nat} (h : w1.ownsRow base 58 2 (.slice (some ⟨g, 0, none⟩) n n) n xs) : Oc2 w1 g n 0 L D ib := by
  rcases h.2 with ⟨h', _⟩ | ⟨g', cap', cur, h', _, hg, _, _, hcs, _⟩
  · simp at h'
  · simp only [Value.slice.injEq, Option.some.injEq, Addr.mk.injEq, and_true, true_and] at h'
    obtain ⟨rfl, rfl⟩ := h'
    exact ⟨⟨cur, hg, by omega, fun c hc => by omega⟩, fun c hc => by omega, fun c hc => by omega, fun c c' _ hc => by omega⟩

/-- a cache in memory of its own: the sets in G, the c-th row of ways in ib c; all of them at B and behind -/
structure Cg (w : World) (B : Nat) (v : Value) (n : Nat) (L : Nat → Nat) (D : Nat → Sm) (G : Nat) (ib : Nat → Nat) : Prop where
  val : ∃ cap, v = .slice (some ⟨G, 0, none⟩) n cap
  lo : B ≤ G ∧ ∀ c, c < n → B ≤ ib c
  wcG : Wc w G (n * 2)
  wcI : ∀ c, c < n → Wc w (ib c) (L c * 2)
  ne : ∀ c, c < n → ib c ≠ G
  inj : ∀ c c', c < n → c' < n → ib c = ib c' → c = c'
  at_ : ∀ c, c < n → w.cell? ⟨G, c * 2, none⟩ = some (.int .i64 (D c).b) ∧ ∃ ic, w.cell? ⟨G, c * 2 + 1, none⟩ = some (.slice (some ⟨ib c, 0, none⟩) (L c) ic)
  way : ∀ c, c < n → ∀ j, j < L c → w.cell? ⟨ib c, j * 2, none⟩ = some (.bool ((D c).u j)) ∧ w.cell? ⟨ib c, j * 2 + 1, none⟩ = some (.int .i64 ((D c).a j))

theorem Cg.below {w w' : World} {B : Nat} {v : Value} {n : Nat} {L : Nat → Nat} {D : Nat → Sm} {G : Nat} {ib : Nat → Nat} (h : Cg w B v n L D G ib) (hb : Below w.heap.size w w') : Cg w' B v n L D G ib :=
  ⟨h.val, h.lo, h.wcG.below hb, fun c hc => (h.wcI c hc).below hb, h.ne, h.inj, fun c hc => ⟨keepc hb (h.at_ c hc).1, by obtain ⟨ic, h2⟩ := (h.at_ c hc).2; exact ⟨ic, keepc hb h2⟩⟩, fun c hc j hj => ⟨keepc hb (h.way c hc j hj).1, keepc hb (h.way c hc j hj).2⟩⟩
theorem Cg.chg {S : Nat → Prop} {w w' : World} {B : Nat} {v : Value} {n : Nat} {L : Nat → Nat} {D : Nat → Sm} {G : Nat} {ib : Nat → Nat} (h : Cg w B v n L D G ib) (hc : Chg S w w') (hG : ¬ S G) (hI : ∀ c, c < n → ¬ S (ib c)) : Cg w' B v n L D G ib :=
  ⟨h.val, h.lo, hc.keep _ _ h.wcG, fun c hcc => hc.keep _ _ (h.wcI c hcc), h.ne, h.inj, fun c hcc => ⟨hc.cell hG (h.at_ c hcc).1, by obtain ⟨ic, h2⟩ := (h.at_ c hcc).2; exact ⟨ic, hc.cell hG h2⟩⟩, fun c hcc j hj => ⟨hc.cell (hI c hcc) (h.way c hcc j hj).1, hc.cell (hI c hcc) (h.way c hcc j hj).2⟩⟩
theorem Cg.mono {w : World} {B B' : Nat} {v : Value} {n : Nat} {L : Nat → Nat} {D : Nat → Sm} {G : Nat} {ib : Nat → Nat} (h : Cg w B v n L D G ib) (hB : B' ≤ B) : Cg w B' v n L D G ib :=
  ⟨h.val, ⟨Nat.le_trans hB h.lo.1, fun c hc => Nat.le_trans hB (h.lo.2 c hc)⟩, h.wcG, h.wcI, h.ne, h.inj, h.at_, h.way⟩
theorem Cg.cv {w : World} {B : Nat} {v : Value} {n : Nat} {L : Nat → Nat} {D : Nat → Sm} {G : Nat} {ib : Nat → Nat} (h : Cg w B v n L D G ib) : Cv w v n L D := by
  obtain ⟨cap, rfl⟩ := h.val
  refine ⟨_, cap, rfl, fun _ => ⟨G, 0, rfl, fun c hc => ?_⟩⟩
  obtain ⟨a, ic, b⟩ := h.at_ c hc
  rw [Nat.zero_add]
  refine ⟨some ⟨ib c, 0, none⟩, ic, a, b, some ⟨ib c, 0, none⟩, ic, rfl, fun _ => ⟨ib c, 0, rfl, fun j hj => ?_⟩⟩
  rw [Nat.zero_add]
  exact h.way c hc j hj
theorem Oc2.cg {w : World} {B g n : Nat} {L : Nat → Nat} {D : Nat → Sm} {ib : Nat → Nat} (h : Oc2 w g n n L D ib) (hB : B ≤ g) : Cg w B (.slice (some ⟨g, 0, none⟩) n n) n L D g ib := by
  obtain ⟨⟨cur, h1, h2, h3⟩, hgt, hrow, hmono⟩ := h
  refine ⟨⟨n, rfl⟩, ⟨hB, fun c hc => by have := hgt c hc; omega⟩, ⟨cur, _, h1, by omega⟩, fun c hc => ?_, fun c hc => by have := hgt c hc; omega, fun c c' hc hc' e => ?_, fun c hc => ?_, fun c hc j hj => ?_⟩
  · obtain ⟨cu, a, b, _⟩ := hrow c hc; exact ⟨cu, _, a, by omega⟩
  · rcases Nat.lt_trichotomy c c' with h | h | h
    · have := hmono c c' h hc'; omega
    · exact h
    · have := hmono c' c h hc; omega
  · rw [cell_of_row _ _ _ _ _ _ h1, cell_of_row _ _ _ _ _ _ h1]
    exact ⟨(h3 c hc).1, _, (h3 c hc).2⟩
  · obtain ⟨cu, a, b, d⟩ := hrow c hc
    rw [cell_of_row _ _ _ _ _ _ a, cell_of_row _ _ _ _ _ _ a]
    exact d j hj

end Go.Proofs.Ytlijgkodcbnhbaa
