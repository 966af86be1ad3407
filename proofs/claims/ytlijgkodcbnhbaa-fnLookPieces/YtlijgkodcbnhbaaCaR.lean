/- a cache that is built, set by set: what lies in memory between two appends -/
import Derived.Test.YtlijgkodcbnhbaaCaQ
namespace Go.Proofs.Ytlijgkodcbnhbaa
open Go.RowKit
set_option linter.unusedVariables false
set_option linter.unusedSimpArgs false

def two (s t : Sm) : Nat → Sm := fun c => if c = 0 then s else t
abbrev sl (g n c : Nat) : Value := .slice (some ⟨g, 0, none⟩) n c
/-- an inner row -/
abbrev Inn (w : World) (B g c : Nat) (s : Sm) : Prop := w.ownsRow B 40 2 (sl g 4 c) 4 (w8 s)
theorem Inn.lt {w : World} {B g c : Nat} {s : Sm} (h : Inn w B g c s) : B ≤ g ∧ g < w.heap.size := World.ownsRow.lt h g rfl
theorem Inn.mono {w : World} {B B' g c : Nat} {s : Sm} (h : Inn w B g c s) (hB : B' ≤ B) : Inn w B' g c s := by
  refine ⟨h.1, ?_⟩
  rcases h.2 with h' | ⟨g', cap, cur, h', hbb, hg⟩
  · exact .inl h'
  · exact .inr ⟨g', cap, cur, h', by omega, hg⟩
theorem Inn.grown {w w' : World} {B g c : Nat} {s : Sm} {row : Option Nat} (h : Inn w B g c s) (hg : w.grownBy w' row) (hne : row ≠ some g) : Inn w' B g c s :=
  World.ownsRow.kept h hg (.inr (fun e => hne e.symm))
theorem Inn.below {w w' : World} {B g c : Nat} {s : Sm} (h : Inn w B g c s) (hb : Below w.heap.size w w') : Inn w' B g c s := h.grown (grown_of_below hb) (by simp)
theorem Inn.set {w : World} {B g c cb i : Nat} {s : Sm} {v : Value} (h : Inn w B g c s) (hne : cb ≠ g) : Inn (w.setCell ⟨cb, i, none⟩ v) B g c s := by
  refine ⟨h.1, ?_⟩
  rcases h.2 with h' | ⟨g', cap, cur, h', hbb, hg, r⟩
  · exact .inl h'
  · simp only [Value.slice.injEq, Option.some.injEq, Addr.mk.injEq, and_true, true_and] at h'
    obtain ⟨rfl, rfl⟩ := h'
    exact .inr ⟨g, c, cur, rfl, hbb, by rw [heap_setCell_other _ _ _ _ (fun e => hne e.symm)]; exact hg, r⟩
theorem Inn.cells {w : World} {B g c : Nat} {s : Sm} (h : Inn w B g c s) : Wc w g 8 ∧ ∀ j, j < 4 → w.cell? ⟨g, j * 2, none⟩ = some (.bool (s.u j)) ∧ w.cell? ⟨g, j * 2 + 1, none⟩ = some (.int .i64 (s.a j)) := by
  have hc := fun i hi => World.ownsRow.cellAt h i hi
  refine ⟨?_, fun j hj => ?_⟩
  · rcases h.2 with ⟨h', _⟩ | ⟨g', cap, cur, h', hbb, hg, hn, hm, hs, _⟩
    · cases h'
    · simp only [Value.slice.injEq, Option.some.injEq, Addr.mk.injEq, and_true, true_and] at h'
      obtain ⟨rfl, rfl⟩ := h'
      exact ⟨cur, _, hg, by omega⟩
  · have : j = 0 ∨ j = 1 ∨ j = 2 ∨ j = 3 := by omega
    rcases this with rfl | rfl | rfl | rfl
    · exact ⟨hc 0 (by omega), hc 1 (by omega)⟩
    · exact ⟨hc 2 (by omega), hc 3 (by omega)⟩
    · exact ⟨hc 4 (by omega), hc 5 (by omega)⟩
    · exact ⟨hc 6 (by omega), hc 7 (by omega)⟩

/-- the outer row -/
abbrev Out1 (w : World) (B G c : Nat) (s : Sm) (g0 c0 : Nat) : Prop := w.ownsRow B 58 2 (sl G 1 c) 1 [.int .i64 s.b, sl g0 4 c0]
abbrev Out2 (w : World) (B G c : Nat) (s t : Sm) (g0 c0 g1 c1 : Nat) : Prop := w.ownsRow B 58 2 (sl G 2 c) 2 [.int .i64 s.b, sl g0 4 c0, .int .i64 t.b, sl g1 4 c1]

theorem cg_of {w : World} {B G c g0 c0 g1 c1 : Nat} {s t : Sm} (h : Out2 w B G c s t g0 c0 g1 c1) (h0 : Inn w B g0 c0 s) (h1 : Inn w B g1 c1 t) (n0 : g0 ≠ G) (n1 : g1 ≠ G) (n2 : g0 ≠ g1) :
    Cg w B (sl G 2 c) 2 (fun _ => 4) (two s t) G (fun x => if x = 0 then g0 else g1) := by
  have hc := fun i hi => World.ownsRow.cellAt h i hi
  have two_cases : ∀ x, x < 2 → x = 0 ∨ x = 1 := fun x hx => by omega
  refine ⟨⟨c, rfl⟩, ⟨(World.ownsRow.lt h G rfl).1, fun x hx => ?_⟩, ?_, fun x hx => ?_, fun x hx => ?_, fun x y hx hy e => ?_, fun x hx => ?_, fun x hx j hj => ?_⟩
  · rcases two_cases x hx with rfl | rfl
    · exact h0.lt.1
    · exact h1.lt.1
  · rcases h.2 with ⟨h', _⟩ | ⟨g', cap, cur, h', hbb, hg, hn, hm, hs, _⟩
    · cases h'
    · simp only [Value.slice.injEq, Option.some.injEq, Addr.mk.injEq, and_true, true_and] at h'
      obtain ⟨rfl, rfl⟩ := h'
      exact ⟨cur, _, hg, by omega⟩
  · rcases two_cases x hx with rfl | rfl
    · exact h0.cells.1
    · exact h1.cells.1
  · rcases two_cases x hx with rfl | rfl
    · exact n0
    · exact n1
  · rcases two_cases x hx with rfl | rfl <;> rcases two_cases y hy with rfl | rfl
    · rfl
    · exact absurd e n2
    · exact absurd e.symm n2
    · rfl
  · rcases two_cases x hx with rfl | rfl
    · exact ⟨hc 0 (by omega), c0, hc 1 (by omega)⟩
    · exact ⟨hc 2 (by omega), c1, hc 3 (by omega)⟩
  · rcases two_cases x hx with rfl | rfl
    · exact h0.cells.2 j hj
    · exact h1.cells.2 j hj

/-- the variable cb and what hangs on it, k sets laid -/
def Bst (w : World) (B cb : Nat) (s t : Sm) : Nat → Prop
  | 0 => cb < B ∧ w.heap[cb]? = some (.cells #[.slice none 0 0] 26 (0, 0))
  | 1 => cb < B ∧ ∃ G c g0 c0, w.heap[cb]? = some (.cells #[sl G 1 c] 26 (0, 0)) ∧ Out1 w B G c s g0 c0 ∧ Inn w B g0 c0 s ∧ g0 ≠ G
  | _ => cb < B ∧ ∃ G c g0 c0 g1 c1, w.heap[cb]? = some (.cells #[sl G 2 c] 26 (0, 0)) ∧ Out2 w B G c s t g0 c0 g1 c1 ∧ Inn w B g0 c0 s ∧ Inn w B g1 c1 t ∧ g0 ≠ G ∧ g1 ≠ G ∧ g0 ≠ g1

theorem own_set {w : World} {B T m g n c cb i : Nat} {v : Value} {xs : List Value} (h : w.ownsRow B T m (sl g n c) n xs) (hne : cb ≠ g) : (w.setCell ⟨cb, i, none⟩ v).ownsRow B T m (sl g n c) n xs := by
  refine ⟨h.1, ?_⟩
  rcases h.2 with h' | ⟨g', cap, cur, h', hbb, hg, r⟩
  · exact .inl h'
  · simp only [Value.slice.injEq, Option.some.injEq, Addr.mk.injEq, and_true, true_and] at h'
    obtain ⟨rfl, rfl⟩ := h'
    exact .inr ⟨g, c, cur, rfl, hbb, by rw [heap_setCell_other _ _ _ _ (fun e => hne e.symm)]; exact hg, r⟩

/-- the first set appended: W: the world ahead of the append, w1 behind it -/
theorem Bst.first {W w1 : World} {B cb G c g0 c0 : Nat} {s t : Sm} (hcb : cb < B) (hb : W.heap[cb]? = some (.cells #[.slice none 0 0] 26 (0, 0))) (hi : Inn W B g0 c0 s)
    (ho : w1.ownsRow B 58 2 (sl G 1 c) 1 [.int .i64 s.b, sl g0 4 c0]) (hg : W.grownBy w1 none) (hG : G = W.heap.size) : Bst (w1.setCell ⟨cb, 0, none⟩ (sl G 1 c)) B cb s t 1 := by
  have hbl := lt_of_block hb
  have hb1 : w1.heap[cb]? = some (.cells #[.slice none 0 0] 26 (0, 0)) := (hg.block cb hbl (by simp)).trans hb
  have hl := hi.lt
  refine ⟨hcb, G, c, g0, c0, heap_setCell_same w1 cb 0 _ _ _ hb1, own_set ho (by omega), (hi.grown hg (by simp)).set (by omega), by omega⟩
theorem Bst.second {W w1 : World} {B cb G c G' c' g0 c0 g1 c1 : Nat} {s t : Sm} (hcb : cb < B) (hb : W.heap[cb]? = some (.cells #[sl G 1 c] 26 (0, 0))) (hG : B ≤ G) (hi : Inn W B g0 c0 s) (hj : Inn W B g1 c1 t) (n0 : g0 ≠ G) (n1 : g1 ≠ G) (n2 : g0 ≠ g1)
    (ho : w1.ownsRow B 58 2 (sl G' 2 c') 2 [.int .i64 s.b, sl g0 4 c0, .int .i64 t.b, sl g1 4 c1]) (hg : W.grownBy w1 (some G)) (hat : G' = G ∨ G' = W.heap.size) : Bst (w1.setCell ⟨cb, 0, none⟩ (sl G' 2 c')) B cb s t 2 := by
  have hbl := lt_of_block hb
  have hb1 : w1.heap[cb]? = some (.cells #[sl G 1 c] 26 (0, 0)) := (hg.block cb hbl (by simp; omega)).trans hb
  have hl := hi.lt
  have hl1 := hj.lt
  refine ⟨hcb, G', c', g0, c0, g1, c1, heap_setCell_same w1 cb 0 _ _ _ hb1, own_set ho (by omega), (hi.grown hg (by simp; omega)).set (by omega), (hj.grown hg (by simp; omega)).set (by omega), by omega, by omega, n2⟩

/-- all that is known between two appends: w: ahead of the call; rb: the answer's variable -/
structure Bd (w W : World) (B cb rb : Nat) (s t : Sm) (k : Nat) : Prop where
  bel : Below w.heap.size w W
  st : Bst W B cb s t k
  res : W.heap[rb]? = some (.cells #[.slice none 0 0] 26 (0, 0))
  size : B ≤ W.heap.size
  lo : w.heap.size ≤ cb ∧ rb < B ∧ rb ≠ cb
theorem Bd.first {w W w1 : World} {B cb rb G c g0 c0 : Nat} {s t : Sm} (hbel : Below w.heap.size w W) (hcb : cb < B) (hb : W.heap[cb]? = some (.cells #[.slice none 0 0] 26 (0, 0))) (hres : W.heap[rb]? = some (.cells #[.slice none 0 0] 26 (0, 0))) (hsz : B ≤ W.heap.size) (hlo : w.heap.size ≤ cb ∧ rb < B ∧ rb ≠ cb) (hi : Inn W B g0 c0 s)
    (ho : w1.ownsRow B 58 2 (sl G 1 c) 1 [.int .i64 s.b, sl g0 4 c0]) (hg : W.grownBy w1 none) (hG : none = some G ∨ G = W.heap.size) : Bd w (w1.setCell ⟨cb, 0, none⟩ (sl G 1 c)) B cb rb s t 1 := by
  have hG' : G = W.heap.size := by rcases hG with h | h; (· cases h); (· exact h)
  have hs1 := hg.size
  have hwb := hbel.size
  have hB1 : Below w.heap.size w w1 := hbel.grown hg hwb (fun k hk => by cases hk)
  refine ⟨hB1.setCell hlo.1 _, Bst.first hcb hb hi ho hg hG', ?_, ?_, hlo⟩
  · rw [heap_setCell_other _ _ _ _ (show rb ≠ cb from hlo.2.2)]; exact (hg.block rb (lt_of_block hres) (by simp)).trans hres
  · have := (Below.refl 0 w1).setCell (p := ⟨cb, 0, none⟩) (Nat.zero_le _) (sl G 1 c); have := this.size; omega
theorem Bd.second {w W w1 : World} {B cb rb G c G' c' g0 c0 g1 c1 : Nat} {s t : Sm} (hbel : Below w.heap.size w W) (hcb : cb < B) (hb : W.heap[cb]? = some (.cells #[sl G 1 c] 26 (0, 0))) (hres : W.heap[rb]? = some (.cells #[.slice none 0 0] 26 (0, 0))) (hsz : B ≤ W.heap.size) (hlo : w.heap.size ≤ cb ∧ rb < B ∧ rb ≠ cb) (hG : B ≤ G) (hi : Inn W B g0 c0 s) (hj : Inn W B g1 c1 t) (n0 : g0 ≠ G) (n1 : g1 ≠ G) (n2 : g0 ≠ g1)
    (ho : w1.ownsRow B 58 2 (sl G' 2 c') 2 [.int .i64 s.b, sl g0 4 c0, .int .i64 t.b, sl g1 4 c1]) (hg : W.grownBy w1 (some G)) (hat : some G = some G' ∨ G' = W.heap.size) : Bd w (w1.setCell ⟨cb, 0, none⟩ (sl G' 2 c')) B cb rb s t 2 := by
  have hat' : G' = G ∨ G' = W.heap.size := by rcases hat with h | h; (· exact .inl (by simpa using h.symm)); (· exact .inr h)
  have hs1 := hg.size
  have hwb := hbel.size
  have hB1 : Below w.heap.size w w1 := hbel.grown hg hwb (fun k hk => by simp at hk; omega)
  refine ⟨hB1.setCell hlo.1 _, Bst.second hcb hb hG hi hj n0 n1 n2 ho hg hat', ?_, ?_, hlo⟩
  · rw [heap_setCell_other _ _ _ _ (show rb ≠ cb from hlo.2.2)]; exact (hg.block rb (lt_of_block hres) (by simp; omega)).trans hres
  · have := (Below.refl 0 w1).setCell (p := ⟨cb, 0, none⟩) (Nat.zero_le _) (sl G' 2 c'); have := this.size; omega

end Go.Proofs.Ytlijgkodcbnhbaa
