/- rows of texts and of wires: read, copied, compared, not too large -/
import Derived.Test.YtgflipkhhpkidaaView
import Derived.Test.YtgflipkhhpkidaaChecked
import Derived.Test.YtgflipkhhpkidaaChA
import Derived.WalkSmall
import Derived.BigQuiet
import Derived.Deep.QuietTactic
import Derived.Deep.RegionHeld
import Derived.Deep.RegionHeld3
namespace Go.Proofs.Ytgflipkhhpkidaa
open Go.RowKit
set_option linter.unusedVariables false
set_option linter.unusedSimpArgs false

theorem k6H {w w' : World} (hb : Below w.heap.size w w') {p0 p1 p2 p3 p4 p5 : Addr} {x0 x1 x2 x3 x4 x5 : Value} (h0 : w.cell? p0 = some x0) (h1 : w.cell? p1 = some x1) (h2 : w.cell? p2 = some x2) (h3 : w.cell? p3 = some x3) (h4 : w.cell? p4 = some x4) (h5 : w.cell? p5 = some x5) : w'.cell? p0 = some x0 ∧ w'.cell? p1 = some x1 ∧ w'.cell? p2 = some x2 ∧ w'.cell? p3 = some x3 ∧ w'.cell? p4 = some x4 ∧ w'.cell? p5 = some x5 := ⟨keepc hb h0, keepc hb h1, keepc hb h2, keepc hb h3, keepc hb h4, keepc hb h5⟩
section
variable {P : Program} {ops : Array Oper} {Q : Exit → Act → World → Prop} {md : Region.Mode} {S : World → Prop} {n : Nat} {o : Oper} {done : Array Bool} {a a' : Act} {w : World}
/-- in a region that draws: an operation that only reads, taken first; one that is passed over -/
theorem th (i : Nat) (v : Value) (hi : ops[i]? = some o) (h : ∀ w', S w' → (execOp a.eval o).run P w' = .ok (.value v) w') (k : True → wpAnyH P md ops Q S n (done.setIfInBounds i true) a' w) (hs : Region.noSelect ops = true := by kernel_rfl) (hf : Region.free md ops done i = true := by kernel_rfl) (hr : (Region.ready md ops done).contains i = true := by kernel_rfl) (hQ : ∀ c u w, Q (.panic c) (u.put o.dst v) w → Q (.panic c) u w := by intro _ _ _ h; exact h) (hw : Region.wanted o (yielded ops a.tmps) = true := by rfl) (hS : S w := by assumption)
    (hp : a.put o.dst v = a' := by simp only [Act.put, List.getElem_toArray, List.getElem_cons_zero, List.getElem_cons_succ, List.setIfInBounds_toArray, List.set_cons_zero, List.set_cons_succ]; rfl) : wpAnyH P md ops Q S (n + 1) done a w := by
  subst hp; exact wpAnyH_take hi hs hf hr hQ (.inl ⟨hw, h⟩) hS (k trivial)
theorem th0 (i : Nat) (v : Value) (hi : ops[i]? = some o) (k : True → wpAnyH P md ops Q S n (done.setIfInBounds i true) a' w) (h : ∀ w', S w' → (execOp a.eval o).run P w' = .ok (.value v) w' := by intro w' hSw; go_simp) (hs : Region.noSelect ops = true := by kernel_rfl) (hf : Region.free md ops done i = true := by kernel_rfl) (hr : (Region.ready md ops done).contains i = true := by kernel_rfl) (hQ : ∀ c u w, Q (.panic c) (u.put o.dst v) w → Q (.panic c) u w := by intro _ _ _ h; exact h) (hw : Region.wanted o (yielded ops a.tmps) = true := by rfl) (hS : S w := by assumption)
    (hp : a.put o.dst v = a' := by simp only [Act.put, List.getElem_toArray, List.getElem_cons_zero, List.getElem_cons_succ, List.setIfInBounds_toArray, List.set_cons_zero, List.set_cons_succ]; rfl) : wpAnyH P md ops Q S (n + 1) done a w := by
  subst hp; exact wpAnyH_take hi hs hf hr hQ (.inl ⟨hw, h⟩) hS (k trivial)
theorem thu (i : Nat) (hi : ops[i]? = some o) (k : True → wpAnyH P md ops Q S n (done.setIfInBounds i true) a' w) (hs : Region.noSelect ops = true := by kernel_rfl) (hf : Region.free md ops done i = true := by kernel_rfl) (hr : (Region.ready md ops done).contains i = true := by kernel_rfl) (hQ : ∀ c u w, Q (.panic c) (u.put o.dst undef) w → Q (.panic c) u w := by intro _ _ _ h; exact h) (hw : Region.wanted o (yielded ops a.tmps) = false := by kernel_rfl) (hS : S w := by assumption)
    (hp : a.put o.dst undef = a' := by simp only [Act.put, List.getElem_toArray, List.getElem_cons_zero, List.getElem_cons_succ, List.setIfInBounds_toArray, List.set_cons_zero, List.set_cons_succ]; rfl) : wpAnyH P md ops Q S (n + 1) done a w := by
  subst hp; exact wpAnyH_take hi hs hf hr hQ (.inr ⟨hw, rfl⟩) hS (k trivial)
end

/-- a row of n structs of m cells -/
def Sg (w : World) (v : Value) (m n : Nat) (f : Nat → Nat → Value) : Prop :=
  ∃ ad cap, v = .slice ad n cap ∧ (0 < n → ∃ b off, ad = some ⟨b, off, none⟩ ∧ ∀ j, j < n → ∀ i, i < m → w.cell? ⟨b, off + j * m + i, none⟩ = some (f j i))
theorem Sg.below {w w' : World} {v : Value} {m n : Nat} {f : Nat → Nat → Value} (h : Sg w v m n f) (hb : Below w.heap.size w w') : Sg w' v m n f := by
  obtain ⟨ad, cap, rfl, h⟩ := h
  refine ⟨ad, cap, rfl, fun hp => ?_⟩
  obtain ⟨b, off, rfl, hc⟩ := h hp
  exact ⟨b, off, rfl, fun j hj i hi => keepc hb (hc j hj i hi)⟩
/-- a copy, filled up to k -/
def Cr (w : World) (g : Nat) (T : TypeId) (m n k : Nat) (f : Nat → Nat → Value) : Prop :=
  ∃ cur : Array Value, w.heap[g]? = some (.cells cur T (0, 0)) ∧ cur.size = n * m ∧ ∀ j, j < k → ∀ i, i < m → cur[j * m + i]? = some (f j i)
theorem Cr.below {w w' : World} {g : Nat} {T : TypeId} {m n k : Nat} {f : Nat → Nat → Value} (h : Cr w g T m n k f) (hb : Below w.heap.size w w') : Cr w' g T m n k f := by
  obtain ⟨cur, h1, h2, h3⟩ := h
  exact ⟨cur, (hb.block g (lt_of_block h1)).trans h1, h2, h3⟩
theorem Cr.sg {w : World} {g : Nat} {T : TypeId} {m n : Nat} {f : Nat → Nat → Value} (h : Cr w g T m n n f) : Sg w (.slice (some ⟨g, 0, none⟩) n n) m n f := by
  obtain ⟨cur, h1, h2, h3⟩ := h
  refine ⟨_, n, rfl, fun _ => ⟨g, 0, rfl, fun j hj i hi => ?_⟩⟩
  rw [Nat.zero_add, cell_of_row _ _ _ _ _ _ h1]
  exact h3 j hj i hi
theorem Cr.other {w : World} {g B i : Nat} {T : TypeId} {m n k : Nat} {f : Nat → Nat → Value} {v : Value} (h : Cr w g T m n k f) (hB : g ≠ B) : Cr (w.setCell ⟨B, i, none⟩ v) g T m n k f := by
  obtain ⟨cur, h1, h2, h3⟩ := h
  exact ⟨cur, (heap_setCell_other _ _ _ _ hB).trans h1, h2, h3⟩
theorem Cr.facts {w : World} {g : Nat} {T : TypeId} {m n k : Nat} {f : Nat → Nat → Value} (h : Cr w g T m n k f) : (∀ i, w.frozen? ⟨g, i, none⟩ = false) ∧ ∀ x, x < n * m → ∃ o, w.cell? ⟨g, x, none⟩ = some o := by
  obtain ⟨cur, h1, h2, h3⟩ := h
  refine ⟨fun i => frozen_of_row _ _ i _ _ h1, fun x hx => ⟨cur[x], ?_⟩⟩
  rw [cell_of_row _ _ _ _ _ _ h1]
  exact Array.getElem?_eq_getElem (by omega)
theorem Cr.put1 {w : World} {g : Nat} {T : TypeId} {n k : Nat} {f : Nat → Nat → Value} (h : Cr w g T 1 n k f) (hk : k < n) : Cr (w.setCell ⟨g, k, none⟩ (f k 0)) g T 1 n (k + 1) f := by
  obtain ⟨cur, h1, h2, h3⟩ := h
  refine ⟨cur.setIfInBounds k (f k 0), heap_setCell_same w g k _ _ _ h1, by simpa using h2, fun j hj i hi => ?_⟩
  obtain rfl : i = 0 := by omega
  by_cases e : j = k
  · subst e
    rw [Nat.mul_one, Nat.add_zero, Array.getElem?_setIfInBounds_self_of_lt (by omega)]
  · rw [Array.getElem?_setIfInBounds_ne (by omega)]
    exact h3 j (by omega) 0 (by omega)
theorem Cr.put2 {w : World} {g : Nat} {T : TypeId} {n k : Nat} {f : Nat → Nat → Value} (h : Cr w g T 2 n k f) (hk : k < n) : Cr ((w.setCell ⟨g, k * 2, none⟩ (f k 0)).setCell ⟨g, k * 2 + 1, none⟩ (f k 1)) g T 2 n (k + 1) f := by
  obtain ⟨cur, h1, h2, h3⟩ := h
  refine ⟨(cur.setIfInBounds (k * 2) (f k 0)).setIfInBounds (k * 2 + 1) (f k 1), heap_setCell_same _ g _ _ _ _ (heap_setCell_same w g (k * 2) _ _ _ h1), by simpa using h2, fun j hj i hi => ?_⟩
  by_cases e : j = k
  · subst e
    match i, hi with
    | 0, _ =>
      rw [Array.getElem?_setIfInBounds_ne (by omega), Nat.add_zero, Array.getElem?_setIfInBounds_self_of_lt (by omega)]
    | 1, _ => rw [Array.getElem?_setIfInBounds_self_of_lt (by simp; omega)]
  · rw [Array.getElem?_setIfInBounds_ne (by omega), Array.getElem?_setIfInBounds_ne (by omega)]
    exact h3 j (by omega) i hi
theorem cr_start {w1 : World} {base g n m : Nat} {T : TypeId} {xs : List Value} {f : Nat → Nat → Value} (h : w1.ownsRow base T m (.slice (some ⟨g, 0, none⟩) n n) n xs) : Cr w1 g T m n 0 f := by
  rcases h.2 with ⟨h', _⟩ | ⟨g', cap', cur, h', _, hg, _, _, hcs, _⟩
  · simp at h'
  · simp only [Value.slice.injEq, Option.some.injEq, Addr.mk.injEq, and_true, true_and] at h'
    obtain ⟨rfl, rfl⟩ := h'
    exact ⟨cur, hg, by omega, fun c hc => by omega⟩

/-- the cells of texts, of wires -/
abbrev tF (s : Nat → ByteArray) : Nat → Nat → Value := fun j _ => .string (s j)
def wF (t : Nat → ByteArray) (h : Nat → Bool) : Nat → Nat → Value := fun j i => match i with
  | 0 => .string (t j)
  | _ => .bool (h j)
theorem infoStr : (Try.prog.info? 9).map (fun i => (i.zero, i.size, i.bytes)) = some (some (.string ⟨#[]⟩), 1, 16) := by kernel_rfl
theorem infoWi : (Try.prog.info? 70).map (fun i => (i.zero, i.size, i.bytes)) = some (some (.agg #[.string ⟨#[]⟩, .bool false]), 2, 24) := by kernel_rfl

theorem str_self (b : ByteArray) : (b.toList == b.toList) = true := by simp

theorem keep4 {w W W' : World} {p0 p1 p2 p3 : Addr} {x0 x1 x2 x3 : Value} (h : Below w.heap.size w W ∧ W.cell? p0 = some x0 ∧ W.cell? p1 = some x1 ∧ W.cell? p2 = some x2 ∧ W.cell? p3 = some x3) (hb : Below W.heap.size W W') : Below w.heap.size w W' ∧ W'.cell? p0 = some x0 ∧ W'.cell? p1 = some x1 ∧ W'.cell? p2 = some x2 ∧ W'.cell? p3 = some x3 := ⟨h.1.trans (hb.mono h.1.size), keepc hb h.2.1, keepc hb h.2.2.1, keepc hb h.2.2.2.1, keepc hb h.2.2.2.2⟩

end Go.Proofs.Ytgflipkhhpkidaa
