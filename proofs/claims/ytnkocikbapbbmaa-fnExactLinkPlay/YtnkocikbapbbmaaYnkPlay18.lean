/- LdH -/
import Derived.Test.YtnkocikbapbbmaaYnkPlay17
/- a text or a wire appended to a row of a link (written by mkLdH.py) -/
namespace Go.Proofs.Ytnkocikbapbbmaa
open Go.RowKit
set_option linter.unusedVariables false
set_option linter.unusedSimpArgs false

/-- one more behind n -/
def snc {α : Type} (t : Nat → α) (n : Nat) (x : α) : Nat → α := fun j => if j < n then t j else x
theorem Rg.congr {w : World} {base m n : Nat} {v : Value} {f f' : Nat → Nat → Value} (h : Rg w base v m n f) (hm : 0 < m) (he : ∀ j, j < n → ∀ i, i < m → f j i = f' j i) : Rg w base v m n f' := by
  rcases h with h | ⟨g, off, k, e, h1, hp, h0, h2, h3, h4⟩
  · exact .inl h
  · refine .inr ⟨g, off, k, e, h1, hp, h0, h2, h3, fun x hx => ?_⟩
    rw [h4 x hx, he (x / m) (Nat.div_lt_of_lt_mul (by rw [Nat.mul_comm]; exact hx)) (x % m) (Nat.mod_lt _ hm)]
/-- a text appended -/
theorem add_text (W : World) (base : Nat) (v : Value) (n : Nat) (s : Nat → ByteArray) (b : ByteArray) (ty : TypeId) (ad : Addr) (c : Nat) (hc : W.cell? ad = some (.string b)) (hr : Rg W base v 1 n (tF s)) (hn : n ≤ 1048576) (hb : base ≤ W.heap.size) :
    ∃ g off k w', (Builtin.append_ #[22, 22] ty #[v, .slice (some ad) 1 c]).run Try.prog W = .ok (.slice (some ⟨g, off, none⟩) (n + 1) k) w' ∧ W.grownBy w' (rb v) ∧ Rg w' base (.slice (some ⟨g, off, none⟩) (n + 1) k) 1 (n + 1) (tF (snc s n b)) ∧ (rb v = some g ∨ W.heap.size ≤ g) ∧ Rg w' base v 1 n (tF s) := by
  obtain ⟨i0, hi, hz0, hz1, hz2⟩ := info_parts infoStr
  obtain ⟨g, off, k, w', h1, h2, h3, h4, h5⟩ := append_rg W base v 1 n 1 16 (tF s) 22 ty 9 i0 (.string ⟨#[]⟩) Try.underlying22 hi hz0 hz1 hz2 rfl (by decide) ad c [.string b] rfl (fun j u hu => by
    cases j with
    | zero => simp at hu; subst hu; simpa [Addr.add] using hc
    | succ j => simp at hu) (fun u hu => by simp at hu; subst hu; rfl) (by decide) hr (by unfold maxLen; omega) (by omega) hb
  refine ⟨g, off, k, w', h1, h2, h3.congr (by decide) (fun j hj i hi => ?_), h4, h5⟩
  by_cases hl : j < n
  · simp [snG, snc, hl]
  · have e : j = n := by omega
    have e2 : i = 0 := by omega
    subst e e2
    simp [snG, snc]
/-- a wire appended -/
theorem add_wire (W : World) (base : Nat) (v : Value) (n : Nat) (t : Nat → ByteArray) (h : Nat → Bool) (b : ByteArray) (x : Bool) (ty : TypeId) (g0 o0 c : Nat) (hc : W.cell? ⟨g0, o0, none⟩ = some (.string b)) (hc2 : W.cell? ⟨g0, o0 + 1, none⟩ = some (.bool x)) (hr : Rg W base v 2 n (wF t h)) (hn : n ≤ 1048576) (hb : base ≤ W.heap.size) :
    ∃ g off k w', (Builtin.append_ #[28, 28] ty #[v, .slice (some ⟨g0, o0, none⟩) 1 c]).run Try.prog W = .ok (.slice (some ⟨g, off, none⟩) (n + 1) k) w' ∧ W.grownBy w' (rb v) ∧ Rg w' base (.slice (some ⟨g, off, none⟩) (n + 1) k) 2 (n + 1) (wF (snc t n b) (snc h n x)) ∧ (rb v = some g ∨ W.heap.size ≤ g) ∧ Rg w' base v 2 n (wF t h) := by
  obtain ⟨i0, hi, hz0, hz1, hz2⟩ := info_parts infoWi
  obtain ⟨g, off, k, w', h1, h2, h3, h4, h5⟩ := append_rg W base v 2 n 1 24 (wF t h) 28 ty 73 i0 (.agg #[.string ⟨#[]⟩, .bool false]) Try.underlying28 hi hz0 hz1 hz2 rfl (by decide) ⟨g0, o0, none⟩ c [.string b, .bool x] rfl (fun j u hu => by
    match j with
    | 0 => simp at hu; subst hu; rw [addr_add]; exact hc
    | 1 => simp at hu; subst hu; rw [addr_add]; exact hc2
    | j + 2 => simp at hu) (fun u hu => by simp at hu; rcases hu with rfl | rfl <;> rfl) (by decide) hr (by unfold maxLen; omega) (by omega) hb
  refine ⟨g, off, k, w', h1, h2, h3.congr (by decide) (fun j hj i hi => ?_), h4, h5⟩
  by_cases hl : j < n
  · simp [snG, snc, hl, wF]
  · have e : j = n := by omega
    subst e
    match i, hi with
    | 0, _ => simp [snG, snc, wF]
    | 1, _ => simp [snG, snc, wF]
theorem Lr.put_wa {w w' : World} {base n' : Nat} {wv gv dv uv v' : Value} {p : Lk} {s' : Nat → ByteArray} (hr : Lr w base wv gv dv uv p) (hgr : w.grownBy w' (rb wv)) (hn : Rg w' base v' 1 n' (tF s')) (hb : ∀ g, rb v' = some g → rb wv = some g ∨ w.heap.size ≤ g) : Lr w' base v' gv dv uv { p with nw := n', ws := s' } := by
  have l1 := hr.wa.lt
  have l2 := hr.go.lt
  have l3 := hr.dn.lt
  have l4 := hr.up.lt
  refine ⟨hn, hr.go.kept hgr (fun g hg e => (hr.aw g e).1 hg), hr.dn.kept hgr (fun g hg e => (hr.aw g e).2.1 hg), hr.up.kept hgr (fun g hg e => (hr.aw g e).2.2 hg), fun g hg => ⟨fun e => ?_, fun e => ?_, fun e => ?_⟩, fun g hg => ⟨fun e => ?_, fun e => ?_⟩, fun g hg e => ?_⟩
  · rcases hb g hg with q | q
    · exact (hr.aw g q).1 e
    · have := (l2 g e).2; omega
  · rcases hb g hg with q | q
    · exact (hr.aw g q).2.1 e
    · have := (l3 g e).2; omega
  · rcases hb g hg with q | q
    · exact (hr.aw g q).2.2 e
    · have := (l4 g e).2; omega
  · exact (hr.ag g hg).1 e
  · exact (hr.ag g hg).2 e
  · exact (hr.ad g hg) e
theorem Lr.put_go {w w' : World} {base n' : Nat} {wv gv dv uv v' : Value} {p : Lk} {s' : Nat → ByteArray} (hr : Lr w base wv gv dv uv p) (hgr : w.grownBy w' (rb gv)) (hn : Rg w' base v' 1 n' (tF s')) (hb : ∀ g, rb v' = some g → rb gv = some g ∨ w.heap.size ≤ g) : Lr w' base wv v' dv uv { p with ng := n', gs := s' } := by
  have l1 := hr.wa.lt
  have l2 := hr.go.lt
  have l3 := hr.dn.lt
  have l4 := hr.up.lt
  refine ⟨hr.wa.kept hgr (fun g hg e => (hr.aw g hg).1 e), hn, hr.dn.kept hgr (fun g hg e => (hr.ag g e).1 hg), hr.up.kept hgr (fun g hg e => (hr.ag g e).2 hg), fun g hg => ⟨fun e => ?_, fun e => ?_, fun e => ?_⟩, fun g hg => ⟨fun e => ?_, fun e => ?_⟩, fun g hg e => ?_⟩
  · rcases hb g e with q | q
    · exact (hr.aw g hg).1 q
    · have := (l1 g hg).2; omega
  · exact (hr.aw g hg).2.1 e
  · exact (hr.aw g hg).2.2 e
  · rcases hb g hg with q | q
    · exact (hr.ag g q).1 e
    · have := (l3 g e).2; omega
  · rcases hb g hg with q | q
    · exact (hr.ag g q).2 e
    · have := (l4 g e).2; omega
  · exact (hr.ad g hg) e
theorem Lr.put_dn {w w' : World} {base n' : Nat} {wv gv dv uv v' : Value} {p : Lk} {s' : Nat → ByteArray} {h' : Nat → Bool} (hr : Lr w base wv gv dv uv p) (hgr : w.grownBy w' (rb dv)) (hn : Rg w' base v' 2 n' (wF s' h')) (hb : ∀ g, rb v' = some g → rb dv = some g ∨ w.heap.size ≤ g) : Lr w' base wv gv v' uv { p with nd := n', dt := s', dh := h' } := by
  have l1 := hr.wa.lt
  have l2 := hr.go.lt
  have l3 := hr.dn.lt
  have l4 := hr.up.lt
  refine ⟨hr.wa.kept hgr (fun g hg e => (hr.aw g hg).2.1 e), hr.go.kept hgr (fun g hg e => (hr.ag g hg).1 e), hn, hr.up.kept hgr (fun g hg e => (hr.ad g e) hg), fun g hg => ⟨fun e => ?_, fun e => ?_, fun e => ?_⟩, fun g hg => ⟨fun e => ?_, fun e => ?_⟩, fun g hg e => ?_⟩
  · exact (hr.aw g hg).1 e
  · rcases hb g e with q | q
    · exact (hr.aw g hg).2.1 q
    · have := (l1 g hg).2; omega
  · exact (hr.aw g hg).2.2 e
  · rcases hb g e with q | q
    · exact (hr.ag g hg).1 q
    · have := (l2 g hg).2; omega
  · exact (hr.ag g hg).2 e
  · rcases hb g hg with q | q
    · exact (hr.ad g q) e
    · have := (l4 g e).2; omega
theorem Lr.put_up {w w' : World} {base n' : Nat} {wv gv dv uv v' : Value} {p : Lk} {s' : Nat → ByteArray} {h' : Nat → Bool} (hr : Lr w base wv gv dv uv p) (hgr : w.grownBy w' (rb uv)) (hn : Rg w' base v' 2 n' (wF s' h')) (hb : ∀ g, rb v' = some g → rb uv = some g ∨ w.heap.size ≤ g) : Lr w' base wv gv dv v' { p with nu := n', ut := s', uh := h' } := by
  have l1 := hr.wa.lt
  have l2 := hr.go.lt
  have l3 := hr.dn.lt
  have l4 := hr.up.lt
  refine ⟨hr.wa.kept hgr (fun g hg e => (hr.aw g hg).2.2 e), hr.go.kept hgr (fun g hg e => (hr.ag g hg).2 e), hr.dn.kept hgr (fun g hg e => (hr.ad g hg) e), hn, fun g hg => ⟨fun e => ?_, fun e => ?_, fun e => ?_⟩, fun g hg => ⟨fun e => ?_, fun e => ?_⟩, fun g hg e => ?_⟩
  · exact (hr.aw g hg).1 e
  · exact (hr.aw g hg).2.1 e
  · rcases hb g e with q | q
    · exact (hr.aw g hg).2.2 q
    · have := (l1 g hg).2; omega
  · exact (hr.ag g hg).1 e
  · rcases hb g e with q | q
    · exact (hr.ag g hg).2 q
    · have := (l2 g hg).2; omega
  · rcases hb g e with q | q
    · exact (hr.ad g hg) q
    · have := (l3 g hg).2; omega

end Go.Proofs.Ytnkocikbapbbmaa
