/- HbA -/
import Derived.Test.YtlalldlbgnlbjaaGreatDoorYomeGot2
import Derived.Test.YtlalldlbgnlbjaaGreatDoorChecked
import Derived.Laws.Rows
import Derived.Laws.OwnMore
import Derived.Laws.ResultCell
import Derived.OneCell
import Derived.BigQuiet
import Derived.WalkSmall
import Derived.OwnWalk
import Derived.Deep.QuietTactic
import Derived.Deep.RegionLaw
import Derived.Deep.RegionHeld
import Derived.Deep.RegionHeld3
import Derived.ArgAppend
import Derived.Deep.AppendLies
/- rows with room, whatever their cells hold (written by mkHbA.py out of the links' texts) -/
namespace Go.Proofs.YtlalldlbgnlbjaaGreatDoor
open Go.RowKit
set_option linter.unusedVariables false
set_option linter.unusedSimpArgs false

theorem far_set {w : World} {g i k : Nat} {v : Value} (h : i ≠ k) : (w.setCell ⟨g, i, none⟩ v).cell? ⟨g, k, none⟩ = w.cell? ⟨g, k, none⟩ := World.cell?_setCell_other _ _ _ _ (fun e => h (congrArg Addr.off e))
/-- a block of cells, not frozen, of len cells at least -/
def Wc (w : World) (g len : Nat) : Prop := ∃ cur T, w.heap[g]? = some (.cells cur T (0, 0)) ∧ len ≤ cur.size
theorem Wc.facts {w : World} {g len : Nat} (h : Wc w g len) : (∀ i, w.frozen? ⟨g, i, none⟩ = false) ∧ ∀ i, i < len → ∃ o, w.cell? ⟨g, i, none⟩ = some o := by
  obtain ⟨cur, T, h1, h2⟩ := h
  refine ⟨fun i => frozen_of_row _ _ i _ _ h1, fun i hi => ⟨cur[i]'(by omega), ?_⟩⟩
  rw [cell_of_row _ _ _ _ _ _ h1]
  exact Array.getElem?_eq_getElem (by omega)
theorem Wc.set {w : World} {g len B i : Nat} (h : Wc w g len) (v : Value) : Wc (w.setCell ⟨B, i, none⟩ v) g len := by
  obtain ⟨cur, T, h1, h2⟩ := h
  by_cases e : B = g
  · subst e
    exact ⟨_, T, heap_setCell_same w B i _ _ v h1, by simpa using h2⟩
  · exact ⟨cur, T, by rw [heap_setCell_other _ _ _ _ (fun h => e h.symm)]; exact h1, h2⟩
theorem Wc.below {w w' : World} {g len : Nat} (h : Wc w g len) (hb : Below w.heap.size w w') : Wc w' g len := by
  obtain ⟨cur, T, h1, h2⟩ := h
  exact ⟨cur, T, (hb.block g (lt_of_block h1)).trans h1, h2⟩
theorem Wc.lt {w : World} {g len : Nat} (h : Wc w g len) : g < w.heap.size := by obtain ⟨cur, T, h1, _⟩ := h; exact lt_of_block h1

/-- a change in no block but those of S -/
structure Chg (S : Nat → Prop) (w w' : World) : Prop where
  os : w'.os = w.os
  tape : w'.tape = w.tape
  output : w'.output = w.output
  size : w.heap.size ≤ w'.heap.size
  block : ∀ j, j < w.heap.size → ¬ S j → w'.heap[j]? = w.heap[j]?
  keep : ∀ j len, Wc w j len → Wc w' j len
theorem Chg.refl (S : Nat → Prop) (w : World) : Chg S w w := ⟨rfl, rfl, rfl, Nat.le_refl _, fun _ _ _ => rfl, fun _ _ h => h⟩
theorem Chg.trans {S : Nat → Prop} {w w1 w2 : World} (h : Chg S w w1) (h' : Chg S w1 w2) : Chg S w w2 :=
  ⟨h'.os.trans h.os, h'.tape.trans h.tape, h'.output.trans h.output, Nat.le_trans h.size h'.size, fun j hj hs => (h'.block j (Nat.lt_of_lt_of_le hj h.size) hs).trans (h.block j hj hs), fun j len hw => h'.keep j len (h.keep j len hw)⟩
theorem Chg.mono {S R : Nat → Prop} {w w1 : World} (h : Chg S w w1) (hs : ∀ j, S j → R j) : Chg R w w1 :=
  ⟨h.os, h.tape, h.output, h.size, fun j hj hr => h.block j hj (fun s => hr (hs j s)), h.keep⟩
theorem Chg.set {S : Nat → Prop} {w w1 : World} (h : Chg S w w1) {B i : Nat} (hS : S B) (v : Value) : Chg S w (w1.setCell ⟨B, i, none⟩ v) := by
  have hb : Below 0 w1 (w1.setCell ⟨B, i, none⟩ v) := (Below.refl 0 w1).setCell (Nat.zero_le _) v
  exact h.trans ⟨hb.os, hb.tape, hb.output, hb.size, fun j hj hs => heap_setCell_other _ _ _ _ (fun e => hs (by subst e; exact hS)), fun j len hw => hw.set v⟩
theorem Chg.alloc {S : Nat → Prop} {w w1 : World} (h : Chg S w w1) (o : Obj) : Chg S w (w1.alloc o) := by
  have hb : Below w1.heap.size w1 (w1.alloc o) := (Below.refl _ w1).alloc (Nat.le_refl _) o
  exact h.trans ⟨hb.os, hb.tape, hb.output, hb.size, fun j hj _ => hb.block j hj, fun j len hw => hw.below hb⟩
theorem Chg.cell {S : Nat → Prop} {w w1 : World} (h : Chg S w w1) {g i : Nat} {v : Value} (hS : ¬ S g) (hc : w.cell? ⟨g, i, none⟩ = some v) : w1.cell? ⟨g, i, none⟩ = some v := by
  have hlt : g < w.heap.size := by
    by_cases hg : g < w.heap.size
    · exact hg
    · exfalso
      have hn : w.heap[g]? = none := Array.getElem?_eq_none (by omega)
      simp [World.cell?, hn] at hc
  have hb := h.block g hlt hS
  simp only [World.cell?] at hc ⊢
  rw [hb]; exact hc

theorem Chg.below {S : Nat → Prop} {w w1 w2 : World} (h : Chg S w w1) (hb : Below w1.heap.size w1 w2) : Chg S w w2 :=
  h.trans ⟨hb.os, hb.tape, hb.output, hb.size, fun j hj _ => hb.block j hj, fun j len hw => hw.below hb⟩
/-- a row of n structs of m cells -/
def Sg (w : World) (v : Value) (m n : Nat) (f : Nat → Nat → Value) : Prop :=
  ∃ ad cap, v = .slice ad n cap ∧ (0 < n → ∃ b off, ad = some ⟨b, off, none⟩ ∧ ∀ j, j < n → ∀ i, i < m → w.cell? ⟨b, off + j * m + i, none⟩ = some (f j i))
theorem Sg.below {w w' : World} {v : Value} {m n : Nat} {f : Nat → Nat → Value} (h : Sg w v m n f) (hb : Below w.heap.size w w') : Sg w' v m n f := by
  obtain ⟨ad, cap, rfl, h⟩ := h
  refine ⟨ad, cap, rfl, fun hp => ?_⟩
  obtain ⟨b, off, rfl, hc⟩ := h hp
  exact ⟨b, off, rfl, fun j hj i hi => keepc hb (hc j hj i hi)⟩
theorem addrN (b o n : Nat) : (⟨b, o, none⟩ : Addr).add n = ⟨b, o + n, none⟩ := by
  by_cases h : n = 0 <;> simp [Addr.add, h]
/-- a row's cells, n structs of m -/
def rowG (m n : Nat) (f : Nat → Nat → Value) : List Value := (List.range (n * m)).map fun x => f (x / m) (x % m)
theorem rowG_len (m n : Nat) (f : Nat → Nat → Value) : (rowG m n f).length = n * m := by simp [rowG]
theorem rowG_get {m n x : Nat} {f : Nat → Nat → Value} (h : x < n * m) : (rowG m n f)[x]? = some (f (x / m) (x % m)) := by simp [rowG, h]
/-- the block behind a slice that has room at all -/
def rb : Value → Option Nat
  | .slice (some a) _ (_ + 1) => some a.block
  | _ => none
theorem rb_some {g off n k : Nat} (hk : 0 < k) : rb (.slice (some ⟨g, off, none⟩) n k) = some g := by
  cases k with
  | zero => omega
  | succ k => rfl
theorem rb_zero (ad : Option Addr) (n : Nat) : rb (.slice ad n 0) = none := by cases ad <;> rfl
/-- a row with room: nothing and no room, or cells of a block up to its capacity -/
def Rg (w : World) (base : Nat) (v : Value) (m n : Nat) (f : Nat → Nat → Value) : Prop :=
  ((∃ ad, v = .slice ad 0 0) ∧ n = 0) ∨ ∃ g off k, v = .slice (some ⟨g, off, none⟩) n k ∧ n ≤ k ∧ 0 < k ∧ k ≤ maxLen ∧ base ≤ g ∧ Wc w g (off + k * m) ∧ ∀ x, x < n * m → w.cell? ⟨g, off + x, none⟩ = some (f (x / m) (x % m))
theorem Rg.below {w w' : World} {base : Nat} {v : Value} {m n : Nat} {f : Nat → Nat → Value} (h : Rg w base v m n f) (hb : Below w.heap.size w w') : Rg w' base v m n f := by
  rcases h with h | ⟨g, off, k, e, h1, hp, h0, h2, h3, h4⟩
  · exact .inl h
  · exact .inr ⟨g, off, k, e, h1, hp, h0, h2, h3.below hb, fun x hx => keepc hb (h4 x hx)⟩
/-- another block is changed -/
theorem Rg.kept {w w' : World} {base : Nat} {v : Value} {m n : Nat} {f : Nat → Nat → Value} {row : Option Nat} (h : Rg w base v m n f) (hg : w.grownBy w' row) (hne : ∀ g, rb v = some g → row ≠ some g) : Rg w' base v m n f := by
  rcases h with h | ⟨g, off, k, rfl, h1, hp, h0, h2, ⟨cur, T, h3, h5⟩, h4⟩
  · exact .inl h
  · have hb := hg.block g (lt_of_block h3) (fun e => hne g (rb_some hp) e.symm)
    exact .inr ⟨g, off, k, rfl, h1, hp, h0, h2, ⟨cur, T, hb.trans h3, h5⟩, fun x hx => by rw [World.cell?_of_block (a := ⟨g, off + x, none⟩) hb]; exact h4 x hx⟩
theorem Rg.sg {w : World} {base : Nat} {v : Value} {m n : Nat} {f : Nat → Nat → Value} (h : Rg w base v m n f) : Sg w v m n f := by
  rcases h with ⟨⟨ad, rfl⟩, rfl⟩ | ⟨g, off, k, rfl, h1, _, h0, h2, h3, h4⟩
  · exact ⟨ad, 0, rfl, fun hp => absurd hp (by simp)⟩
  · refine ⟨_, k, rfl, fun _ => ⟨g, off, rfl, fun j hj i hi => ?_⟩⟩
    have hx : j * m + i < n * m := by
      have q1 : (j + 1) * m ≤ n * m := Nat.mul_le_mul_right _ hj
      have q2 : (j + 1) * m = j * m + m := Nat.succ_mul j m
      omega
    have := h4 (j * m + i) hx
    have e1 : (j * m + i) / m = j := by rw [Nat.mul_comm, Nat.mul_add_div (by omega)]; simp [Nat.div_eq_of_lt hi]
    have e2 : (j * m + i) % m = i := by rw [Nat.mul_comm, Nat.mul_add_mod]; exact Nat.mod_eq_of_lt hi
    rw [e1, e2, ← Nat.add_assoc] at this
    exact this
theorem Rg.lt {w : World} {base : Nat} {v : Value} {m n : Nat} {f : Nat → Nat → Value} (h : Rg w base v m n f) : ∀ g, rb v = some g → base ≤ g ∧ g < w.heap.size := by
  intro g hg
  rcases h with ⟨⟨ad, rfl⟩, rfl⟩ | ⟨g', off, k, rfl, h1, hp, h0, h2, h3, h4⟩
  · rw [rb_zero] at hg; cases hg
  · rw [rb_some hp] at hg
    cases hg
    exact ⟨h2, h3.lt⟩
theorem Rg.form {w : World} {base : Nat} {v : Value} {m n : Nat} {f : Nat → Nat → Value} (h : Rg w base v m n f) : ∃ a k, v = .slice a n k ∧ n ≤ k := by
  rcases h with ⟨⟨ad, rfl⟩, rfl⟩ | ⟨g, off, k, rfl, h1, _⟩
  · exact ⟨ad, 0, rfl, Nat.le_refl _⟩
  · exact ⟨_, _, rfl, h1⟩
theorem own_rg {w : World} {base : Nat} {T : TypeId} {m n : Nat} {v : Value} {xs : List Value} {f : Nat → Nat → Value} (h : w.ownsRow base T m v n xs) (hf : ∀ x, x < n * m → xs[x]? = some (f (x / m) (x % m))) : Rg w base v m n f := by
  rcases h.2 with ⟨h', hn⟩ | ⟨g, cap, cur, h', hb, hg, hnc, hcm, hcs, _⟩
  · exact .inl ⟨⟨none, h'⟩, hn⟩
  · have hh : w.ownsRow base T m (.slice (some ⟨g, 0, none⟩) n cap) n xs := h' ▸ h
    by_cases hp : cap = 0
    · subst hp
      have hn : n = 0 := by omega
      subst hn
      exact .inl ⟨⟨_, h'⟩, rfl⟩
    refine .inr ⟨g, 0, cap, h', hnc, by omega, hcm, hb, ⟨cur, T, hg, by rw [hcs]; omega⟩, fun x hx => ?_⟩
    rw [Nat.zero_add, hh.cellAt x hx, hf x hx]
/-- what was there, what is new -/
def snG (m n : Nat) (f : Nat → Nat → Value) (news : List Value) : Nat → Nat → Value := fun j i => if j < n then f j i else news.getD ((j - n) * m + i) undef
theorem sn_list {m n mm : Nat} {f : Nat → Nat → Value} {news : List Value} (hm : 0 < m) (hl : news.length = mm * m) : ∀ x, x < (n + mm) * m → (rowG m n f ++ news)[x]? = some (snG m n f news (x / m) (x % m)) := by
  intro x hx
  by_cases h : x < n * m
  · rw [List.getElem?_append_left (by rw [rowG_len]; exact h), rowG_get h]
    have : x / m < n := Nat.div_lt_of_lt_mul (by rw [Nat.mul_comm]; exact h)
    simp [snG, this]
  · have hge : n ≤ x / m := (Nat.le_div_iff_mul_le hm).2 (by omega)
    rw [List.getElem?_append_right (by rw [rowG_len]; omega), rowG_len]
    have hlt : x - n * m < news.length := by rw [hl]; rw [Nat.add_mul] at hx; omega
    have e : (x / m - n) * m + x % m = x - n * m := by
      have h1 := Nat.div_add_mod x m
      rw [Nat.mul_comm] at h1
      rw [Nat.sub_mul]
      have h2 : n * m ≤ x / m * m := Nat.mul_le_mul_right _ hge
      omega
    simp only [snG, if_neg (show ¬ x / m < n by omega), e]
    simp [List.getElem?_eq_getElem hlt]

theorem append_rg (W : World) (base : Nat) (v : Value) (m n mm bytes : Nat) (f : Nat → Nat → Value) (t ty e : TypeId) (i0 : TypeInfo) (z : Value) (ht : Tryz.prog.underlying t = some (.slice e)) (hi : Tryz.prog.info? e = some i0) (hz0 : i0.zero = some z) (hz1 : i0.size = m) (hz2 : i0.bytes = bytes) (hzs : z.cells.size = m) (hm : 0 < m)
    (ad : Addr) (c : Nat) (news : List Value) (hl : news.length = mm * m) (hnews : ∀ j u, news[j]? = some u → W.cell? (ad.add j) = some u) (h1 : ∀ u ∈ news, u.oneCell' = true) (hmm : 0 < mm) (hr : Rg W base v m n f) (h63 : n + mm ≤ maxLen) (hby : (n + mm) * bytes ≤ 140737488355328) (hb : base ≤ W.heap.size) :
    ∃ g off k w', (Builtin.append_ #[t, t] ty #[v, .slice (some ad) mm c]).run Tryz.prog W = .ok (.slice (some ⟨g, off, none⟩) (n + mm) k) w' ∧ W.grownBy w' (rb v) ∧ Rg w' base (.slice (some ⟨g, off, none⟩) (n + mm) k) m (n + mm) (snG m n f news) ∧ (rb v = some g ∨ W.heap.size ≤ g) ∧ Rg w' base v m n f := by
  rcases hr with ⟨⟨ad0, rfl⟩, rfl⟩ | ⟨g, off, k, rfl, hk, hkp, hkm, hg, hw, hc⟩
  · obtain ⟨v', w', hrn, hown, hgr⟩ : ∃ v' w', (Builtin.append_ #[t, t] ty #[.slice ad0 0 0, .slice (some ad) mm c]).run Tryz.prog W = .ok v' w' ∧ w'.ownsRow W.heap.size e m v' (0 + mm) ([] ++ news) ∧ W.grownBy w' none := by
      cases ad0 with
      | none =>
        obtain ⟨g, k, w', hrn, hown, hgr, _, _⟩ := run_append_lies (P := Tryz.prog) W t ty W.heap.size e i0 z m bytes ht hi hz0 hz1 hz2 hzs hm (.slice none 0 0) 0 [] ⟨by simp, .inl ⟨rfl, rfl⟩⟩ ad mm c news hl hnews h1 hmm h63 hby (Nat.le_refl _) _ rfl
        exact ⟨_, w', hrn, hown, hgr⟩
      | some a0 => exact run_append_arg_grows (P := Tryz.prog) W t ty e i0 z m bytes ht hi hz0 hz1 hz2 hzs hm a0 0 0 [] (by simp) (by simp) ad mm c news hl hnews (by omega) h63 hby
    obtain ⟨g, k, rfl, q1, q2⟩ := World.ownsRow.form hown (by omega)
    rw [rb_zero]
    refine ⟨g, 0, k, w', hrn, hgr, ?_, .inr q1, .inl ⟨⟨_, rfl⟩, rfl⟩⟩
    have h2 := own_rg (f := snG m 0 f news) hown (fun x hx => by
      have := sn_list (n := 0) (f := f) hm hl x hx
      simpa [rowG] using this)
    rcases h2 with h2 | ⟨g', off', k', q1, q2, q3, q4, q5, q6⟩
    · exact .inl h2
    · exact .inr ⟨g', off', k', q1, q2, q3, q4, by omega, q6⟩
  · rw [rb_some hkp]
    have holds : ∀ j u, (rowG m n f)[j]? = some u → W.cell? ⟨g, off + j, none⟩ = some u := fun j u hu => by
      have hj : j < n * m := by
        have := (List.getElem?_eq_some_iff.1 hu).1
        rwa [rowG_len] at this
      rw [rowG_get hj] at hu
      rw [hc j hj]
      exact hu
    have hmk : n * m + mm * m = (n + mm) * m := (Nat.add_mul _ _ _).symm
    by_cases hroom : n + mm ≤ k
    · have hkk : (n + mm) * m ≤ k * m := Nat.mul_le_mul_right _ hroom
      have hwf := hw.facts
      have hrun := run_append_room_cells (P := Tryz.prog) W t ty e i0 ht hi g off n k ad mm c news (by rw [hz1]; exact hl) hnews h1 hroom (fun j hj => by
        rw [hz1]
        obtain ⟨o, ho⟩ := hwf.2 (off + n * m + j) (by rw [hl] at hj; omega)
        rw [ho]; rfl) (fun j hj => hwf.1 _)
      rw [hz1] at hrun
      have hthere : W.there g (off + n * m) news.length := fun x hx => by
        obtain ⟨o, ho⟩ := hwf.2 (off + n * m + x) (by rw [hl] at hx; omega)
        exact ⟨by rw [ho]; rfl, hwf.1 _⟩
      obtain ⟨hgr, hw2⟩ : W.grownBy (W.setCells g (off + n * m) news) (some g) ∧ ∀ g' len, Wc W g' len → Wc (W.setCells g (off + n * m) news) g' len := by
        clear hrun hthere holds hc hwf hnews h1 hl
        generalize off + n * m = o
        induction news generalizing W o with
        | nil => exact ⟨⟨rfl, rfl, rfl, Nat.le_refl _, fun _ _ _ => rfl⟩, fun _ _ h => h⟩
        | cons u us ih =>
          have hb : Below 0 W (W.setCell ⟨g, o, none⟩ u) := (Below.refl 0 W).setCell (Nat.zero_le _) u
          obtain ⟨q1, q2⟩ := ih (W.setCell ⟨g, o, none⟩ u) (by have := hb.size; omega) (hw.set u) (o + 1)
          have q0 : W.grownBy (W.setCell ⟨g, o, none⟩ u) (some g) := ⟨hb.os, hb.tape, hb.output, hb.size, fun j hj hne => heap_setCell_other _ _ _ _ (fun e => hne (by rw [e]))⟩
          exact ⟨grown_trans q0 q1, fun g' len h => q2 g' len (h.set u)⟩
      refine ⟨g, off, k, _, hrun, hgr, .inr ⟨g, off, k, rfl, hroom, hkp, hkm, hg, hw2 _ _ hw, fun x hx => ?_⟩, .inl rfl, .inr ⟨g, off, k, rfl, hk, hkp, hkm, hg, hw2 _ _ hw, fun x hx => ?_⟩⟩
      rotate_left
      · rw [World.cell?_setCells_out g _ _ _ _ (fun _ _ => .inl (by show off + x < off + n * m; omega))]
        exact hc x hx
      have hx2 := sn_list (n := n) (f := f) hm hl x hx
      by_cases hlt : x < n * m
      · rw [List.getElem?_append_left (by rw [rowG_len]; exact hlt)] at hx2
        rw [World.cell?_setCells_out g _ _ _ _ (fun _ _ => .inl (by show off + x < off + n * m; omega))]
        exact holds x _ hx2
      · rw [List.getElem?_append_right (by rw [rowG_len]; omega), rowG_len] at hx2
        have := World.rangeAt_setCells_same W g (off + n * m) news hthere (x - n * m) _ hx2
        have e2 : off + n * m + (x - n * m) = off + x := by omega
        rwa [e2] at this
    · obtain ⟨v', w', hrn, hown, hgr⟩ := run_append_arg_grows (P := Tryz.prog) W t ty e i0 z m bytes ht hi hz0 hz1 hz2 hzs hm ⟨g, off, none⟩ n k (rowG m n f) (rowG_len _ _ _) (fun j u hu => by rw [addrN]; exact holds j u hu) ad mm c news hl hnews (by omega) h63 hby
      obtain ⟨g2, k2, rfl, q1, q2⟩ := World.ownsRow.form hown (by omega)
      have hg2 : W.grownBy w' (some g) := ⟨hgr.os, hgr.tape, hgr.output, hgr.size, fun j hj _ => hgr.block j hj (by simp)⟩
      have hold : Rg W base (.slice (some ⟨g, off, none⟩) n k) m n f := .inr ⟨g, off, k, rfl, hk, hkp, hkm, hg, hw, hc⟩
      refine ⟨g2, 0, k2, w', hrn, hg2, ?_, .inr q1, hold.kept hgr (fun _ _ q => by cases q)⟩
      have h2 := own_rg (f := snG m n f news) hown (sn_list hm hl)
      rcases h2 with h2 | ⟨g', off', k', r1, r2, r3, r4, r5, r6⟩
      · exact .inl h2
      · exact .inr ⟨g', off', k', r1, r2, r3, r4, by omega, r6⟩
theorem rb_blk {a : Addr} {n k g : Nat} (e : rb (.slice (some a) n k) = some g) : a.block = g := by
  cases k with
  | zero => rw [rb_zero] at e; cases e
  | succ k => simpa [rb] using e
/-- a row that is nil, or has a place -/
def Pl (v : Value) (n : Nat) : Prop := (v = .slice none 0 0 ∧ n = 0) ∨ ∃ a k, v = .slice (some a) n k
theorem Rg.news {w : World} {m n : Nat} {f : Nat → Nat → Value} {a : Addr} {k : Nat} (hm : 0 < m) (h : Sg w (.slice (some a) n k) m n f) : ∀ j u, (rowG m n f)[j]? = some u → w.cell? (a.add j) = some u := by
  intro j u hu
  have hj : j < n * m := by
    have := (List.getElem?_eq_some_iff.1 hu).1
    rwa [rowG_len] at this
  rw [rowG_get hj] at hu
  obtain ⟨ad, cap, e, hc⟩ := h
  simp only [Value.slice.injEq] at e
  obtain ⟨rfl, _, rfl⟩ := e
  have hn : 0 < n := by
    rcases Nat.eq_zero_or_pos n with h0 | h0
    · subst h0; simp at hj
    · exact h0
  obtain ⟨b, off, e, hd⟩ := hc hn
  cases e
  have h1 : j / m < n := Nat.div_lt_of_lt_mul (by rw [Nat.mul_comm]; exact hj)
  have := hd (j / m) h1 (j % m) (Nat.mod_lt _ hm)
  rw [addrN]
  have e2 : off + j = off + j / m * m + j % m := by have := Nat.div_add_mod j m; rw [Nat.mul_comm] at this; omega
  rw [e2, this]
  exact hu
theorem Rg.base {w : World} {base base' : Nat} {v : Value} {m n : Nat} {f : Nat → Nat → Value} (h : Rg w base v m n f) (hb : base' ≤ base) : Rg w base' v m n f := by
  rcases h with h | ⟨g, off, k, e, h1, hp, h0, h2, h3⟩
  · exact .inl h
  · exact .inr ⟨g, off, k, e, h1, hp, h0, by omega, h3⟩
theorem Rg.congr {w : World} {base m n : Nat} {v : Value} {f f' : Nat → Nat → Value} (h : Rg w base v m n f) (hm : 0 < m) (he : ∀ j, j < n → ∀ i, i < m → f j i = f' j i) : Rg w base v m n f' := by
  rcases h with h | ⟨g, off, k, e, h1, hp, h0, h2, h3, h4⟩
  · exact .inl h
  · refine .inr ⟨g, off, k, e, h1, hp, h0, h2, h3, fun x hx => ?_⟩
    rw [h4 x hx, he (x / m) (Nat.div_lt_of_lt_mul (by rw [Nat.mul_comm]; exact hx)) (x % m) (Nat.mod_lt _ hm)]
theorem rg_nil (w : World) (base m : Nat) (f : Nat → Nat → Value) : Rg w base (.slice none 0 0) m 0 f := .inl ⟨⟨none, rfl⟩, rfl⟩
theorem Rg.rows {w : World} {base n : Nat} {a : Option Addr} {c m : Nat} {f : Nat → Nat → Value} (h : Rg w base (.slice a n c) m n f) (hn : 0 < n) : ∃ g off, a = some ⟨g, off, none⟩ ∧ n ≤ c ∧ c ≤ maxLen ∧ base ≤ g ∧ Wc w g (off + c * m) ∧ ∀ x, x < n * m → w.cell? ⟨g, off + x, none⟩ = some (f (x / m) (x % m)) := by
  rcases h with ⟨_, h⟩ | ⟨g, off, k, he, h1, hp, h0, h2, hwc, h4⟩
  · omega
  · simp only [Value.slice.injEq, true_and] at he
    obtain ⟨rfl, rfl⟩ := he
    exact ⟨g, off, rfl, h1, h0, h2, hwc, h4⟩
theorem Rg.rbpos {w : World} {base n g off c : Nat} {m : Nat} {f : Nat → Nat → Value} (h : Rg w base (.slice (some ⟨g, off, none⟩) n c) m n f) (hn : 0 < n) : rb (.slice (some ⟨g, off, none⟩) n c) = some g := by
  obtain ⟨_, _, _, h1, _⟩ := h.rows hn
  exact rb_some (by omega)
end Go.Proofs.YtlalldlbgnlbjaaGreatDoor
