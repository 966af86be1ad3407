/- StA, StB, StC, in one text (written by mkMerge.py) -/
import Derived.Test.YtneofegnbflfiaaDtX
import Derived.ArgAppend
/- buffers with room: one store more, in place or in a new row -/
namespace Go.Proofs.Ytneofegnbflfiaa
open Go.RowKit
set_option linter.unusedVariables false
set_option linter.unusedSimpArgs false

/-- a buffer's room: nil, or cells of a block of its own up to its capacity -/
def Rm (w : World) (base : Nat) (v : Value) (n : Nat) (tag : Nat → Nat) (t : Nat) : Prop :=
  (v = .slice none 0 0 ∧ n = 0) ∨ ∃ g off k, v = .slice (some ⟨g, off, none⟩) n k ∧ n ≤ k ∧ base ≤ g ∧ Wc w g (off + k * 2) ∧ tag g = t
theorem Rm.wk {w w' : World} {base n t : Nat} {v : Value} {tag tag' : Nat → Nat} (h : Rm w base v n tag t) (hw : ∀ g len, Wc w g len → tag g = t → Wc w' g len) (ht : ∀ g, g < w.heap.size → tag g = t → tag' g = t) : Rm w' base v n tag' t := by
  rcases h with h | ⟨g, off, k, e, h1, h2, h3, h4⟩
  · exact .inl h
  · exact .inr ⟨g, off, k, e, h1, h2, hw g _ h3 h4, ht g h3.lt h4⟩
theorem Rm.below {w w' : World} {base n t : Nat} {v : Value} {tag : Nat → Nat} (h : Rm w base v n tag t) (hb : Below w.heap.size w w') : Rm w' base v n tag t := h.wk (fun g len hw _ => hw.below hb) (fun g _ e => e)
theorem Rm.form {w : World} {base n t : Nat} {v : Value} {tag : Nat → Nat} (h : Rm w base v n tag t) : ∃ a k, v = .slice a n k ∧ n ≤ k := by
  rcases h with ⟨e, h0⟩ | ⟨g, off, k, e, h1, _⟩
  · exact ⟨none, 0, by rw [h0]; exact e, by omega⟩
  · exact ⟨_, _, e, h1⟩
theorem own_room {w : World} {base : Nat} {T : TypeId} {n : Nat} {v : Value} {xs : List Value} (h : w.ownsRow base T 2 v n xs) (hp : 0 < n) : ∃ g k, v = .slice (some ⟨g, 0, none⟩) n k ∧ n ≤ k ∧ base ≤ g ∧ Wc w g (0 + k * 2) := by
  rcases h.2 with ⟨h', hn⟩ | ⟨g', cap', cur, h', hb, hg, hnc, _, hcs, _⟩
  · omega
  · exact ⟨g', cap', h', hnc, hb, cur, T, hg, by rw [hcs]; omega⟩
theorem own_rm {w : World} {base : Nat} {T : TypeId} {n t : Nat} {v : Value} {xs : List Value} {tag : Nat → Nat} (h : w.ownsRow base T 2 v n xs) (ht : ∀ g, v.ownBlock = some g → tag g = t) : Rm w base v n tag t := by
  rcases h.2 with ⟨h', hn⟩ | ⟨g', cap', cur, h', hb, hg, hnc, _, hcs, _⟩
  · exact .inl ⟨h', hn⟩
  · exact .inr ⟨g', 0, cap', h', hnc, hb, ⟨cur, T, hg, by rw [hcs]; omega⟩, ht g' (by rw [h']; rfl)⟩

/-- a Tso whose buffers have room; what the tags were at first, for the blocks below n0 -/
structure Tr (tag0 : Nat → Nat) (n0 : Nat) (w : World) (base : Nat) (mv bv rv : Value) (zs : List Int) (C : Nat) (L : Nat → Nat) (F : Nat → Nat → Nat → Int) (R : Nat) (Z : Nat → List Int) (vb vr : Nat → Value) (tag : Nat → Nat) : Prop where
  ta : Ta w base mv bv rv zs C L F R Z vb vr tag
  rm : ∀ c, c < C → Rm w base (vb c) (L c) tag (3 + 2 * c)
  kt : ∀ j, j < n0 → 100 ≤ tag0 j → tag j = tag0 j
  sz : n0 ≤ w.heap.size
theorem Tr.below {tag0 : Nat → Nat} {n0 : Nat} {w w' : World} {base : Nat} {mv bv rv : Value} {zs : List Int} {C : Nat} {L : Nat → Nat} {F : Nat → Nat → Nat → Int} {R : Nat} {Z : Nat → List Int} {vb vr : Nat → Value} {tag : Nat → Nat} (h : Tr tag0 n0 w base mv bv rv zs C L F R Z vb vr tag) (hb : Below w.heap.size w w') : Tr tag0 n0 w' base mv bv rv zs C L F R Z vb vr tag :=
  ⟨h.ta.below hb, fun c hc => (h.rm c hc).below hb, h.kt, Nat.le_trans h.sz hb.size⟩
theorem Tr.cap {tag0 : Nat → Nat} {n0 : Nat} {w : World} {base : Nat} {mv bv rv : Value} {zs : List Int} {C : Nat} {L : Nat → Nat} {F : Nat → Nat → Nat → Int} {R : Nat} {Z : Nat → List Int} {vb vr : Nat → Value} {tag : Nat → Nat} (h : Tr tag0 n0 w base mv bv rv zs C L F R Z vb vr tag) {c : Nat} (hc : c < C) : ∀ a n' cap, vb c = .slice a n' cap → n' ≤ cap := by
  intro a n' cap e
  obtain ⟨a2, k, e2, hk⟩ := (h.rm c hc).form
  rw [e] at e2
  simp only [Value.slice.injEq] at e2
  omega
/-- a cell of a block whose tag is another's -/
theorem Tr.set {tag0 : Nat → Nat} {n0 : Nat} {w w' : World} {base : Nat} {mv bv rv : Value} {zs zs' : List Int} {C : Nat} {L : Nat → Nat} {F : Nat → Nat → Nat → Int} {R : Nat} {Z Z' : Nat → List Int} {vb vr : Nat → Value} {tag : Nat → Nat} {B i : Nat} {v : Value} (h : Tr tag0 n0 w base mv bv rv zs C L F R Z vb vr tag) (hb : Below w.heap.size w w') (ta : Ta (w'.setCell ⟨B, i, none⟩ v) base mv bv rv zs' C L F R Z' vb vr tag) : Tr tag0 n0 (w'.setCell ⟨B, i, none⟩ v) base mv bv rv zs' C L F R Z' vb vr tag :=
  ⟨ta, fun c hc => (h.rm c hc).wk (fun g len hw _ => (hw.below hb).set v) (fun g _ e => e), h.kt, Nat.le_trans h.sz (by have := hb.size; have := (grown_set w' B i v).size; omega)⟩
theorem Tr.of_tc {w : World} {base : Nat} {mv bv rv : Value} {zs : List Int} {C : Nat} {L : Nat → Nat} {F : Nat → Nat → Nat → Int} {R : Nat} {Z : Nat → List Int} {vb vr : Nat → Value} {tag : Nat → Nat} (h : Tc w base mv bv rv zs C L F R Z vb vr tag) : Tr tag w.heap.size w base mv bv rv zs C L F R Z vb vr tag :=
  ⟨h.ta, fun c hc => own_rm (h.bo c hc) (h.tc c hc), fun _ _ _ => rfl, Nat.le_refl _⟩

/-- the cells of a row, by their list -/
theorem sr_of {w : World} {g off n k : Nat} {f : Nat → Nat → Int} (h : ∀ j u, (rowC 2 n n f)[j]? = some u → w.cell? ⟨g, off + j, none⟩ = some u) : Sr w (.slice (some ⟨g, off, none⟩) n k) 2 n f := by
  refine ⟨_, k, rfl, fun _ => ⟨g, off, rfl, fun j hj i hi => ?_⟩⟩
  have := h (j * 2 + i) (.int .i64 (f j i)) (by
    rw [rowC_get (by omega)]
    have e1 : (j * 2 + i) / 2 = j := by omega
    have e2 : (j * 2 + i) % 2 = i := by omega
    rw [e1, e2, if_pos hj])
  rw [← Nat.add_assoc] at this
  exact this

theorem append_rm (W : World) (base : Nat) (v : Value) (n : Nat) (f : Nat → Nat → Int) (tag : Nat → Nat) (t B : Nat) (va vl : Int) (ty : TypeId) (hr : Rm W base v n tag t) (hs : Sr W v 2 n f) (hB : W.heap[B]? = some (.cells #[.int .i64 va, .int .i64 vl] 35 (0, 0))) (hne : ∀ g, v.ownBlock = some g → g ≠ B) (hn : n ≤ 1000) (hb : base ≤ W.heap.size) :
    ∃ g off k w', (Builtin.append_ #[33, 33] ty #[v, .slice (some ⟨B, 0, none⟩) 1 1]).run Try.prog W = .ok (.slice (some ⟨g, off, none⟩) (n + 1) k) w' ∧ W.grownBy w' v.ownBlock ∧ n + 1 ≤ k ∧ base ≤ g ∧ Wc w' g (off + k * 2) ∧ (v.ownBlock = some g ∧ tag g = t ∨ W.heap.size ≤ g) ∧ Sr w' (.slice (some ⟨g, off, none⟩) (n + 1) k) 2 (n + 1) (snocF f n va vl) ∧ (∀ g' len, Wc W g' len → Wc w' g' len) := by
  obtain ⟨i0, hi, hz0, hz1, hz2⟩ := info_parts infoS
  have hnews : ∀ j u, ([.int .i64 va, .int .i64 vl] : List Value)[j]? = some u → W.cell? ((⟨B, 0, none⟩ : Addr).add j) = some u := World.news_of_block (cs := #[.int .i64 va, .int .i64 vl]) hB
  have h1 : ∀ u ∈ ([.int .i64 va, .int .i64 vl] : List Value), u.oneCell' = true := by intro x hx; simp at hx; rcases hx with hx | hx <;> subst hx <;> rfl
  rcases hr with ⟨rfl, rfl⟩ | ⟨g, off, k, rfl, hk, hg, hw, ht⟩
  · obtain ⟨g, k, w', hr, hown, hgr, hat, _⟩ := run_append_lies (P := Try.prog) W 33 ty W.heap.size 35 i0 _ 2 16 Try.underlying33 hi hz0 hz1 hz2 rfl (by omega) (.slice none 0 0) 0 [] ⟨rfl, .inl ⟨rfl, rfl⟩⟩ ⟨B, 0, none⟩ 1 1 [.int .i64 va, .int .i64 vl] (by rfl) hnews h1 (by omega) (by unfold maxLen; omega) (by omega) (Nat.le_refl _) _ rfl
    obtain ⟨g2, k2, e, q1, q2, q3⟩ := own_room hown (by omega)
    simp only [Value.slice.injEq, Option.some.injEq, Addr.mk.injEq] at e
    obtain ⟨⟨rfl, _, _⟩, _, rfl⟩ := e
    have hsn : ([] : List Value) ++ [.int .i64 va, .int .i64 vl] = rowC 2 (0 + 1) (0 + 1) (snocF f 0 va vl) := by rw [← rowC_snoc]; rfl
    rw [hsn] at hown
    exact ⟨g, 0, k, w', hr, hgr, q1, by omega, q3, .inr q2, Orow.sr hown, fun g' len hw => hw.grown hgr (by simp [Value.ownBlock])⟩
  · have holds : ∀ j u, (rowC 2 n n f)[j]? = some u → W.cell? ⟨g, off + j, none⟩ = some u := fun j u hu => by
      have := hs.news j u hu
      rwa [Addr.add_mid] at this
    by_cases hroom : n + 1 ≤ k
    · have hsz : i0.size = 2 := hz1
      have hwf := hw.facts
      have hrun := run_append_room_cells (P := Try.prog) W 33 ty 35 i0 Try.underlying33 hi g off n k ⟨B, 0, none⟩ 1 1 [.int .i64 va, .int .i64 vl] (by rw [hsz]; rfl) hnews h1 hroom (fun j hj => by
        have hj' : j < 2 := hj
        rw [hsz]
        obtain ⟨o, ho⟩ := hwf.2 (off + n * 2 + j) (by omega)
        rw [ho]; rfl) (fun j hj => hwf.1 _)
      rw [hsz] at hrun
      have hgr : W.grownBy (W.setCells g (off + n * 2) [.int .i64 va, .int .i64 vl]) (some g) := grown_trans (grown_set _ _ _ _) (grown_set _ _ _ _)
      have hw2 : ∀ g' len, Wc W g' len → Wc (W.setCells g (off + n * 2) [.int .i64 va, .int .i64 vl]) g' len := fun g' len h => (h.set _).set _
      refine ⟨g, off, k, _, hrun, hgr, hroom, hg, hw2 _ _ hw, .inl ⟨rfl, ht⟩, ?_, hw2⟩
      refine sr_of (fun j u hu => ?_)
      rw [← rowC_snoc] at hu
      by_cases hj : j < n * 2
      · rw [List.getElem?_append_left (by rw [rowC_length]; exact hj)] at hu
        rw [World.cell?_setCells_out g _ _ _ _ (fun _ _ => .inl (by show off + j < off + n * 2; omega))]
        exact holds j u hu
      · rw [List.getElem?_append_right (by rw [rowC_length]; omega), rowC_length] at hu
        have hthere : W.there g (off + n * 2) 2 := fun x hx => by
          obtain ⟨o, ho⟩ := hwf.2 (off + n * 2 + x) (by omega)
          exact ⟨by rw [ho]; rfl, hwf.1 _⟩
        have := World.rangeAt_setCells_same W g (off + n * 2) [.int .i64 va, .int .i64 vl] hthere (j - n * 2) u hu
        have e : off + n * 2 + (j - n * 2) = off + j := by omega
        rwa [e] at this
    · have hkn : k = n := by omega
      subst hkn
      obtain ⟨v', w', hr, hown, hgr⟩ := run_append_arg_grows (P := Try.prog) W 33 ty 35 i0 _ 2 16 Try.underlying33 hi hz0 hz1 hz2 rfl (by omega) ⟨g, off, none⟩ k k (rowC 2 k k f) (rowC_length _ _ _ _) hs.news ⟨B, 0, none⟩ 1 1 [.int .i64 va, .int .i64 vl] (by rfl) hnews (by omega) (by unfold maxLen; omega) (by omega)
      obtain ⟨g2, k2, rfl, q1, q2, q3⟩ := own_room hown (by omega)
      rw [rowC_snoc] at hown
      have hg2 : W.grownBy w' (Value.slice (some ⟨g, off, none⟩) k k).ownBlock := ⟨hgr.os, hgr.tape, hgr.output, hgr.size, fun j hj _ => hgr.block j hj (by simp)⟩
      exact ⟨g2, 0, k2, w', hr, hg2, q1, by omega, q3, .inr q2, Orow.sr hown, fun g' len hw => hw.grown hgr (by simp)⟩

end Go.Proofs.Ytneofegnbflfiaa

/- acts of a Tso whose buffers have room (written by mkSt.py) -/
namespace Go.Proofs.Ytneofegnbflfiaa
open Go.RowKit
set_option linter.unusedVariables false
set_option linter.unusedSimpArgs false

theorem Wc.less {w : World} {g len len' : Nat} (h : Wc w g len) (hl : len' ≤ len) : Wc w g len' := by
  obtain ⟨cur, T, h1, h2⟩ := h
  exact ⟨cur, T, h1, Nat.le_trans hl h2⟩
theorem Tr.drain {tag0 : Nat → Nat} {n0 : Nat} {w V : World} {base : Nat} {mv bv rv mv' bv' : Value} {zs zs' : List Int} {C : Nat} {L : Nat → Nat} {F F' : Nat → Nat → Nat → Int} {R : Nat} {Z : Nat → List Int} {vb vr : Nat → Value} {tag : Nat → Nat} {c g off ic bb bo : Nat} {u : Value} (h : Tr tag0 n0 w base mv bv rv zs C L F R Z vb vr tag) (hc : c < C) (hwk : ∀ g len, Wc w g len → Wc V g len) (hsz : w.heap.size ≤ V.heap.size) (ev : vb c = .slice (some ⟨g, off, none⟩) (L c) ic) (hu : (u = .slice (some ⟨g, off, none⟩) 0 0 ∧ L c = 1) ∨ (u = .slice (some ⟨g, off + 2, none⟩) (L c - 1) (ic - 1) ∧ 0 < L c))
    (ta : Ta (V.drew.setCell ⟨bb, bo + c, none⟩ u) base mv' bv' rv zs' C (upd L c (L c - 1)) F' R Z (upd vb c u) vr tag) : Tr tag0 n0 (V.drew.setCell ⟨bb, bo + c, none⟩ u) base mv' bv' rv zs' C (upd L c (L c - 1)) F' R Z (upd vb c u) vr tag := by
  have hw2 : ∀ g len, Wc w g len → Wc (V.drew.setCell ⟨bb, bo + c, none⟩ u) g len := fun g len hw => ((hwk g len hw).below ((Below.refl _ _).drew)).set _
  refine ⟨ta, fun c' hc' => ?_, h.kt, Nat.le_trans h.sz (Nat.le_trans hsz (grown_set V.drew bb (bo + c) u).size)⟩
  by_cases e : c' = c
  · subst e
    rw [upd_at, upd_at]
    rcases h.rm c' hc' with ⟨q, q0⟩ | ⟨g2, off2, k2, q, q1, q2, q3, q4⟩
    · rw [ev] at q; simp at q
    · rw [ev] at q
      simp only [Value.slice.injEq, Option.some.injEq, Addr.mk.injEq] at q
      obtain ⟨⟨rfl, rfl, _⟩, _, rfl⟩ := q
      rcases hu with ⟨rfl, h1⟩ | ⟨rfl, h1⟩
      · exact .inr ⟨g, off, 0, by rw [h1], by omega, q2, (hw2 _ _ q3).less (by omega), q4⟩
      · exact .inr ⟨g, off + 2, ic - 1, rfl, by omega, q2, (hw2 _ _ q3).less (by omega), q4⟩
  · rw [upd_ne e, upd_ne e]
    exact (h.rm c' hc').wk (fun g len hw _ => hw2 g len hw) (fun g _ e => e)
theorem Tr.store {tag0 : Nat → Nat} {n0 : Nat} {w w3 : World} {base : Nat} {mv bv rv : Value} {zs : List Int} {C : Nat} {L : Nat → Nat} {F F' : Nat → Nat → Nat → Int} {R : Nat} {Z : Nat → List Int} {vb vr : Nat → Value} {tag tag2 : Nat → Nat} {c g off k bb bo : Nat} (h : Tr tag0 n0 w base mv bv rv zs C L F R Z vb vr tag) (hc : c < C) (hC : C ≤ 30) (hwk : ∀ g len, Wc w g len → Wc w3 g len) (hsz : w.heap.size ≤ w3.heap.size) (hk : L c + 1 ≤ k) (hg : base ≤ g) (hw : Wc w3 g (off + k * 2)) (hat : tag g = 3 + 2 * c ∨ w.heap.size ≤ g)
    (ta : Ta (w3.setCell ⟨bb, bo + c, none⟩ (.slice (some ⟨g, off, none⟩) (L c + 1) k)) base mv bv rv zs C (upd L c (L c + 1)) F' R Z (upd vb c (.slice (some ⟨g, off, none⟩) (L c + 1) k)) vr tag2) (ht : ∀ x, tag2 x = if (Value.slice (some ⟨g, off, none⟩) (L c + 1) k).ownBlock = some x ∧ 0 < L c + 1 then 3 + 2 * c else tag x) :
    Tr tag0 n0 (w3.setCell ⟨bb, bo + c, none⟩ (.slice (some ⟨g, off, none⟩) (L c + 1) k)) base mv bv rv zs C (upd L c (L c + 1)) F' R Z (upd vb c (.slice (some ⟨g, off, none⟩) (L c + 1) k)) vr tag2 := by
  have hne : ∀ x, x < w.heap.size → tag x ≠ 3 + 2 * c → tag2 x = tag x := fun x hx hx2 => by
    rw [ht x, if_neg]
    rintro ⟨q, _⟩
    simp only [Value.ownBlock, Option.some.injEq] at q
    subst q
    rcases hat with hat | hat
    · exact hx2 hat
    · omega
  refine ⟨ta, fun c' hc' => ?_, fun j hj h0 => ?_, Nat.le_trans h.sz (Nat.le_trans hsz (grown_set w3 bb (bo + c) _).size)⟩
  · by_cases e : c' = c
    · subst e
      rw [upd_at, upd_at]
      exact .inr ⟨g, off, k, rfl, hk, hg, hw.set _, by rw [ht g, if_pos ⟨rfl, by omega⟩]⟩
    · rw [upd_ne e, upd_ne e]
      exact (h.rm c' hc').wk (fun g len hw _ => (hwk g len hw).set _) (fun x hx e' => by rw [hne x hx (by omega)]; exact e')
  · have := h.kt j hj h0
    rw [hne j (Nat.lt_of_lt_of_le hj h.sz) (by omega)]
    exact this

set_option maxHeartbeats 4000000 in
set_option maxRecDepth 20000 in
theorem storeWaits_rm {tag0 : Nat → Nat} {n0 : Nat} (mv bv rv : Value) (zs : List Int) (C : Nat) (L : Nat → Nat) (F : Nat → Nat → Nat → Int) (R : Nat) (Z : Nat → List Int) (vb vr : Nat → Value) (tag : Nat → Nat) (base c : Nat) (k va vl rg : Int) (w : World) (h : Tr tag0 n0 w base mv bv rv zs C L F R Z vb vr tag) (hc : c < C) (hC : C ≤ 30) (hL : L c ≤ 1000) (hb : base ≤ w.heap.size) :
    Calls Try.prog 92 #[.agg #[mv, bv, rv], .agg (five k c va vl rg)] w fun e w' => (4 ≤ L c ∧ e = .returned (.int .i64 3) ∧ Below w.heap.size w w') ∨ (¬ 4 ≤ L c ∧ e = .returned (.int .i64 0) ∧ (∃ u tag', Tr tag0 n0 w' base mv bv rv zs C (upd L c (L c + 1)) (upd F c (snocF (F c) (L c) va vl)) R Z (upd vb c u) vr tag') ∧ Below base w w' ∧ Kp tag w w') := by
  obtain ⟨i0, hi, hz0, hz1, hz2⟩ := info_parts infoS
  have bx := bx_made w mv bv rv k c va vl rg
  obtain ⟨bb, bo, bc, rfl, b1, b2, b3, bcell⟩ := h.ta.bufAt (by omega)
  have hvb : (w.alloc (.cells #[mv, .slice (some ⟨bb, bo, none⟩) C bc, rv] 28)).alloc (.cells (five k c va vl rg) 37) = (w.alloc (.cells #[mv, .slice (some ⟨bb, bo, none⟩) C bc, rv] 28)).alloc (.cells (five k c va vl rg) 37) := rfl
  clear hvb
  have q0 := keepc bx.bel (bcell c hc)
  obtain ⟨ia, ic, ev, hev⟩ := (h.rm c hc).form
  rw [ev] at q0
  have hc0 : (0 : Int) ≤ (c : Int) := by omega
  have hc1 : (c : Int) < (C : Int) := by omega
  have hbl := b2.lt
  obtain ⟨W, hW⟩ : ∃ W, (w.alloc (.cells #[mv, .slice (some ⟨bb, bo, none⟩) C bc, rv] 28)).alloc (.cells (five k c va vl rg) 37) = W := ⟨_, rfl⟩
  rw [hW] at bx q0
  have t1 := bx.t1
  have a1 := bx.a1
  have a2 := bx.a2
  have a3 := bx.a3
  by_cases h4 : 4 ≤ L c
  · have hd : decide ((4 : Int) ≤ (L c : Int)) = true := by simp; omega
    go_enter Try.func92, Try.ntmps92
    go_wp2
    go_ret
    exact .inl ⟨h4, rfl, bx.bel⟩
  · have hd : decide ((4 : Int) ≤ (L c : Int)) = false := by simp; omega
    go_enter Try.func92, Try.ntmps92
    go_wp2
    refine wp_region_but (z := 18) (S := fun W' => W'.cell? ⟨w.heap.size, 1, none⟩ = some (.slice (some ⟨bb, bo, none⟩) C bc) ∧ W'.cell? ⟨w.heap.size + 1, 1, none⟩ = some (.int .i64 c) ∧ W'.cell? ⟨w.heap.size + 1, 2, none⟩ = some (.int .i64 va) ∧ W'.cell? ⟨w.heap.size + 1, 3, none⟩ = some (.int .i64 vl) ∧ W'.cell? ⟨bb, bo + c, none⟩ = some (.slice ia (L c) ic)) (by kernel_rfl) ⟨t1, a1, a2, a3, q0⟩ (fun hHeld => ?_)
    refine wpAnyK_take (i := 0) (v := .pointer (some ⟨w.heap.size, 1, none⟩)) rfl (by kernel_rfl) (by kernel_rfl) (by kernel_rfl) (by kernel_rfl) (fun _ _ _ h => h) (Or.inl ⟨by rfl, fun w' hSw => ?_⟩) (by assumption) ?_
    · (try dsimp only at hSw); obtain ⟨s1, s2, s3, s4, s5⟩ := hSw; go_simp
    try simp only [Act.put, List.getElem_toArray, List.getElem_cons_zero, List.getElem_cons_succ, List.setIfInBounds_toArray, List.set_cons_zero, List.set_cons_succ]
    refine wpAnyK_take (i := 1) (v := .slice (some ⟨bb, bo, none⟩) C bc) rfl (by kernel_rfl) (by kernel_rfl) (by kernel_rfl) (by kernel_rfl) (fun _ _ _ h => h) (Or.inl ⟨by rfl, fun w' hSw => ?_⟩) (by assumption) ?_
    · (try dsimp only at hSw); obtain ⟨s1, s2, s3, s4, s5⟩ := hSw; go_simp
    try simp only [Act.put, List.getElem_toArray, List.getElem_cons_zero, List.getElem_cons_succ, List.setIfInBounds_toArray, List.set_cons_zero, List.set_cons_succ]
    refine wpAnyK_take (i := 2) (v := .pointer (some ⟨w.heap.size + 1, 1, none⟩)) rfl (by kernel_rfl) (by kernel_rfl) (by kernel_rfl) (by kernel_rfl) (fun _ _ _ h => h) (Or.inl ⟨by rfl, fun w' hSw => ?_⟩) (by assumption) ?_
    · (try dsimp only at hSw); obtain ⟨s1, s2, s3, s4, s5⟩ := hSw; go_simp
    try simp only [Act.put, List.getElem_toArray, List.getElem_cons_zero, List.getElem_cons_succ, List.setIfInBounds_toArray, List.set_cons_zero, List.set_cons_succ]
    refine wpAnyK_take (i := 3) (v := .int .i64 c) rfl (by kernel_rfl) (by kernel_rfl) (by kernel_rfl) (by kernel_rfl) (fun _ _ _ h => h) (Or.inl ⟨by rfl, fun w' hSw => ?_⟩) (by assumption) ?_
    · (try dsimp only at hSw); obtain ⟨s1, s2, s3, s4, s5⟩ := hSw; go_simp
    try simp only [Act.put, List.getElem_toArray, List.getElem_cons_zero, List.getElem_cons_succ, List.setIfInBounds_toArray, List.set_cons_zero, List.set_cons_succ]
    refine wpAnyK_take (i := 4) (v := .pointer (some ⟨w.heap.size, 1, none⟩)) rfl (by kernel_rfl) (by kernel_rfl) (by kernel_rfl) (by kernel_rfl) (fun _ _ _ h => h) (Or.inl ⟨by rfl, fun w' hSw => ?_⟩) (by assumption) ?_
    · (try dsimp only at hSw); obtain ⟨s1, s2, s3, s4, s5⟩ := hSw; go_simp
    try simp only [Act.put, List.getElem_toArray, List.getElem_cons_zero, List.getElem_cons_succ, List.setIfInBounds_toArray, List.set_cons_zero, List.set_cons_succ]
    refine wpAnyK_take (i := 5) (v := .slice (some ⟨bb, bo, none⟩) C bc) rfl (by kernel_rfl) (by kernel_rfl) (by kernel_rfl) (by kernel_rfl) (fun _ _ _ h => h) (Or.inl ⟨by rfl, fun w' hSw => ?_⟩) (by assumption) ?_
    · (try dsimp only at hSw); obtain ⟨s1, s2, s3, s4, s5⟩ := hSw; go_simp
    try simp only [Act.put, List.getElem_toArray, List.getElem_cons_zero, List.getElem_cons_succ, List.setIfInBounds_toArray, List.set_cons_zero, List.set_cons_succ]
    refine wpAnyK_take (i := 6) (v := .pointer (some ⟨w.heap.size + 1, 1, none⟩)) rfl (by kernel_rfl) (by kernel_rfl) (by kernel_rfl) (by kernel_rfl) (fun _ _ _ h => h) (Or.inl ⟨by rfl, fun w' hSw => ?_⟩) (by assumption) ?_
    · (try dsimp only at hSw); obtain ⟨s1, s2, s3, s4, s5⟩ := hSw; go_simp
    try simp only [Act.put, List.getElem_toArray, List.getElem_cons_zero, List.getElem_cons_succ, List.setIfInBounds_toArray, List.set_cons_zero, List.set_cons_succ]
    refine wpAnyK_take (i := 7) (v := .int .i64 c) rfl (by kernel_rfl) (by kernel_rfl) (by kernel_rfl) (by kernel_rfl) (fun _ _ _ h => h) (Or.inl ⟨by rfl, fun w' hSw => ?_⟩) (by assumption) ?_
    · (try dsimp only at hSw); obtain ⟨s1, s2, s3, s4, s5⟩ := hSw; go_simp
    try simp only [Act.put, List.getElem_toArray, List.getElem_cons_zero, List.getElem_cons_succ, List.setIfInBounds_toArray, List.set_cons_zero, List.set_cons_succ]
    refine wpAnyK_take (i := 8) (v := .pointer (some ⟨bb, bo + c, none⟩)) rfl (by kernel_rfl) (by kernel_rfl) (by kernel_rfl) (by kernel_rfl) (fun _ _ _ h => h) (Or.inl ⟨by rfl, fun w' hSw => ?_⟩) (by assumption) ?_
    · (try dsimp only at hSw); obtain ⟨s1, s2, s3, s4, s5⟩ := hSw; go_simp
    try simp only [Act.put, List.getElem_toArray, List.getElem_cons_zero, List.getElem_cons_succ, List.setIfInBounds_toArray, List.set_cons_zero, List.set_cons_succ]
    refine wpAnyK_take (i := 9) (v := .slice ia (L c) ic) rfl (by kernel_rfl) (by kernel_rfl) (by kernel_rfl) (by kernel_rfl) (fun _ _ _ h => h) (Or.inl ⟨by rfl, fun w' hSw => ?_⟩) (by assumption) ?_
    · (try dsimp only at hSw); obtain ⟨s1, s2, s3, s4, s5⟩ := hSw; go_simp
    try simp only [Act.put, List.getElem_toArray, List.getElem_cons_zero, List.getElem_cons_succ, List.setIfInBounds_toArray, List.set_cons_zero, List.set_cons_succ]
    refine wpAnyK_take (i := 10) (v := .pointer (some ⟨w.heap.size + 1, 2, none⟩)) rfl (by kernel_rfl) (by kernel_rfl) (by kernel_rfl) (by kernel_rfl) (fun _ _ _ h => h) (Or.inl ⟨by rfl, fun w' hSw => ?_⟩) (by assumption) ?_
    · (try dsimp only at hSw); obtain ⟨s1, s2, s3, s4, s5⟩ := hSw; go_simp
    try simp only [Act.put, List.getElem_toArray, List.getElem_cons_zero, List.getElem_cons_succ, List.setIfInBounds_toArray, List.set_cons_zero, List.set_cons_succ]
    refine wpAnyK_take (i := 11) (v := .int .i64 va) rfl (by kernel_rfl) (by kernel_rfl) (by kernel_rfl) (by kernel_rfl) (fun _ _ _ h => h) (Or.inl ⟨by rfl, fun w' hSw => ?_⟩) (by assumption) ?_
    · (try dsimp only at hSw); obtain ⟨s1, s2, s3, s4, s5⟩ := hSw; go_simp
    try simp only [Act.put, List.getElem_toArray, List.getElem_cons_zero, List.getElem_cons_succ, List.setIfInBounds_toArray, List.set_cons_zero, List.set_cons_succ]
    refine wpAnyK_take (i := 12) (v := .pointer (some ⟨w.heap.size + 1, 3, none⟩)) rfl (by kernel_rfl) (by kernel_rfl) (by kernel_rfl) (by kernel_rfl) (fun _ _ _ h => h) (Or.inl ⟨by rfl, fun w' hSw => ?_⟩) (by assumption) ?_
    · (try dsimp only at hSw); obtain ⟨s1, s2, s3, s4, s5⟩ := hSw; go_simp
    try simp only [Act.put, List.getElem_toArray, List.getElem_cons_zero, List.getElem_cons_succ, List.setIfInBounds_toArray, List.set_cons_zero, List.set_cons_succ]
    refine wpAnyK_take (i := 13) (v := .int .i64 vl) rfl (by kernel_rfl) (by kernel_rfl) (by kernel_rfl) (by kernel_rfl) (fun _ _ _ h => h) (Or.inl ⟨by rfl, fun w' hSw => ?_⟩) (by assumption) ?_
    · (try dsimp only at hSw); obtain ⟨s1, s2, s3, s4, s5⟩ := hSw; go_simp
    try simp only [Act.put, List.getElem_toArray, List.getElem_cons_zero, List.getElem_cons_succ, List.setIfInBounds_toArray, List.set_cons_zero, List.set_cons_succ]
    refine wpAnyK_take (i := 14) (v := .agg #[.int .i64 va, .int .i64 vl]) rfl (by kernel_rfl) (by kernel_rfl) (by kernel_rfl) (by kernel_rfl) (fun _ _ _ h => h) (Or.inl ⟨by rfl, fun w' hSw => ?_⟩) (by assumption) ?_
    · (try dsimp only at hSw); obtain ⟨s1, s2, s3, s4, s5⟩ := hSw; go_simp
    try simp only [Act.put, List.getElem_toArray, List.getElem_cons_zero, List.getElem_cons_succ, List.setIfInBounds_toArray, List.set_cons_zero, List.set_cons_succ]
    refine wpAnyK_one (i := 15) (by kernel_rfl) rfl (fun K hK => ?_)
    go_simp
    have hA : Below W.heap.size W (W.drew.alloc (.cells #[.int .i64 va, .int .i64 vl] 35)) := ((Below.refl _ _).drew).alloc (Nat.le_refl _) _
    refine hK.out _ _ (fun _ => ⟨keepc hA t1, keepc hA a1, keepc hA a2, keepc hA a3, keepc hA q0⟩) (fun hH => ?_)
    clear hK K hHeld
    have hHeld := hH (by decide)
    clear hH
    try simp only [Act.put, List.getElem_toArray, List.getElem_cons_zero, List.getElem_cons_succ, List.setIfInBounds_toArray, List.set_cons_zero, List.set_cons_succ]
    have hTr := (h.below bx.bel).below hA
    have hRm := hTr.rm c hc
    have hSr := hTr.ta.bi c hc
    rw [ev] at hRm hSr
    have hlt : ∀ x, (Value.slice ia (L c) ic).ownBlock = some x → base ≤ x ∧ x < w.heap.size ∧ tag x = 3 + 2 * c := fun x e => by
      rcases h.rm c hc with ⟨q, _⟩ | ⟨g2, off2, k2, q, q1, q2, q3, q4⟩
      · rw [ev] at q; rw [q] at e; cases e
      · rw [ev] at q; rw [q] at e
        simp only [Value.ownBlock, Option.some.injEq] at e
        subst e
        exact ⟨q2, q3.lt, q4⟩
    have hsz := bx.size
    obtain ⟨g, off, cap, w3, hrun, hgrow, hk1, hg1, hwc3, hat, hsr3, hwk⟩ := append_rm _ base (.slice ia (L c) ic) (L c) (F c) tag (3 + 2 * c) W.heap.size va vl 33 hRm hSr (heap_alloc_new W.drew _) (fun x e => by have := hlt x e; omega) (by omega) (Nat.le_trans (by omega : base ≤ W.heap.size) hA.size)
    refine wpAnyK_one (i := 16) (by kernel_rfl) rfl (fun K hK => ?_)
    refine step_append_run (by rfl) _ _ 33 (by rfl) (v := .slice ia (L c) ic) (u := .slice (some ⟨W.heap.size, 0, none⟩) 1 1) (by rfl) (by rfl) hrun ?_
    have hx3 : ∀ {B i : Nat} {u : Value}, (B = w.heap.size ∨ B = w.heap.size + 1 ∨ B = bb) → W.cell? ⟨B, i, none⟩ = some u → w3.cell? ⟨B, i, none⟩ = some u := fun {B i u} hB hu => (hgrow.cell_far ⟨B, i, none⟩ (by have := World.block_lt_of_cell? _ _ hu; have := hA.size; show B < _; simp at *; omega) (fun q => by have := hlt B q.symm; rcases hB with rfl | rfl | rfl <;> omega)).trans (keepc hA hu)
    have y1 := hx3 (.inl rfl) t1
    have y2 := hx3 (.inr (.inl rfl)) a1
    have y3 := hx3 (.inr (.inl rfl)) a2
    have y4 := hx3 (.inr (.inl rfl)) a3
    have y5 := hx3 (.inr (.inr rfl)) q0
    have f5 : w3.frozen? ⟨bb, bo + c, none⟩ = false := ((((b2.below bx.bel).below hA).grown hgrow (fun q => by have := hlt bb q; omega)).facts.1 _)
    have hB3 : Below base w w3 := by
      have hq := bx.bel.trans (hA.mono bx.bel.size)
      exact (hq.mono hb).grown hgrow (by have := hq.size; omega) (fun x e => (hlt x e).1)
    obtain ⟨tag2, ta2, ht2⟩ := hTr.ta.putB2 (c := c) hc hgrow (fun x e => (hlt x e).2.2) hsr3 (fun x off' n' cap' e _ => by
      simp only [Value.slice.injEq, Option.some.injEq, Addr.mk.injEq] at e
      obtain ⟨⟨rfl, rfl, _⟩, _, _⟩ := e
      exact ⟨hg1, hwc3.less (by omega), hat.elim (fun q => .inl q.2) .inr⟩) (Nat.le_trans (by omega : base ≤ W.heap.size) hA.size)
    have tr2 := Tr.store hTr hc hC hwk hgrow.size hk1 hg1 hwc3 (hat.elim (fun q => .inl q.2) .inr) ta2 ht2
    have hK3 : Kp tag w w3 := Kp.grown (Kp.below (bx.bel.trans (hA.mono bx.bel.size))) (bx.bel.trans (hA.mono bx.bel.size)).size hgrow (fun x e => by have := (hlt x e).2.2; omega)
    have HF := hide (And.intro tr2 (And.intro (hB3.setCell (p := ⟨bb, bo + c, none⟩) b1 (.slice (some ⟨g, off, none⟩) (L c + 1) cap)) (hK3.set (B := bb) (i := bo + c) (v := .slice (some ⟨g, off, none⟩) (L c + 1) cap) (by omega))))
    refine hK.out _ _ (fun _ => ⟨y1, y2, y3, y4, y5⟩) (fun hH => ?_)
    clear hK K hHeld hgrow hat hA hTr hRm hSr hrun hsr3 hwk hwc3 hx3 ta2 ht2 tr2 hB3 hK3
    have hHeld := hH (by decide)
    clear hH
    try simp only [Act.put, List.getElem_toArray, List.getElem_cons_zero, List.getElem_cons_succ, List.setIfInBounds_toArray, List.set_cons_zero, List.set_cons_succ]
    refine wpAnyK_take (i := 17) (v := .pointer (some ⟨bb, bo + c, none⟩)) rfl (by kernel_rfl) (by kernel_rfl) (by kernel_rfl) (by kernel_rfl) (fun _ _ _ h => h) (Or.inl ⟨by rfl, fun w' hSw => ?_⟩) (by assumption) ?_
    · (try dsimp only at hSw); obtain ⟨s1, s2, s3, s4, s5⟩ := hSw; go_simp
    try simp only [Act.put, List.getElem_toArray, List.getElem_cons_zero, List.getElem_cons_succ, List.setIfInBounds_toArray, List.set_cons_zero, List.set_cons_succ]
    refine wpAnyK_one (i := 18) (by kernel_rfl) rfl (fun K hK => ?_)
    clear t1 a1 a2 a3 q0
    go_simp
    refine hK.out _ _ (fun h => absurd rfl h) (fun _ => ?_)
    clear hK K y1 y2 y3 y4 y5 f5
    try simp only [Act.put, List.getElem_toArray, List.getElem_cons_zero, List.getElem_cons_succ, List.setIfInBounds_toArray, List.set_cons_zero, List.set_cons_succ]
    refine wpAnyK_done (by kernel_rfl) ?_
    go_wp2
    go_ret
    first | exact .inr ⟨h4, rfl, ⟨_, _, HF.out.1⟩, HF.out.2.1, HF.out.2.2⟩ | exact ⟨h4, rfl, ⟨_, _, HF.out.1⟩, HF.out.2.1, HF.out.2.2⟩ | exact ⟨rfl, ⟨_, _, HF.out.1⟩, HF.out.2.1, HF.out.2.2⟩

set_option maxHeartbeats 4000000 in
set_option maxRecDepth 20000 in
theorem loadSeen_rm {tag0 : Nat → Nat} {n0 : Nat} (mv bv rv : Value) (zs : List Int) (C : Nat) (L : Nat → Nat) (F : Nat → Nat → Nat → Int) (R : Nat) (Z : Nat → List Int) (vb vr : Nat → Value) (tag : Nat → Nat) (base c v i : Nat) (k vl : Int) (w : World) (hT0 : Tr tag0 n0 w base mv bv rv zs C L F R Z vb vr tag) (hc : c < C) (hcR : c < R) (hv : v < zs.length) (hi : i < (Z c).length) (hL : L c ≤ 1000) (hb : base ≤ w.heap.size) (hC : c ≤ 30) :
    Calls Try.prog 93 #[.agg #[mv, bv, rv], .agg (five k c v vl i)] w fun e w' => e = .returned (.int .i64 0) ∧ Tr tag0 n0 w' base mv bv rv zs C L F R (upd Z c ((Z c).set i (sn zs (F c) v (L c)))) vb vr tag ∧ Below base w w' ∧ Kp tag w w' := by
  have h := hT0.ta
  have bx := bx_made w mv bv rv k c v vl i
  obtain ⟨W, hW⟩ : ∃ W, (w.alloc (.cells #[mv, bv, rv] 28)).alloc (.cells (five k c v vl i) 37) = W := ⟨_, rfl⟩
  rw [hW] at bx
  have hT := h.below bx.bel
  have hse := fun W h => implSeen_any mv bv rv zs C L F R Z c v W h hc hv (by omega)
  generalize sn zs (F c) v (L c) = sv at hse ⊢
  obtain ⟨rb, ro, rc, rfl, r1, r2, r3, rcell⟩ := hT.regAt (by omega)
  have q0 := rcell c hcR
  obtain ⟨ja, jc, ev, hs⟩ := hT.ri c hcR
  obtain ⟨g, off, rfl, hcell⟩ := hs (by omega)
  rw [ev] at q0
  obtain ⟨g1, g2, g3⟩ := hT.rI c hcR g off _ jc ev (by omega)
  have q1 := hcell i hi
  have fr := g2.facts.1 (off + i)
  have t0 := bx.t0
  have t1 := bx.t1
  have t2 := bx.t2
  have a1 := bx.a1
  have a2 := bx.a2
  have a4 := bx.a4
  have hc0 : (0 : Int) ≤ (c : Int) := by omega
  have hc1 : (c : Int) < (R : Int) := by omega
  have hi0 : (0 : Int) ≤ (i : Int) := by omega
  have hi1 : (i : Int) < ((Z c).length : Int) := by omega
  have HT := hide hT
  clear hs hcell rcell hT
  go_enter Try.func93, Try.ntmps93
  go_wp2
  refine wp_region_but (z := 15) (S := fun W' => Below W.heap.size W W') (by kernel_rfl) ((Below.refl _ _).drew) (fun hHeld => ?_)
  refine wpAnyK_take (i := 0) (v := .pointer (some ⟨w.heap.size, 2, none⟩)) rfl (by kernel_rfl) (by kernel_rfl) (by kernel_rfl) (by kernel_rfl) (fun _ _ _ h => h) (Or.inl ⟨by rfl, fun w' hSw => ?_⟩) (by assumption) ?_
  · (try dsimp only at hSw); have z0 := keepc hSw t0; have z1 := keepc hSw t1; have z2 := keepc hSw t2; have z3 := keepc hSw a1; have z4 := keepc hSw a2; have z5 := keepc hSw a4; have z6 := keepc hSw q0; go_simp
  try simp only [Act.put, List.getElem_toArray, List.getElem_cons_zero, List.getElem_cons_succ, List.setIfInBounds_toArray, List.set_cons_zero, List.set_cons_succ]
  refine wpAnyK_take (i := 1) (v := .slice (some ⟨rb, ro, none⟩) R rc) rfl (by kernel_rfl) (by kernel_rfl) (by kernel_rfl) (by kernel_rfl) (fun _ _ _ h => h) (Or.inl ⟨by rfl, fun w' hSw => ?_⟩) (by assumption) ?_
  · (try dsimp only at hSw); have z0 := keepc hSw t0; have z1 := keepc hSw t1; have z2 := keepc hSw t2; have z3 := keepc hSw a1; have z4 := keepc hSw a2; have z5 := keepc hSw a4; have z6 := keepc hSw q0; go_simp
  try simp only [Act.put, List.getElem_toArray, List.getElem_cons_zero, List.getElem_cons_succ, List.setIfInBounds_toArray, List.set_cons_zero, List.set_cons_succ]
  refine wpAnyK_take (i := 2) (v := .pointer (some ⟨w.heap.size + 1, 1, none⟩)) rfl (by kernel_rfl) (by kernel_rfl) (by kernel_rfl) (by kernel_rfl) (fun _ _ _ h => h) (Or.inl ⟨by rfl, fun w' hSw => ?_⟩) (by assumption) ?_
  · (try dsimp only at hSw); have z0 := keepc hSw t0; have z1 := keepc hSw t1; have z2 := keepc hSw t2; have z3 := keepc hSw a1; have z4 := keepc hSw a2; have z5 := keepc hSw a4; have z6 := keepc hSw q0; go_simp
  try simp only [Act.put, List.getElem_toArray, List.getElem_cons_zero, List.getElem_cons_succ, List.setIfInBounds_toArray, List.set_cons_zero, List.set_cons_succ]
  refine wpAnyK_take (i := 3) (v := .int .i64 c) rfl (by kernel_rfl) (by kernel_rfl) (by kernel_rfl) (by kernel_rfl) (fun _ _ _ h => h) (Or.inl ⟨by rfl, fun w' hSw => ?_⟩) (by assumption) ?_
  · (try dsimp only at hSw); have z0 := keepc hSw t0; have z1 := keepc hSw t1; have z2 := keepc hSw t2; have z3 := keepc hSw a1; have z4 := keepc hSw a2; have z5 := keepc hSw a4; have z6 := keepc hSw q0; go_simp
  try simp only [Act.put, List.getElem_toArray, List.getElem_cons_zero, List.getElem_cons_succ, List.setIfInBounds_toArray, List.set_cons_zero, List.set_cons_succ]
  refine wpAnyK_take (i := 4) (v := .pointer (some ⟨rb, ro + c, none⟩)) rfl (by kernel_rfl) (by kernel_rfl) (by kernel_rfl) (by kernel_rfl) (fun _ _ _ h => h) (Or.inl ⟨by rfl, fun w' hSw => ?_⟩) (by assumption) ?_
  · (try dsimp only at hSw); have z0 := keepc hSw t0; have z1 := keepc hSw t1; have z2 := keepc hSw t2; have z3 := keepc hSw a1; have z4 := keepc hSw a2; have z5 := keepc hSw a4; have z6 := keepc hSw q0; go_simp
  try simp only [Act.put, List.getElem_toArray, List.getElem_cons_zero, List.getElem_cons_succ, List.setIfInBounds_toArray, List.set_cons_zero, List.set_cons_succ]
  refine wpAnyK_take (i := 5) (v := .slice (some ⟨g, off, none⟩) (Z c).length jc) rfl (by kernel_rfl) (by kernel_rfl) (by kernel_rfl) (by kernel_rfl) (fun _ _ _ h => h) (Or.inl ⟨by rfl, fun w' hSw => ?_⟩) (by assumption) ?_
  · (try dsimp only at hSw); have z0 := keepc hSw t0; have z1 := keepc hSw t1; have z2 := keepc hSw t2; have z3 := keepc hSw a1; have z4 := keepc hSw a2; have z5 := keepc hSw a4; have z6 := keepc hSw q0; go_simp
  try simp only [Act.put, List.getElem_toArray, List.getElem_cons_zero, List.getElem_cons_succ, List.setIfInBounds_toArray, List.set_cons_zero, List.set_cons_succ]
  refine wpAnyK_take (i := 6) (v := .pointer (some ⟨w.heap.size + 1, 4, none⟩)) rfl (by kernel_rfl) (by kernel_rfl) (by kernel_rfl) (by kernel_rfl) (fun _ _ _ h => h) (Or.inl ⟨by rfl, fun w' hSw => ?_⟩) (by assumption) ?_
  · (try dsimp only at hSw); have z0 := keepc hSw t0; have z1 := keepc hSw t1; have z2 := keepc hSw t2; have z3 := keepc hSw a1; have z4 := keepc hSw a2; have z5 := keepc hSw a4; have z6 := keepc hSw q0; go_simp
  try simp only [Act.put, List.getElem_toArray, List.getElem_cons_zero, List.getElem_cons_succ, List.setIfInBounds_toArray, List.set_cons_zero, List.set_cons_succ]
  refine wpAnyK_take (i := 7) (v := .int .i64 i) rfl (by kernel_rfl) (by kernel_rfl) (by kernel_rfl) (by kernel_rfl) (fun _ _ _ h => h) (Or.inl ⟨by rfl, fun w' hSw => ?_⟩) (by assumption) ?_
  · (try dsimp only at hSw); have z0 := keepc hSw t0; have z1 := keepc hSw t1; have z2 := keepc hSw t2; have z3 := keepc hSw a1; have z4 := keepc hSw a2; have z5 := keepc hSw a4; have z6 := keepc hSw q0; go_simp
  try simp only [Act.put, List.getElem_toArray, List.getElem_cons_zero, List.getElem_cons_succ, List.setIfInBounds_toArray, List.set_cons_zero, List.set_cons_succ]
  refine wpAnyK_take (i := 8) (v := .agg #[mv, bv, .slice (some ⟨rb, ro, none⟩) R rc]) rfl (by kernel_rfl) (by kernel_rfl) (by kernel_rfl) (by kernel_rfl) (fun _ _ _ h => h) (Or.inl ⟨by rfl, fun w' hSw => ?_⟩) (by assumption) ?_
  · (try dsimp only at hSw); have z0 := keepc hSw t0; have z1 := keepc hSw t1; have z2 := keepc hSw t2; have z3 := keepc hSw a1; have z4 := keepc hSw a2; have z5 := keepc hSw a4; have z6 := keepc hSw q0; go_simp
  try simp only [Act.put, List.getElem_toArray, List.getElem_cons_zero, List.getElem_cons_succ, List.setIfInBounds_toArray, List.set_cons_zero, List.set_cons_succ]
  refine wpAnyK_take (i := 9) (v := .pointer (some ⟨w.heap.size + 1, 1, none⟩)) rfl (by kernel_rfl) (by kernel_rfl) (by kernel_rfl) (by kernel_rfl) (fun _ _ _ h => h) (Or.inl ⟨by rfl, fun w' hSw => ?_⟩) (by assumption) ?_
  · (try dsimp only at hSw); have z0 := keepc hSw t0; have z1 := keepc hSw t1; have z2 := keepc hSw t2; have z3 := keepc hSw a1; have z4 := keepc hSw a2; have z5 := keepc hSw a4; have z6 := keepc hSw q0; go_simp
  try simp only [Act.put, List.getElem_toArray, List.getElem_cons_zero, List.getElem_cons_succ, List.setIfInBounds_toArray, List.set_cons_zero, List.set_cons_succ]
  refine wpAnyK_take (i := 10) (v := .int .i64 c) rfl (by kernel_rfl) (by kernel_rfl) (by kernel_rfl) (by kernel_rfl) (fun _ _ _ h => h) (Or.inl ⟨by rfl, fun w' hSw => ?_⟩) (by assumption) ?_
  · (try dsimp only at hSw); have z0 := keepc hSw t0; have z1 := keepc hSw t1; have z2 := keepc hSw t2; have z3 := keepc hSw a1; have z4 := keepc hSw a2; have z5 := keepc hSw a4; have z6 := keepc hSw q0; go_simp
  try simp only [Act.put, List.getElem_toArray, List.getElem_cons_zero, List.getElem_cons_succ, List.setIfInBounds_toArray, List.set_cons_zero, List.set_cons_succ]
  refine wpAnyK_take (i := 11) (v := .pointer (some ⟨w.heap.size + 1, 2, none⟩)) rfl (by kernel_rfl) (by kernel_rfl) (by kernel_rfl) (by kernel_rfl) (fun _ _ _ h => h) (Or.inl ⟨by rfl, fun w' hSw => ?_⟩) (by assumption) ?_
  · (try dsimp only at hSw); have z0 := keepc hSw t0; have z1 := keepc hSw t1; have z2 := keepc hSw t2; have z3 := keepc hSw a1; have z4 := keepc hSw a2; have z5 := keepc hSw a4; have z6 := keepc hSw q0; go_simp
  try simp only [Act.put, List.getElem_toArray, List.getElem_cons_zero, List.getElem_cons_succ, List.setIfInBounds_toArray, List.set_cons_zero, List.set_cons_succ]
  refine wpAnyK_take (i := 12) (v := .int .i64 v) rfl (by kernel_rfl) (by kernel_rfl) (by kernel_rfl) (by kernel_rfl) (fun _ _ _ h => h) (Or.inl ⟨by rfl, fun w' hSw => ?_⟩) (by assumption) ?_
  · (try dsimp only at hSw); have z0 := keepc hSw t0; have z1 := keepc hSw t1; have z2 := keepc hSw t2; have z3 := keepc hSw a1; have z4 := keepc hSw a2; have z5 := keepc hSw a4; have z6 := keepc hSw q0; go_simp
  try simp only [Act.put, List.getElem_toArray, List.getElem_cons_zero, List.getElem_cons_succ, List.setIfInBounds_toArray, List.set_cons_zero, List.set_cons_succ]
  refine wpAnyK_one (i := 13) (by kernel_rfl) rfl (fun K hK => ?_)
  go_simp
  refine (hse _ (HT.out.tv.below ((Below.refl _ _).drew))).mono ?_
  rintro e w1 ⟨rfl, hb1⟩
  have hb1' : Below W.heap.size W w1 := ((Below.refl _ _).drew).trans (hb1.mono (Nat.le_refl _))
  refine hK.out _ _ (fun _ => hb1') (fun hH => ?_)
  clear hK K hHeld
  have hHeld := hH (by decide)
  clear hH
  try simp only [Act.put, List.getElem_toArray, List.getElem_cons_zero, List.getElem_cons_succ, List.setIfInBounds_toArray, List.set_cons_zero, List.set_cons_succ]
  refine wpAnyK_take (i := 14) (v := .pointer (some ⟨g, off + i, none⟩)) rfl (by kernel_rfl) (by kernel_rfl) (by kernel_rfl) (by kernel_rfl) (fun _ _ _ h => h) (Or.inl ⟨by rfl, fun w' hSw => ?_⟩) (by assumption) ?_
  · (try dsimp only at hSw); have z0 := keepc hSw t0; have z1 := keepc hSw t1; have z2 := keepc hSw t2; have z3 := keepc hSw a1; have z4 := keepc hSw a2; have z5 := keepc hSw a4; have z6 := keepc hSw q0; go_simp
  try simp only [Act.put, List.getElem_toArray, List.getElem_cons_zero, List.getElem_cons_succ, List.setIfInBounds_toArray, List.set_cons_zero, List.set_cons_succ]
  have ta3 := (HT.out.below hb1').setR (x := sv) hcR ev hi
  have q3 := keepc hb1' q1
  have f3 : w1.frozen? ⟨g, off + i, none⟩ = false := (g2.below hb1').facts.1 _
  have HF := hide (And.intro (Tr.set hT0 (bx.bel.trans (hb1'.mono bx.bel.size)) ta3) (And.intro (((bx.bel.trans (hb1'.mono bx.bel.size)).mono hb).setCell (p := ⟨g, off + i, none⟩) g1 (.int .i64 sv)) ((Kp.below (tag := tag) (bx.bel.trans (hb1'.mono bx.bel.size))).set (B := g) (i := off + i) (v := .int .i64 sv) (by omega))))
  clear ta3 hb1 hb1' HT
  refine wpAnyK_one (i := 15) (by kernel_rfl) rfl (fun K hK => ?_)
  go_simp
  refine hK.out _ _ (fun h => absurd rfl h) (fun _ => ?_)
  clear hK K q3 f3
  try simp only [Act.put, List.getElem_toArray, List.getElem_cons_zero, List.getElem_cons_succ, List.setIfInBounds_toArray, List.set_cons_zero, List.set_cons_succ]
  refine wpAnyK_done (by kernel_rfl) ?_
  go_wp2
  go_ret
  exact ⟨rfl, HF.out.1, HF.out.2.1, HF.out.2.2⟩

set_option maxHeartbeats 4000000 in
set_option maxRecDepth 20000 in
theorem firstDrained_rm {tag0 : Nat → Nat} {n0 : Nat} (mv bv rv : Value) (zs : List Int) (C : Nat) (L : Nat → Nat) (F : Nat → Nat → Nat → Int) (R : Nat) (Z : Nat → List Int) (vb vr : Nat → Value) (tag : Nat → Nat) (base c : Nat) (k va vl rg : Int) (w : World) (hT0 : Tr tag0 n0 w base mv bv rv zs C L F R Z vb vr tag) (hc : c < C) (hL : L c ≤ 1000) (hv : 0 < L c → 0 ≤ F c 0 0 ∧ F c 0 0 < zs.length) (hb : base ≤ w.heap.size) :
    Calls Try.prog 60 #[.agg #[mv, bv, rv], .agg (five k c va vl rg)] w fun e w' => (L c = 0 ∧ e = .returned (.int .i64 5) ∧ Below w.heap.size w w') ∨ (0 < L c ∧ e = .returned (.int .i64 0) ∧ (∃ u tag', Tr tag0 n0 w' base mv bv rv (zs.set (F c 0 0).toNat (F c 0 1)) C (upd L c (L c - 1)) (upd F c (fun j => F c (j + 1))) R Z (upd vb c u) vr tag') ∧ Below base w w' ∧ Kp tag w w') := by
  have h := hT0.ta
  have hcap := hT0.cap hc
  have bx := bx_made w mv bv rv k c va vl rg
  obtain ⟨bb, bo, bc, rfl, b1, b2, b3, bcell⟩ := h.bufAt (by omega)
  have q0 := keepc bx.bel (bcell c hc)
  obtain ⟨ia, ic, ev, hs⟩ := h.bi c hc
  have hcp := hcap ia (L c) ic ev
  rw [ev] at q0
  have hc0 : (0 : Int) ≤ (c : Int) := by omega
  have hc1 : (c : Int) < (C : Int) := by omega
  obtain ⟨W, hW⟩ : ∃ W, (w.alloc (.cells #[mv, .slice (some ⟨bb, bo, none⟩) C bc, rv] 28)).alloc (.cells (five k c va vl rg) 37) = W := ⟨_, rfl⟩
  rw [hW] at bx q0
  have t0 := bx.t0
  have t1 := bx.t1
  have a1 := bx.a1
  by_cases hl : L c = 0
  · have hd : ((L c : Int) == 0) = true := by simp; omega
    clear hv hs
    go_enter Try.func60, Try.ntmps60
    go_wp2
    go_ret
    first | exact .inl ⟨hl, rfl, bx.bel⟩ | exact ⟨hl, rfl, bx.bel⟩ | exact ⟨rfl, bx.bel⟩
  · have hd : ((L c : Int) == 0) = false := by simp; omega
    have hpos : 0 < L c := by omega
    obtain ⟨hv0, hv1⟩ := hv hpos
    obtain ⟨v, hvv⟩ : ∃ v : Nat, F c 0 0 = v := ⟨(F c 0 0).toNat, by omega⟩
    have hT := h.below bx.bel
    obtain ⟨mb, mo, mc, rfl, m1, m2', m3, mcell⟩ := h.memAt (by omega)
    have hmbl := m2'.lt
    have m2 := m2'.below bx.bel
    have hbbl := b2.lt
    obtain ⟨g, off, rfl, hcell⟩ := hs hpos
    have p0 := keepc bx.bel (hcell 0 hpos 0 (by decide))
    have p1 := keepc bx.bel (hcell 0 hpos 1 (by decide))
    simp only [Nat.zero_mul, Nat.add_zero] at p0 p1
    rw [hvv] at p0 hv1
    have hm0 : (0 : Int) ≤ (v : Int) := by omega
    have hm1 : (v : Int) < (zs.length : Int) := by omega
    have hn0 : (0 : Int) < (L c : Int) := by omega
    have hn1 : (1 : Int) ≤ (L c : Int) := by omega
    have hn2 : (L c : Int) ≤ (ic : Int) := by omega
    have y0 := keepc bx.bel (mcell v (by omega))
    have fy := m2.facts.1 (mo + v)
    have HT := hide hT
    have hvt : (F c 0 0).toNat = v := by omega
    rw [hvt]
    have HCELL := hide hcell
    generalize hx1 : F c 0 1 = x1 at p1 ⊢
    clear mcell hT hv hs
    go_enter Try.func60, Try.ntmps60
    go_wp2
    refine wp_region_but (z := 11) (S := fun W' => Below W.heap.size W W') (by kernel_rfl) ((Below.refl _ _).drew) (fun hHeld => ?_)
    refine wpAnyK_take (i := 0) (v := .pointer (some ⟨w.heap.size, 0, none⟩)) rfl (by kernel_rfl) (by kernel_rfl) (by kernel_rfl) (by kernel_rfl) (fun _ _ _ h => h) (Or.inl ⟨by rfl, fun w' hSw => ?_⟩) (by assumption) ?_
    · (try dsimp only at hSw); have z0 := keepc hSw t0; have z1 := keepc hSw t1; have z2 := keepc hSw a1; have z3 := keepc hSw p0; have z4 := keepc hSw p1; have z5 := keepc hSw q0; go_simp
    try simp only [Act.put, List.getElem_toArray, List.getElem_cons_zero, List.getElem_cons_succ, List.setIfInBounds_toArray, List.set_cons_zero, List.set_cons_succ]
    refine wpAnyK_take (i := 1) (v := .slice (some ⟨mb, mo, none⟩) zs.length mc) rfl (by kernel_rfl) (by kernel_rfl) (by kernel_rfl) (by kernel_rfl) (fun _ _ _ h => h) (Or.inl ⟨by rfl, fun w' hSw => ?_⟩) (by assumption) ?_
    · (try dsimp only at hSw); have z0 := keepc hSw t0; have z1 := keepc hSw t1; have z2 := keepc hSw a1; have z3 := keepc hSw p0; have z4 := keepc hSw p1; have z5 := keepc hSw q0; go_simp
    try simp only [Act.put, List.getElem_toArray, List.getElem_cons_zero, List.getElem_cons_succ, List.setIfInBounds_toArray, List.set_cons_zero, List.set_cons_succ]
    refine wpAnyK_take (i := 2) (v := .slice (some ⟨g, off, none⟩) (L c) ic) rfl (by kernel_rfl) (by kernel_rfl) (by kernel_rfl) (by kernel_rfl) (fun _ _ _ h => h) (Or.inl ⟨by rfl, fun w' hSw => ?_⟩) (by assumption) ?_
    · (try dsimp only at hSw); have z0 := keepc hSw t0; have z1 := keepc hSw t1; have z2 := keepc hSw a1; have z3 := keepc hSw p0; have z4 := keepc hSw p1; have z5 := keepc hSw q0; go_simp
    try simp only [Act.put, List.getElem_toArray, List.getElem_cons_zero, List.getElem_cons_succ, List.setIfInBounds_toArray, List.set_cons_zero, List.set_cons_succ]
    refine wpAnyK_take (i := 3) (v := .pointer (some ⟨g, off, none⟩)) rfl (by kernel_rfl) (by kernel_rfl) (by kernel_rfl) (by kernel_rfl) (fun _ _ _ h => h) (Or.inl ⟨by rfl, fun w' hSw => ?_⟩) (by assumption) ?_
    · (try dsimp only at hSw); have z0 := keepc hSw t0; have z1 := keepc hSw t1; have z2 := keepc hSw a1; have z3 := keepc hSw p0; have z4 := keepc hSw p1; have z5 := keepc hSw q0; go_simp
    try simp only [Act.put, List.getElem_toArray, List.getElem_cons_zero, List.getElem_cons_succ, List.setIfInBounds_toArray, List.set_cons_zero, List.set_cons_succ]
    refine wpAnyK_take (i := 4) (v := .pointer (some ⟨g, off, none⟩)) rfl (by kernel_rfl) (by kernel_rfl) (by kernel_rfl) (by kernel_rfl) (fun _ _ _ h => h) (Or.inl ⟨by rfl, fun w' hSw => ?_⟩) (by assumption) ?_
    · (try dsimp only at hSw); have z0 := keepc hSw t0; have z1 := keepc hSw t1; have z2 := keepc hSw a1; have z3 := keepc hSw p0; have z4 := keepc hSw p1; have z5 := keepc hSw q0; go_simp
    try simp only [Act.put, List.getElem_toArray, List.getElem_cons_zero, List.getElem_cons_succ, List.setIfInBounds_toArray, List.set_cons_zero, List.set_cons_succ]
    refine wpAnyK_take (i := 5) (v := .int .i64 v) rfl (by kernel_rfl) (by kernel_rfl) (by kernel_rfl) (by kernel_rfl) (fun _ _ _ h => h) (Or.inl ⟨by rfl, fun w' hSw => ?_⟩) (by assumption) ?_
    · (try dsimp only at hSw); have z0 := keepc hSw t0; have z1 := keepc hSw t1; have z2 := keepc hSw a1; have z3 := keepc hSw p0; have z4 := keepc hSw p1; have z5 := keepc hSw q0; go_simp
    try simp only [Act.put, List.getElem_toArray, List.getElem_cons_zero, List.getElem_cons_succ, List.setIfInBounds_toArray, List.set_cons_zero, List.set_cons_succ]
    refine wpAnyK_take (i := 6) (v := .slice (some ⟨g, off, none⟩) (L c) ic) rfl (by kernel_rfl) (by kernel_rfl) (by kernel_rfl) (by kernel_rfl) (fun _ _ _ h => h) (Or.inl ⟨by rfl, fun w' hSw => ?_⟩) (by assumption) ?_
    · (try dsimp only at hSw); have z0 := keepc hSw t0; have z1 := keepc hSw t1; have z2 := keepc hSw a1; have z3 := keepc hSw p0; have z4 := keepc hSw p1; have z5 := keepc hSw q0; go_simp
    try simp only [Act.put, List.getElem_toArray, List.getElem_cons_zero, List.getElem_cons_succ, List.setIfInBounds_toArray, List.set_cons_zero, List.set_cons_succ]
    refine wpAnyK_take (i := 7) (v := .pointer (some ⟨g, off, none⟩)) rfl (by kernel_rfl) (by kernel_rfl) (by kernel_rfl) (by kernel_rfl) (fun _ _ _ h => h) (Or.inl ⟨by rfl, fun w' hSw => ?_⟩) (by assumption) ?_
    · (try dsimp only at hSw); have z0 := keepc hSw t0; have z1 := keepc hSw t1; have z2 := keepc hSw a1; have z3 := keepc hSw p0; have z4 := keepc hSw p1; have z5 := keepc hSw q0; go_simp
    try simp only [Act.put, List.getElem_toArray, List.getElem_cons_zero, List.getElem_cons_succ, List.setIfInBounds_toArray, List.set_cons_zero, List.set_cons_succ]
    refine wpAnyK_take (i := 8) (v := .pointer (some ⟨g, off + 1, none⟩)) rfl (by kernel_rfl) (by kernel_rfl) (by kernel_rfl) (by kernel_rfl) (fun _ _ _ h => h) (Or.inl ⟨by rfl, fun w' hSw => ?_⟩) (by assumption) ?_
    · (try dsimp only at hSw); have z0 := keepc hSw t0; have z1 := keepc hSw t1; have z2 := keepc hSw a1; have z3 := keepc hSw p0; have z4 := keepc hSw p1; have z5 := keepc hSw q0; go_simp
    try simp only [Act.put, List.getElem_toArray, List.getElem_cons_zero, List.getElem_cons_succ, List.setIfInBounds_toArray, List.set_cons_zero, List.set_cons_succ]
    refine wpAnyK_take (i := 9) (v := .int .i64 x1) rfl (by kernel_rfl) (by kernel_rfl) (by kernel_rfl) (by kernel_rfl) (fun _ _ _ h => h) (Or.inl ⟨by rfl, fun w' hSw => ?_⟩) (by assumption) ?_
    · (try dsimp only at hSw); have z0 := keepc hSw t0; have z1 := keepc hSw t1; have z2 := keepc hSw a1; have z3 := keepc hSw p0; have z4 := keepc hSw p1; have z5 := keepc hSw q0; go_simp
    try simp only [Act.put, List.getElem_toArray, List.getElem_cons_zero, List.getElem_cons_succ, List.setIfInBounds_toArray, List.set_cons_zero, List.set_cons_succ]
    refine wpAnyK_take (i := 10) (v := .pointer (some ⟨mb, mo + v, none⟩)) rfl (by kernel_rfl) (by kernel_rfl) (by kernel_rfl) (by kernel_rfl) (fun _ _ _ h => h) (Or.inl ⟨by rfl, fun w' hSw => ?_⟩) (by assumption) ?_
    · (try dsimp only at hSw); have z0 := keepc hSw t0; have z1 := keepc hSw t1; have z2 := keepc hSw a1; have z3 := keepc hSw p0; have z4 := keepc hSw p1; have z5 := keepc hSw q0; go_simp
    try simp only [Act.put, List.getElem_toArray, List.getElem_cons_zero, List.getElem_cons_succ, List.setIfInBounds_toArray, List.set_cons_zero, List.set_cons_succ]
    refine wpAnyK_one (i := 11) (by kernel_rfl) rfl (fun K hK => ?_)
    go_simp
    refine hK.out _ _ (fun h => absurd rfl h) (fun _ => ?_)
    clear hK K hHeld
    try simp only [Act.put, List.getElem_toArray, List.getElem_cons_zero, List.getElem_cons_succ, List.setIfInBounds_toArray, List.set_cons_zero, List.set_cons_succ]
    refine wpAnyK_done (by kernel_rfl) ?_
    have ta2 : Ta (W.setCell ⟨mb, mo + v, none⟩ (.int .i64 x1)).drew base (.slice (some ⟨mb, mo, none⟩) zs.length mc) (.slice (some ⟨bb, bo, none⟩) C bc) rv (zs.set v x1) C L F R Z vb vr tag := (HT.out.setM (x := x1) (by omega)).below ((Below.refl _ _).drew)
    have hB2 : Below base w (W.setCell ⟨mb, mo + v, none⟩ (.int .i64 x1)).drew := ((bx.bel.mono hb).setCell (p := ⟨mb, mo + v, none⟩) m1 _).drew
    have hsz := bx.size
    have hK2 : Kp tag w (W.setCell ⟨mb, mo + v, none⟩ (.int .i64 x1)).drew := (Kp.below (tag := tag) bx.bel).set (B := mb) (i := mo + v) (v := .int .i64 x1) (by omega)
    have u1 : (W.setCell ⟨mb, mo + v, none⟩ (.int .i64 x1)).drew.cell? ⟨w.heap.size, 1, none⟩ = some (.slice (some ⟨bb, bo, none⟩) C bc) := by show (W.setCell _ _).cell? _ = _; rw [other_set (by omega)]; exact t1
    have u2 : (W.setCell ⟨mb, mo + v, none⟩ (.int .i64 x1)).drew.cell? ⟨w.heap.size + 1, 1, none⟩ = some (.int .i64 c) := by show (W.setCell _ _).cell? _ = _; rw [other_set (by omega)]; exact a1
    have hsr := ta2.bi c hc
    have hbk := ta2.bI c hc
    rw [ev] at hsr hbk
    obtain ⟨k1, k2, k3⟩ := hbk g off _ ic rfl (by omega)
    obtain ⟨bz1, bz2, bz3⟩ := ta2.bb bb bo _ bc rfl (by omega)
    have bz4 := bz2.facts.1 (bo + c)
    obtain ⟨bz5, bz6⟩ := bz2.facts.2 (bo + c) (by omega)
    have hsl : (0 : Int) ≤ (1 : Int) := by decide
    have hWV : ∀ g len, Wc w g len → Wc (W.setCell ⟨mb, mo + v, none⟩ (.int .i64 x1)).drew g len := fun g len h => ((h.below bx.bel).set _).below ((Below.refl _ _).drew)
    generalize hV : (W.setCell ⟨mb, mo + v, none⟩ (.int .i64 x1)).drew = V at *
    clear hV t0 t1 a1 p0 p1 q0 y0 fy HT HCELL
    go_wp2
    by_cases hic : ic = 1
    · subst hic
      refine wp_region_but (z := 7) (S := fun W' => Below V.heap.size V W') (by kernel_rfl) ((Below.refl _ _).drew) (fun hHeld => ?_)
      refine wpAnyK_take (i := 0) (v := .pointer (some ⟨w.heap.size, 1, none⟩)) rfl (by kernel_rfl) (by kernel_rfl) (by kernel_rfl) (by kernel_rfl) (fun _ _ _ h => h) (Or.inl ⟨by rfl, fun w' hSw => ?_⟩) (by assumption) ?_
      · (try dsimp only at hSw); have z0 := keepc hSw u1; have z1 := keepc hSw u2; go_simp
      try simp only [Act.put, List.getElem_toArray, List.getElem_cons_zero, List.getElem_cons_succ, List.setIfInBounds_toArray, List.set_cons_zero, List.set_cons_succ]
      refine wpAnyK_take (i := 1) (v := .slice (some ⟨bb, bo, none⟩) C bc) rfl (by kernel_rfl) (by kernel_rfl) (by kernel_rfl) (by kernel_rfl) (fun _ _ _ h => h) (Or.inl ⟨by rfl, fun w' hSw => ?_⟩) (by assumption) ?_
      · (try dsimp only at hSw); have z0 := keepc hSw u1; have z1 := keepc hSw u2; go_simp
      try simp only [Act.put, List.getElem_toArray, List.getElem_cons_zero, List.getElem_cons_succ, List.setIfInBounds_toArray, List.set_cons_zero, List.set_cons_succ]
      refine wpAnyK_take (i := 2) (v := .pointer (some ⟨w.heap.size + 1, 1, none⟩)) rfl (by kernel_rfl) (by kernel_rfl) (by kernel_rfl) (by kernel_rfl) (fun _ _ _ h => h) (Or.inl ⟨by rfl, fun w' hSw => ?_⟩) (by assumption) ?_
      · (try dsimp only at hSw); have z0 := keepc hSw u1; have z1 := keepc hSw u2; go_simp
      try simp only [Act.put, List.getElem_toArray, List.getElem_cons_zero, List.getElem_cons_succ, List.setIfInBounds_toArray, List.set_cons_zero, List.set_cons_succ]
      refine wpAnyK_take (i := 3) (v := .int .i64 c) rfl (by kernel_rfl) (by kernel_rfl) (by kernel_rfl) (by kernel_rfl) (fun _ _ _ h => h) (Or.inl ⟨by rfl, fun w' hSw => ?_⟩) (by assumption) ?_
      · (try dsimp only at hSw); have z0 := keepc hSw u1; have z1 := keepc hSw u2; go_simp
      try simp only [Act.put, List.getElem_toArray, List.getElem_cons_zero, List.getElem_cons_succ, List.setIfInBounds_toArray, List.set_cons_zero, List.set_cons_succ]
      refine wpAnyK_take (i := 4) (v := .slice (some ⟨g, off, none⟩) (L c) 1) rfl (by kernel_rfl) (by kernel_rfl) (by kernel_rfl) (by kernel_rfl) (fun _ _ _ h => h) (Or.inl ⟨by rfl, fun w' hSw => ?_⟩) (by assumption) ?_
      · (try dsimp only at hSw); have z0 := keepc hSw u1; have z1 := keepc hSw u2; go_simp
      try simp only [Act.put, List.getElem_toArray, List.getElem_cons_zero, List.getElem_cons_succ, List.setIfInBounds_toArray, List.set_cons_zero, List.set_cons_succ]
      refine wpAnyK_take (i := 5) (v := .slice (some ⟨g, off, none⟩) 0 0) rfl (by kernel_rfl) (by kernel_rfl) (by kernel_rfl) (by kernel_rfl) (fun _ _ _ h => h) (Or.inl ⟨by rfl, fun w' hSw => ?_⟩) (by assumption) ?_
      · (try dsimp only at hSw); have z0 := keepc hSw u1; have z1 := keepc hSw u2; go_simp
      try simp only [Act.put, List.getElem_toArray, List.getElem_cons_zero, List.getElem_cons_succ, List.setIfInBounds_toArray, List.set_cons_zero, List.set_cons_succ]
      refine wpAnyK_take (i := 6) (v := .pointer (some ⟨bb, bo + c, none⟩)) rfl (by kernel_rfl) (by kernel_rfl) (by kernel_rfl) (by kernel_rfl) (fun _ _ _ h => h) (Or.inl ⟨by rfl, fun w' hSw => ?_⟩) (by assumption) ?_
      · (try dsimp only at hSw); have z0 := keepc hSw u1; have z1 := keepc hSw u2; go_simp
      try simp only [Act.put, List.getElem_toArray, List.getElem_cons_zero, List.getElem_cons_succ, List.setIfInBounds_toArray, List.set_cons_zero, List.set_cons_succ]
      obtain ⟨tag3, ta3, ht3⟩ := (ta2.below ((Below.refl _ _).drew)).putB2 (c := c) (w1 := V.drew) (row := none) (u := .slice (some ⟨g, off, none⟩) 0 0) (n' := L c - 1) (f' := fun j => F c (j + 1)) hc ⟨rfl, rfl, rfl, Nat.le_refl _, fun _ _ _ => rfl⟩ (fun x e => by cases e) (by rw [show L c - 1 = 0 by omega]; exact ⟨_, 0, rfl, fun hp => absurd hp (by omega)⟩) (fun x off' n' cap' e hh => by
        exact absurd hh (by omega)) (by have := hB2.size; show base ≤ V.heap.size; omega)
      have et3 : tag3 = tag := by
        funext x
        rw [ht3 x]
        exact if_neg (fun q => absurd q.2 (by omega))
      rw [et3] at ta3
      clear ht3 et3 tag3
      have HF := hide (And.intro (Tr.drain hT0 hc hWV hB2.size ev (.inl ⟨rfl, by omega⟩) ta3) (And.intro ((hB2.drew).setCell (p := ⟨bb, bo + c, none⟩) b1 (.slice (some ⟨g, off, none⟩) 0 0)) (Kp.set (w1 := V.drew) (B := bb) (i := bo + c) (v := .slice (some ⟨g, off, none⟩) 0 0) (fun j hj ht => hK2 j hj ht) (by omega))))
      clear ta3 ta2 hsr hbk k2 bz2 hK2
      refine wpAnyK_one (i := 7) (by kernel_rfl) rfl (fun K hK => ?_)
      go_simp
      refine hK.out _ _ (fun h => absurd rfl h) (fun _ => ?_)
      clear hK K hHeld u1 u2
      try simp only [Act.put, List.getElem_toArray, List.getElem_cons_zero, List.getElem_cons_succ, List.setIfInBounds_toArray, List.set_cons_zero, List.set_cons_succ]
      refine wpAnyK_done (by kernel_rfl) ?_
      go_wp2
      go_ret
      first | exact .inr ⟨hpos, rfl, ⟨_, _, HF.out.1⟩, HF.out.2.1, HF.out.2.2⟩ | exact ⟨hpos, rfl, ⟨_, _, HF.out.1⟩, HF.out.2.1, HF.out.2.2⟩ | exact ⟨rfl, ⟨_, _, HF.out.1⟩, HF.out.2.1, HF.out.2.2⟩
    · refine wp_region_but (z := 7) (S := fun W' => Below V.heap.size V W') (by kernel_rfl) ((Below.refl _ _).drew) (fun hHeld => ?_)
      refine wpAnyK_take (i := 0) (v := .pointer (some ⟨w.heap.size, 1, none⟩)) rfl (by kernel_rfl) (by kernel_rfl) (by kernel_rfl) (by kernel_rfl) (fun _ _ _ h => h) (Or.inl ⟨by rfl, fun w' hSw => ?_⟩) (by assumption) ?_
      · (try dsimp only at hSw); have z0 := keepc hSw u1; have z1 := keepc hSw u2; go_simp
      try simp only [Act.put, List.getElem_toArray, List.getElem_cons_zero, List.getElem_cons_succ, List.setIfInBounds_toArray, List.set_cons_zero, List.set_cons_succ]
      refine wpAnyK_take (i := 1) (v := .slice (some ⟨bb, bo, none⟩) C bc) rfl (by kernel_rfl) (by kernel_rfl) (by kernel_rfl) (by kernel_rfl) (fun _ _ _ h => h) (Or.inl ⟨by rfl, fun w' hSw => ?_⟩) (by assumption) ?_
      · (try dsimp only at hSw); have z0 := keepc hSw u1; have z1 := keepc hSw u2; go_simp
      try simp only [Act.put, List.getElem_toArray, List.getElem_cons_zero, List.getElem_cons_succ, List.setIfInBounds_toArray, List.set_cons_zero, List.set_cons_succ]
      refine wpAnyK_take (i := 2) (v := .pointer (some ⟨w.heap.size + 1, 1, none⟩)) rfl (by kernel_rfl) (by kernel_rfl) (by kernel_rfl) (by kernel_rfl) (fun _ _ _ h => h) (Or.inl ⟨by rfl, fun w' hSw => ?_⟩) (by assumption) ?_
      · (try dsimp only at hSw); have z0 := keepc hSw u1; have z1 := keepc hSw u2; go_simp
      try simp only [Act.put, List.getElem_toArray, List.getElem_cons_zero, List.getElem_cons_succ, List.setIfInBounds_toArray, List.set_cons_zero, List.set_cons_succ]
      refine wpAnyK_take (i := 3) (v := .int .i64 c) rfl (by kernel_rfl) (by kernel_rfl) (by kernel_rfl) (by kernel_rfl) (fun _ _ _ h => h) (Or.inl ⟨by rfl, fun w' hSw => ?_⟩) (by assumption) ?_
      · (try dsimp only at hSw); have z0 := keepc hSw u1; have z1 := keepc hSw u2; go_simp
      try simp only [Act.put, List.getElem_toArray, List.getElem_cons_zero, List.getElem_cons_succ, List.setIfInBounds_toArray, List.set_cons_zero, List.set_cons_succ]
      refine wpAnyK_take (i := 4) (v := .slice (some ⟨g, off, none⟩) (L c) ic) rfl (by kernel_rfl) (by kernel_rfl) (by kernel_rfl) (by kernel_rfl) (fun _ _ _ h => h) (Or.inl ⟨by rfl, fun w' hSw => ?_⟩) (by assumption) ?_
      · (try dsimp only at hSw); have z0 := keepc hSw u1; have z1 := keepc hSw u2; go_simp
      try simp only [Act.put, List.getElem_toArray, List.getElem_cons_zero, List.getElem_cons_succ, List.setIfInBounds_toArray, List.set_cons_zero, List.set_cons_succ]
      refine wpAnyK_take (i := 5) (v := .slice (some ⟨g, off + 2, none⟩) (L c - 1) (ic - 1)) rfl (by kernel_rfl) (by kernel_rfl) (by kernel_rfl) (by kernel_rfl) (fun _ _ _ h => h) (Or.inl ⟨by rfl, fun w' hSw => ?_⟩) (by assumption) ?_
      · (try dsimp only at hSw); have z0 := keepc hSw u1; have z1 := keepc hSw u2; go_simp
      try simp only [Act.put, List.getElem_toArray, List.getElem_cons_zero, List.getElem_cons_succ, List.setIfInBounds_toArray, List.set_cons_zero, List.set_cons_succ]
      refine wpAnyK_take (i := 6) (v := .pointer (some ⟨bb, bo + c, none⟩)) rfl (by kernel_rfl) (by kernel_rfl) (by kernel_rfl) (by kernel_rfl) (fun _ _ _ h => h) (Or.inl ⟨by rfl, fun w' hSw => ?_⟩) (by assumption) ?_
      · (try dsimp only at hSw); have z0 := keepc hSw u1; have z1 := keepc hSw u2; go_simp
      try simp only [Act.put, List.getElem_toArray, List.getElem_cons_zero, List.getElem_cons_succ, List.setIfInBounds_toArray, List.set_cons_zero, List.set_cons_succ]
      obtain ⟨tag3, ta3, ht3⟩ := (ta2.below ((Below.refl _ _).drew)).putB2 (c := c) (w1 := V.drew) (row := none) (u := .slice (some ⟨g, off + 2, none⟩) (L c - 1) (ic - 1)) (n' := L c - 1) (f' := fun j => F c (j + 1)) hc ⟨rfl, rfl, rfl, Nat.le_refl _, fun _ _ _ => rfl⟩ (fun x e => by cases e) (Sr.below (Sr.shift hsr hpos) ((Below.refl _ _).drew)) (fun x off' n' cap' e hh => by
        simp only [Value.slice.injEq, Option.some.injEq, Addr.mk.injEq] at e
        obtain ⟨⟨rfl, rfl, _⟩, _, _⟩ := e
        refine ⟨k1, ?_, .inl k3⟩
        have e2 : off + 2 + (L c - 1) * 2 = off + L c * 2 := by omega
        rw [e2]
        exact k2) (by have := hB2.size; show base ≤ V.heap.size; omega)
      have et3 : tag3 = tag := by
        funext x
        rw [ht3 x]
        split
        · rename_i q; have q1 := q.1; simp only [Value.ownBlock, Option.some.injEq] at q1; rw [← q1]; exact k3.symm
        · rfl
      rw [et3] at ta3
      clear ht3 et3 tag3
      have HF := hide (And.intro (Tr.drain hT0 hc hWV hB2.size ev (.inr ⟨rfl, hpos⟩) ta3) (And.intro ((hB2.drew).setCell (p := ⟨bb, bo + c, none⟩) b1 (.slice (some ⟨g, off + 2, none⟩) (L c - 1) (ic - 1))) (Kp.set (w1 := V.drew) (B := bb) (i := bo + c) (v := .slice (some ⟨g, off + 2, none⟩) (L c - 1) (ic - 1)) (fun j hj ht => hK2 j hj ht) (by omega))))
      clear ta3 ta2 hsr hbk k2 bz2 hK2
      refine wpAnyK_one (i := 7) (by kernel_rfl) rfl (fun K hK => ?_)
      go_simp
      refine hK.out _ _ (fun h => absurd rfl h) (fun _ => ?_)
      clear hK K hHeld u1 u2
      try simp only [Act.put, List.getElem_toArray, List.getElem_cons_zero, List.getElem_cons_succ, List.setIfInBounds_toArray, List.set_cons_zero, List.set_cons_succ]
      refine wpAnyK_done (by kernel_rfl) ?_
      go_wp2
      go_ret
      first | exact .inr ⟨hpos, rfl, ⟨_, _, HF.out.1⟩, HF.out.2.1, HF.out.2.2⟩ | exact ⟨hpos, rfl, ⟨_, _, HF.out.1⟩, HF.out.2.1, HF.out.2.2⟩ | exact ⟨rfl, ⟨_, _, HF.out.1⟩, HF.out.2.1, HF.out.2.2⟩

end Go.Proofs.Ytneofegnbflfiaa

/- an act of a Tso whose buffers have room (written by mkSt.py) -/
namespace Go.Proofs.Ytneofegnbflfiaa
open Go.RowKit
set_option linter.unusedVariables false
set_option linter.unusedSimpArgs false

set_option maxHeartbeats 8000000 in
set_option maxRecDepth 20000 in
theorem do_rm {tag0 : Nat → Nat} {n0 : Nat} (mv bv rv : Value) (d : Td) (C : Nat) (vb vr : Nat → Value) (tag : Nat → Nat) (base : Nat) (k co va vl rg : Int) (w : World) (h : Tr tag0 n0 w base mv bv rv d.zs C d.L d.F C d.Z vb vr tag) (hok : tokD d C = true) (hb : base ≤ w.heap.size) :
    Calls Try.prog 55 #[.agg #[mv, bv, rv], .agg (five k co va vl rg)] w fun e w' => e = .returned (.int .i64 (okc d C k co va vl rg)) ∧ (∃ vb' tag', Tr tag0 n0 w' base mv bv rv (nxt d C k co va vl rg).zs C (nxt d C k co va vl rg).L (nxt d C k co va vl rg).F C (nxt d C k co va vl rg).Z vb' vr tag') ∧ Below base w w' ∧ Kp tag w w' := by
  obtain ⟨hC, _, hz3, hzr, hpa⟩ := tok_parts hok
  have HZ3 := hide hz3
  have HPA := hide hpa
  clear hz3 hpa hzr
  have hT := h.ta.tv
  obtain ⟨⟨ma, mc, rfl, _⟩, ⟨ba, bc, rfl, _⟩, ⟨ra, rc, rfl, _⟩⟩ := hT
  have HH := hide h
  have hbA : Below w.heap.size w ((w.alloc (.cells #[.slice ma d.zs.length mc, .slice ba C bc, .slice ra C rc] 28)).alloc (.cells (five k co va vl rg) 37)) := ((Below.refl _ _).alloc (Nat.le_refl _) _).alloc (by simp) _
  have hA1 : ((w.alloc (.cells #[.slice ma d.zs.length mc, .slice ba C bc, .slice ra C rc] 28)).alloc (.cells (five k co va vl rg) 37)).heap[w.heap.size]? = some (.cells #[.slice ma d.zs.length mc, .slice ba C bc, .slice ra C rc] 28 (0, 0)) := by rw [Below.heap_alloc _ _ _ (by simp)]; exact heap_alloc_new _ _
  have hA2 : ((w.alloc (.cells #[.slice ma d.zs.length mc, .slice ba C bc, .slice ra C rc] 28)).alloc (.cells (five k co va vl rg) 37)).heap[w.heap.size + 1]? = some (.cells (five k co va vl rg) 37 (0, 0)) := by
    have := heap_alloc_new (w.alloc (.cells #[.slice ma d.zs.length mc, .slice ba C bc, .slice ra C rc] 28)) (.cells (five k co va vl rg) 37)
    simpa only [World.size_alloc] using this
  have hco := fun W => cores_any (.slice none 0 0) ba C bc ra C rc ma d.zs.length mc W
  clear h
  by_cases e1 : k = 1
  · subst e1
    have hfo := fun W => formOk_any true true false true (fnV 92) 1 co va vl rg C W (notNil _) (notNilG _)
    rw [fm1 (C : Int) co va vl rg] at hfo
    go_enter Try.func55, Try.ntmps55
    go_wp2_with fail
    refine (kind1 _).mono ?_
    rintro e w1 ⟨rfl, hb1⟩
    have hA3 : Below w1.heap.size w1 (w1.alloc (.cells (kd true true false (fnV 92)) 101)) := (Below.refl _ _).alloc (Nat.le_refl _) _
    have hb3 := hb1.trans (hA3.mono hb1.size)
    have g1 := heap_b hA1 hb3
    have g2 := heap_b hA2 hb3
    have g3 : (w1.alloc (.cells (kd true true false (fnV 92)) 101)).heap[w1.heap.size]? = some (.cells (kd true true false (fnV 92)) 101 (0, 0)) := heap_alloc_new _ _
    have hB3 := hbA.trans (hb3.mono hbA.size)
    clear hb1 hA3 hb3 hA1 hA2 hbA
    have x0 := (cell_of_row _ _ 0 _ _ _ g1).trans rfl
    have x1 := (cell_of_row _ _ 1 _ _ _ g1).trans rfl
    have x2 := (cell_of_row _ _ 2 _ _ _ g1).trans rfl
    have y0 := (cell_of_row _ _ 0 _ _ _ g2).trans rfl
    have y1 := (cell_of_row _ _ 1 _ _ _ g2).trans rfl
    have y2 := (cell_of_row _ _ 2 _ _ _ g2).trans rfl
    have y3 := (cell_of_row _ _ 3 _ _ _ g2).trans rfl
    have y4 := (cell_of_row _ _ 4 _ _ _ g2).trans rfl
    have v0 := (cell_of_row _ _ 0 _ _ _ g3).trans rfl
    have v1 := (cell_of_row _ _ 1 _ _ _ g3).trans rfl
    have v2 := (cell_of_row _ _ 2 _ _ _ g3).trans rfl
    have v3 := (cell_of_row _ _ 3 _ _ _ g3).trans rfl
    clear g1 g2 g3
    cases hf : fmB (C : Int) 1 co va vl rg
    · go_wp2
      refine wp_region_held_drew (S := fun w' => Below (w1.alloc (.cells (kd true true false (fnV 92)) 101)).heap.size (w1.alloc (.cells (kd true true false (fnV 92)) 101)) w') (by kernel_rfl) ((Below.refl _ _).drew) (fun hHeld => ?_)
      refine wpAnyH_take (i := 0) (v := .agg (kd true true false (fnV 92))) rfl (by kernel_rfl) (by kernel_rfl) (by kernel_rfl) (fun _ _ _ h => h) (Or.inl ⟨by rfl, fun w' hSw => ?_⟩) (by assumption) ?_
      · (try dsimp only at hSw); have z0 := keepc hSw x0; have z1 := keepc hSw x1; have z2 := keepc hSw x2; have z3 := keepc hSw y0; have z4 := keepc hSw y1; have z5 := keepc hSw y2; have z6 := keepc hSw y3; have z7 := keepc hSw y4; have z8 := keepc hSw v0; have z9 := keepc hSw v1; have z10 := keepc hSw v2; have z11 := keepc hSw v3; go_simp
      try simp only [Act.put, List.getElem_toArray, List.getElem_cons_zero, List.getElem_cons_succ, List.setIfInBounds_toArray, List.set_cons_zero, List.set_cons_succ]
      refine wpAnyH_take (i := 1) (v := .agg (five 1 co va vl rg)) rfl (by kernel_rfl) (by kernel_rfl) (by kernel_rfl) (fun _ _ _ h => h) (Or.inl ⟨by rfl, fun w' hSw => ?_⟩) (by assumption) ?_
      · (try dsimp only at hSw); have z0 := keepc hSw x0; have z1 := keepc hSw x1; have z2 := keepc hSw x2; have z3 := keepc hSw y0; have z4 := keepc hSw y1; have z5 := keepc hSw y2; have z6 := keepc hSw y3; have z7 := keepc hSw y4; have z8 := keepc hSw v0; have z9 := keepc hSw v1; have z10 := keepc hSw v2; have z11 := keepc hSw v3; go_simp
      try simp only [Act.put, List.getElem_toArray, List.getElem_cons_zero, List.getElem_cons_succ, List.setIfInBounds_toArray, List.set_cons_zero, List.set_cons_succ]
      refine wpAnyH_take (i := 2) (v := .agg #[.slice ma d.zs.length mc, .slice ba C bc, .slice ra C rc]) rfl (by kernel_rfl) (by kernel_rfl) (by kernel_rfl) (fun _ _ _ h => h) (Or.inl ⟨by rfl, fun w' hSw => ?_⟩) (by assumption) ?_
      · (try dsimp only at hSw); have z0 := keepc hSw x0; have z1 := keepc hSw x1; have z2 := keepc hSw x2; have z3 := keepc hSw y0; have z4 := keepc hSw y1; have z5 := keepc hSw y2; have z6 := keepc hSw y3; have z7 := keepc hSw y4; have z8 := keepc hSw v0; have z9 := keepc hSw v1; have z10 := keepc hSw v2; have z11 := keepc hSw v3; go_simp
      try simp only [Act.put, List.getElem_toArray, List.getElem_cons_zero, List.getElem_cons_succ, List.setIfInBounds_toArray, List.set_cons_zero, List.set_cons_succ]
      refine wpAnyH_ready (rs := [3]) (by kernel_rfl) (by simp) ?_
      refine AllReadyH.cons rfl (fun K hK => ?_) AllReadyH.nil
      go_simp
      refine (hco _).mono ?_
      rintro e wc3 ⟨rfl, hbc⟩
      refine hK.out _ _ (hHeld.trans (hbc.mono hHeld.size)) (fun hHeld => ?_)
      clear hK K hbc
      try simp only [Act.put, List.getElem_toArray, List.getElem_cons_zero, List.getElem_cons_succ, List.setIfInBounds_toArray, List.set_cons_zero, List.set_cons_succ]
      refine wpAnyH_ready (rs := [4]) (by kernel_rfl) (by simp) ?_
      refine AllReadyH.cons rfl (fun K hK => ?_) AllReadyH.nil
      go_simp
      refine (hfo _).mono ?_
      rintro e wc4 ⟨rfl, hbc⟩
      rw [hf]
      refine hK.out _ _ (hHeld.trans (hbc.mono hHeld.size)) (fun hHeld => ?_)
      clear hK K hbc
      try simp only [Act.put, List.getElem_toArray, List.getElem_cons_zero, List.getElem_cons_succ, List.setIfInBounds_toArray, List.set_cons_zero, List.set_cons_succ]
      refine wpAnyH_take (i := 5) (v := .bool true) rfl (by kernel_rfl) (by kernel_rfl) (by kernel_rfl) (fun _ _ _ h => h) (Or.inl ⟨by rfl, fun w' hSw => ?_⟩) (by assumption) ?_
      · (try dsimp only at hSw); have z0 := keepc hSw x0; have z1 := keepc hSw x1; have z2 := keepc hSw x2; have z3 := keepc hSw y0; have z4 := keepc hSw y1; have z5 := keepc hSw y2; have z6 := keepc hSw y3; have z7 := keepc hSw y4; have z8 := keepc hSw v0; have z9 := keepc hSw v1; have z10 := keepc hSw v2; have z11 := keepc hSw v3; go_simp
      try simp only [Act.put, List.getElem_toArray, List.getElem_cons_zero, List.getElem_cons_succ, List.setIfInBounds_toArray, List.set_cons_zero, List.set_cons_succ]
      refine wpAnyH_done (by kernel_rfl) ?_ _
      have hB4 := hB3.trans (hHeld.mono hB3.size)
      replace x0 := keepc hHeld x0
      replace x1 := keepc hHeld x1
      replace x2 := keepc hHeld x2
      replace y0 := keepc hHeld y0
      replace y1 := keepc hHeld y1
      replace y2 := keepc hHeld y2
      replace y3 := keepc hHeld y3
      replace y4 := keepc hHeld y4
      replace v0 := keepc hHeld v0
      replace v1 := keepc hHeld v1
      replace v2 := keepc hHeld v2
      replace v3 := keepc hHeld v3
      clear hHeld hB3 hco hfo
      have HF := hide (And.intro (HH.out.below hB4) (And.intro (hB4.mono hb) (Kp.below (tag := tag) hB4)))
      have HZ := hide (ok_form (d := d) hf)
      clear x0 x1 x2 y0 y1 y2 y3 y4 v0 v1 v2 v3 hB4
      go_wp2
      go_ret
      exact ⟨ret_i HZ.out.1.symm, by rw [HZ.out.2]; exact ⟨_, _, HF.out.1⟩, HF.out.2.1, HF.out.2.2⟩
    · go_wp2
      refine wp_region_held_drew (S := fun w' => Below (w1.alloc (.cells (kd true true false (fnV 92)) 101)).heap.size (w1.alloc (.cells (kd true true false (fnV 92)) 101)) w') (by kernel_rfl) ((Below.refl _ _).drew) (fun hHeld => ?_)
      refine wpAnyH_take (i := 0) (v := .agg (kd true true false (fnV 92))) rfl (by kernel_rfl) (by kernel_rfl) (by kernel_rfl) (fun _ _ _ h => h) (Or.inl ⟨by rfl, fun w' hSw => ?_⟩) (by assumption) ?_
      · (try dsimp only at hSw); have z0 := keepc hSw x0; have z1 := keepc hSw x1; have z2 := keepc hSw x2; have z3 := keepc hSw y0; have z4 := keepc hSw y1; have z5 := keepc hSw y2; have z6 := keepc hSw y3; have z7 := keepc hSw y4; have z8 := keepc hSw v0; have z9 := keepc hSw v1; have z10 := keepc hSw v2; have z11 := keepc hSw v3; go_simp
      try simp only [Act.put, List.getElem_toArray, List.getElem_cons_zero, List.getElem_cons_succ, List.setIfInBounds_toArray, List.set_cons_zero, List.set_cons_succ]
      refine wpAnyH_take (i := 1) (v := .agg (five 1 co va vl rg)) rfl (by kernel_rfl) (by kernel_rfl) (by kernel_rfl) (fun _ _ _ h => h) (Or.inl ⟨by rfl, fun w' hSw => ?_⟩) (by assumption) ?_
      · (try dsimp only at hSw); have z0 := keepc hSw x0; have z1 := keepc hSw x1; have z2 := keepc hSw x2; have z3 := keepc hSw y0; have z4 := keepc hSw y1; have z5 := keepc hSw y2; have z6 := keepc hSw y3; have z7 := keepc hSw y4; have z8 := keepc hSw v0; have z9 := keepc hSw v1; have z10 := keepc hSw v2; have z11 := keepc hSw v3; go_simp
      try simp only [Act.put, List.getElem_toArray, List.getElem_cons_zero, List.getElem_cons_succ, List.setIfInBounds_toArray, List.set_cons_zero, List.set_cons_succ]
      refine wpAnyH_take (i := 2) (v := .agg #[.slice ma d.zs.length mc, .slice ba C bc, .slice ra C rc]) rfl (by kernel_rfl) (by kernel_rfl) (by kernel_rfl) (fun _ _ _ h => h) (Or.inl ⟨by rfl, fun w' hSw => ?_⟩) (by assumption) ?_
      · (try dsimp only at hSw); have z0 := keepc hSw x0; have z1 := keepc hSw x1; have z2 := keepc hSw x2; have z3 := keepc hSw y0; have z4 := keepc hSw y1; have z5 := keepc hSw y2; have z6 := keepc hSw y3; have z7 := keepc hSw y4; have z8 := keepc hSw v0; have z9 := keepc hSw v1; have z10 := keepc hSw v2; have z11 := keepc hSw v3; go_simp
      try simp only [Act.put, List.getElem_toArray, List.getElem_cons_zero, List.getElem_cons_succ, List.setIfInBounds_toArray, List.set_cons_zero, List.set_cons_succ]
      refine wpAnyH_ready (rs := [3]) (by kernel_rfl) (by simp) ?_
      refine AllReadyH.cons rfl (fun K hK => ?_) AllReadyH.nil
      go_simp
      refine (hco _).mono ?_
      rintro e wc3 ⟨rfl, hbc⟩
      refine hK.out _ _ (hHeld.trans (hbc.mono hHeld.size)) (fun hHeld => ?_)
      clear hK K hbc
      try simp only [Act.put, List.getElem_toArray, List.getElem_cons_zero, List.getElem_cons_succ, List.setIfInBounds_toArray, List.set_cons_zero, List.set_cons_succ]
      refine wpAnyH_ready (rs := [4]) (by kernel_rfl) (by simp) ?_
      refine AllReadyH.cons rfl (fun K hK => ?_) AllReadyH.nil
      go_simp
      refine (hfo _).mono ?_
      rintro e wc4 ⟨rfl, hbc⟩
      rw [hf]
      refine hK.out _ _ (hHeld.trans (hbc.mono hHeld.size)) (fun hHeld => ?_)
      clear hK K hbc
      try simp only [Act.put, List.getElem_toArray, List.getElem_cons_zero, List.getElem_cons_succ, List.setIfInBounds_toArray, List.set_cons_zero, List.set_cons_succ]
      refine wpAnyH_take (i := 5) (v := .bool false) rfl (by kernel_rfl) (by kernel_rfl) (by kernel_rfl) (fun _ _ _ h => h) (Or.inl ⟨by rfl, fun w' hSw => ?_⟩) (by assumption) ?_
      · (try dsimp only at hSw); have z0 := keepc hSw x0; have z1 := keepc hSw x1; have z2 := keepc hSw x2; have z3 := keepc hSw y0; have z4 := keepc hSw y1; have z5 := keepc hSw y2; have z6 := keepc hSw y3; have z7 := keepc hSw y4; have z8 := keepc hSw v0; have z9 := keepc hSw v1; have z10 := keepc hSw v2; have z11 := keepc hSw v3; go_simp
      try simp only [Act.put, List.getElem_toArray, List.getElem_cons_zero, List.getElem_cons_succ, List.setIfInBounds_toArray, List.set_cons_zero, List.set_cons_succ]
      refine wpAnyH_done (by kernel_rfl) ?_ _
      have hB4 := hB3.trans (hHeld.mono hB3.size)
      replace x0 := keepc hHeld x0
      replace x1 := keepc hHeld x1
      replace x2 := keepc hHeld x2
      replace y0 := keepc hHeld y0
      replace y1 := keepc hHeld y1
      replace y2 := keepc hHeld y2
      replace y3 := keepc hHeld y3
      replace y4 := keepc hHeld y4
      replace v0 := keepc hHeld v0
      replace v1 := keepc hHeld v1
      replace v2 := keepc hHeld v2
      replace v3 := keepc hHeld v3
      clear hHeld hB3 hco hfo
      obtain ⟨p1, p2⟩ := fm_core hf
      obtain ⟨c, rfl⟩ : ∃ c : Nat, co = c := ⟨co.toNat, by omega⟩
      have hcl : c < C := by omega
      have HPC := hide (HPA.out c hcl)
      have hTc := HH.out.below hB4
      obtain ⟨o1, o2⟩ := ok1 (d := d) hf
      simp only [Int.toNat_natCast] at o1 o2
      go_wp2_with fail
      refine (storeWaits_rm (.slice ma d.zs.length mc) (.slice ba C bc) (.slice ra C rc) d.zs C d.L d.F C d.Z vb vr tag base c 1 va vl rg _ hTc hcl (by omega) (by have := HPC.out.1; omega) (by have := hB4.size; omega)).mono ?_
      rintro e w5 (⟨h4, rfl, hb5⟩ | ⟨h4, rfl, ⟨u, tag2, ta5⟩, hb5, hk5⟩)
      · have HZ := hide (o1 h4)
        have HF := hide (And.intro (hTc.below hb5) (And.intro ((hB4.trans (hb5.mono hB4.size)).mono hb) (Kp.below (tag := tag) (hB4.trans (hb5.mono hB4.size)))))
        clear x0 x1 x2 y0 y1 y2 y3 y4 v0 v1 v2 v3 hB4 hb5 hTc o1 o2
        go_wp2
        go_ret
        exact ⟨ret_i HZ.out.1.symm, by rw [HZ.out.2]; exact ⟨_, _, HF.out.1⟩, HF.out.2.1, HF.out.2.2⟩
      · have HZ := hide (o2 h4)
        have HF := hide (And.intro ta5 (And.intro ((hB4.mono hb).trans hb5) ((Kp.below (tag := tag) hB4).trans hB4.size hk5)))
        clear x0 x1 x2 y0 y1 y2 y3 y4 v0 v1 v2 v3 hB4 hb5 hk5 hTc ta5 o1 o2
        go_wp2
        go_ret
        exact ⟨ret_i HZ.out.1.symm, by rw [HZ.out.2]; exact ⟨_, _, HF.out.1⟩, HF.out.2.1, HF.out.2.2⟩
  by_cases e2 : k = 2
  · subst e2
    have hfo := fun W => formOk_any true false true true (fnV 93) 2 co va vl rg C W (notNil _) (notNilG _)
    rw [fm2 (C : Int) co va vl rg] at hfo
    go_enter Try.func55, Try.ntmps55
    go_wp2_with fail
    refine (kind2 _).mono ?_
    rintro e w1 ⟨rfl, hb1⟩
    have hA3 : Below w1.heap.size w1 (w1.alloc (.cells (kd true false true (fnV 93)) 101)) := (Below.refl _ _).alloc (Nat.le_refl _) _
    have hb3 := hb1.trans (hA3.mono hb1.size)
    have g1 := heap_b hA1 hb3
    have g2 := heap_b hA2 hb3
    have g3 : (w1.alloc (.cells (kd true false true (fnV 93)) 101)).heap[w1.heap.size]? = some (.cells (kd true false true (fnV 93)) 101 (0, 0)) := heap_alloc_new _ _
    have hB3 := hbA.trans (hb3.mono hbA.size)
    clear hb1 hA3 hb3 hA1 hA2 hbA
    have x0 := (cell_of_row _ _ 0 _ _ _ g1).trans rfl
    have x1 := (cell_of_row _ _ 1 _ _ _ g1).trans rfl
    have x2 := (cell_of_row _ _ 2 _ _ _ g1).trans rfl
    have y0 := (cell_of_row _ _ 0 _ _ _ g2).trans rfl
    have y1 := (cell_of_row _ _ 1 _ _ _ g2).trans rfl
    have y2 := (cell_of_row _ _ 2 _ _ _ g2).trans rfl
    have y3 := (cell_of_row _ _ 3 _ _ _ g2).trans rfl
    have y4 := (cell_of_row _ _ 4 _ _ _ g2).trans rfl
    have v0 := (cell_of_row _ _ 0 _ _ _ g3).trans rfl
    have v1 := (cell_of_row _ _ 1 _ _ _ g3).trans rfl
    have v2 := (cell_of_row _ _ 2 _ _ _ g3).trans rfl
    have v3 := (cell_of_row _ _ 3 _ _ _ g3).trans rfl
    clear g1 g2 g3
    cases hf : fmB (C : Int) 2 co va vl rg
    · go_wp2
      refine wp_region_held_drew (S := fun w' => Below (w1.alloc (.cells (kd true false true (fnV 93)) 101)).heap.size (w1.alloc (.cells (kd true false true (fnV 93)) 101)) w') (by kernel_rfl) ((Below.refl _ _).drew) (fun hHeld => ?_)
      refine wpAnyH_take (i := 0) (v := .agg (kd true false true (fnV 93))) rfl (by kernel_rfl) (by kernel_rfl) (by kernel_rfl) (fun _ _ _ h => h) (Or.inl ⟨by rfl, fun w' hSw => ?_⟩) (by assumption) ?_
      · (try dsimp only at hSw); have z0 := keepc hSw x0; have z1 := keepc hSw x1; have z2 := keepc hSw x2; have z3 := keepc hSw y0; have z4 := keepc hSw y1; have z5 := keepc hSw y2; have z6 := keepc hSw y3; have z7 := keepc hSw y4; have z8 := keepc hSw v0; have z9 := keepc hSw v1; have z10 := keepc hSw v2; have z11 := keepc hSw v3; go_simp
      try simp only [Act.put, List.getElem_toArray, List.getElem_cons_zero, List.getElem_cons_succ, List.setIfInBounds_toArray, List.set_cons_zero, List.set_cons_succ]
      refine wpAnyH_take (i := 1) (v := .agg (five 2 co va vl rg)) rfl (by kernel_rfl) (by kernel_rfl) (by kernel_rfl) (fun _ _ _ h => h) (Or.inl ⟨by rfl, fun w' hSw => ?_⟩) (by assumption) ?_
      · (try dsimp only at hSw); have z0 := keepc hSw x0; have z1 := keepc hSw x1; have z2 := keepc hSw x2; have z3 := keepc hSw y0; have z4 := keepc hSw y1; have z5 := keepc hSw y2; have z6 := keepc hSw y3; have z7 := keepc hSw y4; have z8 := keepc hSw v0; have z9 := keepc hSw v1; have z10 := keepc hSw v2; have z11 := keepc hSw v3; go_simp
      try simp only [Act.put, List.getElem_toArray, List.getElem_cons_zero, List.getElem_cons_succ, List.setIfInBounds_toArray, List.set_cons_zero, List.set_cons_succ]
      refine wpAnyH_take (i := 2) (v := .agg #[.slice ma d.zs.length mc, .slice ba C bc, .slice ra C rc]) rfl (by kernel_rfl) (by kernel_rfl) (by kernel_rfl) (fun _ _ _ h => h) (Or.inl ⟨by rfl, fun w' hSw => ?_⟩) (by assumption) ?_
      · (try dsimp only at hSw); have z0 := keepc hSw x0; have z1 := keepc hSw x1; have z2 := keepc hSw x2; have z3 := keepc hSw y0; have z4 := keepc hSw y1; have z5 := keepc hSw y2; have z6 := keepc hSw y3; have z7 := keepc hSw y4; have z8 := keepc hSw v0; have z9 := keepc hSw v1; have z10 := keepc hSw v2; have z11 := keepc hSw v3; go_simp
      try simp only [Act.put, List.getElem_toArray, List.getElem_cons_zero, List.getElem_cons_succ, List.setIfInBounds_toArray, List.set_cons_zero, List.set_cons_succ]
      refine wpAnyH_ready (rs := [3]) (by kernel_rfl) (by simp) ?_
      refine AllReadyH.cons rfl (fun K hK => ?_) AllReadyH.nil
      go_simp
      refine (hco _).mono ?_
      rintro e wc3 ⟨rfl, hbc⟩
      refine hK.out _ _ (hHeld.trans (hbc.mono hHeld.size)) (fun hHeld => ?_)
      clear hK K hbc
      try simp only [Act.put, List.getElem_toArray, List.getElem_cons_zero, List.getElem_cons_succ, List.setIfInBounds_toArray, List.set_cons_zero, List.set_cons_succ]
      refine wpAnyH_ready (rs := [4]) (by kernel_rfl) (by simp) ?_
      refine AllReadyH.cons rfl (fun K hK => ?_) AllReadyH.nil
      go_simp
      refine (hfo _).mono ?_
      rintro e wc4 ⟨rfl, hbc⟩
      rw [hf]
      refine hK.out _ _ (hHeld.trans (hbc.mono hHeld.size)) (fun hHeld => ?_)
      clear hK K hbc
      try simp only [Act.put, List.getElem_toArray, List.getElem_cons_zero, List.getElem_cons_succ, List.setIfInBounds_toArray, List.set_cons_zero, List.set_cons_succ]
      refine wpAnyH_take (i := 5) (v := .bool true) rfl (by kernel_rfl) (by kernel_rfl) (by kernel_rfl) (fun _ _ _ h => h) (Or.inl ⟨by rfl, fun w' hSw => ?_⟩) (by assumption) ?_
      · (try dsimp only at hSw); have z0 := keepc hSw x0; have z1 := keepc hSw x1; have z2 := keepc hSw x2; have z3 := keepc hSw y0; have z4 := keepc hSw y1; have z5 := keepc hSw y2; have z6 := keepc hSw y3; have z7 := keepc hSw y4; have z8 := keepc hSw v0; have z9 := keepc hSw v1; have z10 := keepc hSw v2; have z11 := keepc hSw v3; go_simp
      try simp only [Act.put, List.getElem_toArray, List.getElem_cons_zero, List.getElem_cons_succ, List.setIfInBounds_toArray, List.set_cons_zero, List.set_cons_succ]
      refine wpAnyH_done (by kernel_rfl) ?_ _
      have hB4 := hB3.trans (hHeld.mono hB3.size)
      replace x0 := keepc hHeld x0
      replace x1 := keepc hHeld x1
      replace x2 := keepc hHeld x2
      replace y0 := keepc hHeld y0
      replace y1 := keepc hHeld y1
      replace y2 := keepc hHeld y2
      replace y3 := keepc hHeld y3
      replace y4 := keepc hHeld y4
      replace v0 := keepc hHeld v0
      replace v1 := keepc hHeld v1
      replace v2 := keepc hHeld v2
      replace v3 := keepc hHeld v3
      clear hHeld hB3 hco hfo
      have HF := hide (And.intro (HH.out.below hB4) (And.intro (hB4.mono hb) (Kp.below (tag := tag) hB4)))
      have HZ := hide (ok_form (d := d) hf)
      clear x0 x1 x2 y0 y1 y2 y3 y4 v0 v1 v2 v3 hB4
      go_wp2
      go_ret
      exact ⟨ret_i HZ.out.1.symm, by rw [HZ.out.2]; exact ⟨_, _, HF.out.1⟩, HF.out.2.1, HF.out.2.2⟩
    · go_wp2
      refine wp_region_held_drew (S := fun w' => Below (w1.alloc (.cells (kd true false true (fnV 93)) 101)).heap.size (w1.alloc (.cells (kd true false true (fnV 93)) 101)) w') (by kernel_rfl) ((Below.refl _ _).drew) (fun hHeld => ?_)
      refine wpAnyH_take (i := 0) (v := .agg (kd true false true (fnV 93))) rfl (by kernel_rfl) (by kernel_rfl) (by kernel_rfl) (fun _ _ _ h => h) (Or.inl ⟨by rfl, fun w' hSw => ?_⟩) (by assumption) ?_
      · (try dsimp only at hSw); have z0 := keepc hSw x0; have z1 := keepc hSw x1; have z2 := keepc hSw x2; have z3 := keepc hSw y0; have z4 := keepc hSw y1; have z5 := keepc hSw y2; have z6 := keepc hSw y3; have z7 := keepc hSw y4; have z8 := keepc hSw v0; have z9 := keepc hSw v1; have z10 := keepc hSw v2; have z11 := keepc hSw v3; go_simp
      try simp only [Act.put, List.getElem_toArray, List.getElem_cons_zero, List.getElem_cons_succ, List.setIfInBounds_toArray, List.set_cons_zero, List.set_cons_succ]
      refine wpAnyH_take (i := 1) (v := .agg (five 2 co va vl rg)) rfl (by kernel_rfl) (by kernel_rfl) (by kernel_rfl) (fun _ _ _ h => h) (Or.inl ⟨by rfl, fun w' hSw => ?_⟩) (by assumption) ?_
      · (try dsimp only at hSw); have z0 := keepc hSw x0; have z1 := keepc hSw x1; have z2 := keepc hSw x2; have z3 := keepc hSw y0; have z4 := keepc hSw y1; have z5 := keepc hSw y2; have z6 := keepc hSw y3; have z7 := keepc hSw y4; have z8 := keepc hSw v0; have z9 := keepc hSw v1; have z10 := keepc hSw v2; have z11 := keepc hSw v3; go_simp
      try simp only [Act.put, List.getElem_toArray, List.getElem_cons_zero, List.getElem_cons_succ, List.setIfInBounds_toArray, List.set_cons_zero, List.set_cons_succ]
      refine wpAnyH_take (i := 2) (v := .agg #[.slice ma d.zs.length mc, .slice ba C bc, .slice ra C rc]) rfl (by kernel_rfl) (by kernel_rfl) (by kernel_rfl) (fun _ _ _ h => h) (Or.inl ⟨by rfl, fun w' hSw => ?_⟩) (by assumption) ?_
      · (try dsimp only at hSw); have z0 := keepc hSw x0; have z1 := keepc hSw x1; have z2 := keepc hSw x2; have z3 := keepc hSw y0; have z4 := keepc hSw y1; have z5 := keepc hSw y2; have z6 := keepc hSw y3; have z7 := keepc hSw y4; have z8 := keepc hSw v0; have z9 := keepc hSw v1; have z10 := keepc hSw v2; have z11 := keepc hSw v3; go_simp
      try simp only [Act.put, List.getElem_toArray, List.getElem_cons_zero, List.getElem_cons_succ, List.setIfInBounds_toArray, List.set_cons_zero, List.set_cons_succ]
      refine wpAnyH_ready (rs := [3]) (by kernel_rfl) (by simp) ?_
      refine AllReadyH.cons rfl (fun K hK => ?_) AllReadyH.nil
      go_simp
      refine (hco _).mono ?_
      rintro e wc3 ⟨rfl, hbc⟩
      refine hK.out _ _ (hHeld.trans (hbc.mono hHeld.size)) (fun hHeld => ?_)
      clear hK K hbc
      try simp only [Act.put, List.getElem_toArray, List.getElem_cons_zero, List.getElem_cons_succ, List.setIfInBounds_toArray, List.set_cons_zero, List.set_cons_succ]
      refine wpAnyH_ready (rs := [4]) (by kernel_rfl) (by simp) ?_
      refine AllReadyH.cons rfl (fun K hK => ?_) AllReadyH.nil
      go_simp
      refine (hfo _).mono ?_
      rintro e wc4 ⟨rfl, hbc⟩
      rw [hf]
      refine hK.out _ _ (hHeld.trans (hbc.mono hHeld.size)) (fun hHeld => ?_)
      clear hK K hbc
      try simp only [Act.put, List.getElem_toArray, List.getElem_cons_zero, List.getElem_cons_succ, List.setIfInBounds_toArray, List.set_cons_zero, List.set_cons_succ]
      refine wpAnyH_take (i := 5) (v := .bool false) rfl (by kernel_rfl) (by kernel_rfl) (by kernel_rfl) (fun _ _ _ h => h) (Or.inl ⟨by rfl, fun w' hSw => ?_⟩) (by assumption) ?_
      · (try dsimp only at hSw); have z0 := keepc hSw x0; have z1 := keepc hSw x1; have z2 := keepc hSw x2; have z3 := keepc hSw y0; have z4 := keepc hSw y1; have z5 := keepc hSw y2; have z6 := keepc hSw y3; have z7 := keepc hSw y4; have z8 := keepc hSw v0; have z9 := keepc hSw v1; have z10 := keepc hSw v2; have z11 := keepc hSw v3; go_simp
      try simp only [Act.put, List.getElem_toArray, List.getElem_cons_zero, List.getElem_cons_succ, List.setIfInBounds_toArray, List.set_cons_zero, List.set_cons_succ]
      refine wpAnyH_done (by kernel_rfl) ?_ _
      have hB4 := hB3.trans (hHeld.mono hB3.size)
      replace x0 := keepc hHeld x0
      replace x1 := keepc hHeld x1
      replace x2 := keepc hHeld x2
      replace y0 := keepc hHeld y0
      replace y1 := keepc hHeld y1
      replace y2 := keepc hHeld y2
      replace y3 := keepc hHeld y3
      replace y4 := keepc hHeld y4
      replace v0 := keepc hHeld v0
      replace v1 := keepc hHeld v1
      replace v2 := keepc hHeld v2
      replace v3 := keepc hHeld v3
      clear hHeld hB3 hco hfo
      obtain ⟨p1, p2⟩ := fm_core hf
      obtain ⟨c, rfl⟩ : ∃ c : Nat, co = c := ⟨co.toNat, by omega⟩
      have hcl : c < C := by omega
      have HPC := hide (HPA.out c hcl)
      have hTc := HH.out.below hB4
      obtain ⟨⟨z1, z2⟩, ⟨v5, v6⟩, r5, r6⟩ := ok2 (d := d) hf
      obtain ⟨v, rfl⟩ : ∃ v : Nat, va = v := ⟨va.toNat, by omega⟩
      obtain ⟨i, rfl⟩ : ∃ i : Nat, rg = i := ⟨rg.toNat, by omega⟩
      simp only [Int.toNat_natCast] at z2
      go_wp2_with fail
      refine (loadSeen_rm (.slice ma d.zs.length mc) (.slice ba C bc) (.slice ra C rc) d.zs C d.L d.F C d.Z vb vr tag base c v i 2 vl _ hTc hcl hcl (by have := HZ3.out; omega) (by have := HPC.out.2.2.1; omega) (by have := HPC.out.1; omega) (by have := hB4.size; omega) (by omega)).mono ?_
      rintro e w5 ⟨rfl, ta5, hb5, hk5⟩
      have HZ := hide (And.intro z1 z2)
      have HF := hide (And.intro ta5 (And.intro ((hB4.mono hb).trans hb5) ((Kp.below (tag := tag) hB4).trans hB4.size hk5)))
      clear x0 x1 x2 y0 y1 y2 y3 y4 v0 v1 v2 v3 hB4 hb5 hk5 hTc ta5 z1 z2
      go_wp2
      go_ret
      exact ⟨ret_i HZ.out.1.symm, by rw [HZ.out.2]; exact ⟨_, _, HF.out.1⟩, HF.out.2.1, HF.out.2.2⟩
  by_cases e3 : k = 3
  · subst e3
    have hfo := fun W => formOk_any false false false true (fnV 94) 3 co va vl rg C W (notNil _) (notNilG _)
    rw [fm3 (C : Int) co va vl rg] at hfo
    go_enter Try.func55, Try.ntmps55
    go_wp2_with fail
    refine (kind3 _).mono ?_
    rintro e w1 ⟨rfl, hb1⟩
    have hA3 : Below w1.heap.size w1 (w1.alloc (.cells (kd false false false (fnV 94)) 101)) := (Below.refl _ _).alloc (Nat.le_refl _) _
    have hb3 := hb1.trans (hA3.mono hb1.size)
    have g1 := heap_b hA1 hb3
    have g2 := heap_b hA2 hb3
    have g3 : (w1.alloc (.cells (kd false false false (fnV 94)) 101)).heap[w1.heap.size]? = some (.cells (kd false false false (fnV 94)) 101 (0, 0)) := heap_alloc_new _ _
    have hB3 := hbA.trans (hb3.mono hbA.size)
    clear hb1 hA3 hb3 hA1 hA2 hbA
    have x0 := (cell_of_row _ _ 0 _ _ _ g1).trans rfl
    have x1 := (cell_of_row _ _ 1 _ _ _ g1).trans rfl
    have x2 := (cell_of_row _ _ 2 _ _ _ g1).trans rfl
    have y0 := (cell_of_row _ _ 0 _ _ _ g2).trans rfl
    have y1 := (cell_of_row _ _ 1 _ _ _ g2).trans rfl
    have y2 := (cell_of_row _ _ 2 _ _ _ g2).trans rfl
    have y3 := (cell_of_row _ _ 3 _ _ _ g2).trans rfl
    have y4 := (cell_of_row _ _ 4 _ _ _ g2).trans rfl
    have v0 := (cell_of_row _ _ 0 _ _ _ g3).trans rfl
    have v1 := (cell_of_row _ _ 1 _ _ _ g3).trans rfl
    have v2 := (cell_of_row _ _ 2 _ _ _ g3).trans rfl
    have v3 := (cell_of_row _ _ 3 _ _ _ g3).trans rfl
    clear g1 g2 g3
    cases hf : fmB (C : Int) 3 co va vl rg
    · go_wp2
      refine wp_region_held_drew (S := fun w' => Below (w1.alloc (.cells (kd false false false (fnV 94)) 101)).heap.size (w1.alloc (.cells (kd false false false (fnV 94)) 101)) w') (by kernel_rfl) ((Below.refl _ _).drew) (fun hHeld => ?_)
      refine wpAnyH_take (i := 0) (v := .agg (kd false false false (fnV 94))) rfl (by kernel_rfl) (by kernel_rfl) (by kernel_rfl) (fun _ _ _ h => h) (Or.inl ⟨by rfl, fun w' hSw => ?_⟩) (by assumption) ?_
      · (try dsimp only at hSw); have z0 := keepc hSw x0; have z1 := keepc hSw x1; have z2 := keepc hSw x2; have z3 := keepc hSw y0; have z4 := keepc hSw y1; have z5 := keepc hSw y2; have z6 := keepc hSw y3; have z7 := keepc hSw y4; have z8 := keepc hSw v0; have z9 := keepc hSw v1; have z10 := keepc hSw v2; have z11 := keepc hSw v3; go_simp
      try simp only [Act.put, List.getElem_toArray, List.getElem_cons_zero, List.getElem_cons_succ, List.setIfInBounds_toArray, List.set_cons_zero, List.set_cons_succ]
      refine wpAnyH_take (i := 1) (v := .agg (five 3 co va vl rg)) rfl (by kernel_rfl) (by kernel_rfl) (by kernel_rfl) (fun _ _ _ h => h) (Or.inl ⟨by rfl, fun w' hSw => ?_⟩) (by assumption) ?_
      · (try dsimp only at hSw); have z0 := keepc hSw x0; have z1 := keepc hSw x1; have z2 := keepc hSw x2; have z3 := keepc hSw y0; have z4 := keepc hSw y1; have z5 := keepc hSw y2; have z6 := keepc hSw y3; have z7 := keepc hSw y4; have z8 := keepc hSw v0; have z9 := keepc hSw v1; have z10 := keepc hSw v2; have z11 := keepc hSw v3; go_simp
      try simp only [Act.put, List.getElem_toArray, List.getElem_cons_zero, List.getElem_cons_succ, List.setIfInBounds_toArray, List.set_cons_zero, List.set_cons_succ]
      refine wpAnyH_take (i := 2) (v := .agg #[.slice ma d.zs.length mc, .slice ba C bc, .slice ra C rc]) rfl (by kernel_rfl) (by kernel_rfl) (by kernel_rfl) (fun _ _ _ h => h) (Or.inl ⟨by rfl, fun w' hSw => ?_⟩) (by assumption) ?_
      · (try dsimp only at hSw); have z0 := keepc hSw x0; have z1 := keepc hSw x1; have z2 := keepc hSw x2; have z3 := keepc hSw y0; have z4 := keepc hSw y1; have z5 := keepc hSw y2; have z6 := keepc hSw y3; have z7 := keepc hSw y4; have z8 := keepc hSw v0; have z9 := keepc hSw v1; have z10 := keepc hSw v2; have z11 := keepc hSw v3; go_simp
      try simp only [Act.put, List.getElem_toArray, List.getElem_cons_zero, List.getElem_cons_succ, List.setIfInBounds_toArray, List.set_cons_zero, List.set_cons_succ]
      refine wpAnyH_ready (rs := [3]) (by kernel_rfl) (by simp) ?_
      refine AllReadyH.cons rfl (fun K hK => ?_) AllReadyH.nil
      go_simp
      refine (hco _).mono ?_
      rintro e wc3 ⟨rfl, hbc⟩
      refine hK.out _ _ (hHeld.trans (hbc.mono hHeld.size)) (fun hHeld => ?_)
      clear hK K hbc
      try simp only [Act.put, List.getElem_toArray, List.getElem_cons_zero, List.getElem_cons_succ, List.setIfInBounds_toArray, List.set_cons_zero, List.set_cons_succ]
      refine wpAnyH_ready (rs := [4]) (by kernel_rfl) (by simp) ?_
      refine AllReadyH.cons rfl (fun K hK => ?_) AllReadyH.nil
      go_simp
      refine (hfo _).mono ?_
      rintro e wc4 ⟨rfl, hbc⟩
      rw [hf]
      refine hK.out _ _ (hHeld.trans (hbc.mono hHeld.size)) (fun hHeld => ?_)
      clear hK K hbc
      try simp only [Act.put, List.getElem_toArray, List.getElem_cons_zero, List.getElem_cons_succ, List.setIfInBounds_toArray, List.set_cons_zero, List.set_cons_succ]
      refine wpAnyH_take (i := 5) (v := .bool true) rfl (by kernel_rfl) (by kernel_rfl) (by kernel_rfl) (fun _ _ _ h => h) (Or.inl ⟨by rfl, fun w' hSw => ?_⟩) (by assumption) ?_
      · (try dsimp only at hSw); have z0 := keepc hSw x0; have z1 := keepc hSw x1; have z2 := keepc hSw x2; have z3 := keepc hSw y0; have z4 := keepc hSw y1; have z5 := keepc hSw y2; have z6 := keepc hSw y3; have z7 := keepc hSw y4; have z8 := keepc hSw v0; have z9 := keepc hSw v1; have z10 := keepc hSw v2; have z11 := keepc hSw v3; go_simp
      try simp only [Act.put, List.getElem_toArray, List.getElem_cons_zero, List.getElem_cons_succ, List.setIfInBounds_toArray, List.set_cons_zero, List.set_cons_succ]
      refine wpAnyH_done (by kernel_rfl) ?_ _
      have hB4 := hB3.trans (hHeld.mono hB3.size)
      replace x0 := keepc hHeld x0
      replace x1 := keepc hHeld x1
      replace x2 := keepc hHeld x2
      replace y0 := keepc hHeld y0
      replace y1 := keepc hHeld y1
      replace y2 := keepc hHeld y2
      replace y3 := keepc hHeld y3
      replace y4 := keepc hHeld y4
      replace v0 := keepc hHeld v0
      replace v1 := keepc hHeld v1
      replace v2 := keepc hHeld v2
      replace v3 := keepc hHeld v3
      clear hHeld hB3 hco hfo
      have HF := hide (And.intro (HH.out.below hB4) (And.intro (hB4.mono hb) (Kp.below (tag := tag) hB4)))
      have HZ := hide (ok_form (d := d) hf)
      clear x0 x1 x2 y0 y1 y2 y3 y4 v0 v1 v2 v3 hB4
      go_wp2
      go_ret
      exact ⟨ret_i HZ.out.1.symm, by rw [HZ.out.2]; exact ⟨_, _, HF.out.1⟩, HF.out.2.1, HF.out.2.2⟩
    · go_wp2
      refine wp_region_held_drew (S := fun w' => Below (w1.alloc (.cells (kd false false false (fnV 94)) 101)).heap.size (w1.alloc (.cells (kd false false false (fnV 94)) 101)) w') (by kernel_rfl) ((Below.refl _ _).drew) (fun hHeld => ?_)
      refine wpAnyH_take (i := 0) (v := .agg (kd false false false (fnV 94))) rfl (by kernel_rfl) (by kernel_rfl) (by kernel_rfl) (fun _ _ _ h => h) (Or.inl ⟨by rfl, fun w' hSw => ?_⟩) (by assumption) ?_
      · (try dsimp only at hSw); have z0 := keepc hSw x0; have z1 := keepc hSw x1; have z2 := keepc hSw x2; have z3 := keepc hSw y0; have z4 := keepc hSw y1; have z5 := keepc hSw y2; have z6 := keepc hSw y3; have z7 := keepc hSw y4; have z8 := keepc hSw v0; have z9 := keepc hSw v1; have z10 := keepc hSw v2; have z11 := keepc hSw v3; go_simp
      try simp only [Act.put, List.getElem_toArray, List.getElem_cons_zero, List.getElem_cons_succ, List.setIfInBounds_toArray, List.set_cons_zero, List.set_cons_succ]
      refine wpAnyH_take (i := 1) (v := .agg (five 3 co va vl rg)) rfl (by kernel_rfl) (by kernel_rfl) (by kernel_rfl) (fun _ _ _ h => h) (Or.inl ⟨by rfl, fun w' hSw => ?_⟩) (by assumption) ?_
      · (try dsimp only at hSw); have z0 := keepc hSw x0; have z1 := keepc hSw x1; have z2 := keepc hSw x2; have z3 := keepc hSw y0; have z4 := keepc hSw y1; have z5 := keepc hSw y2; have z6 := keepc hSw y3; have z7 := keepc hSw y4; have z8 := keepc hSw v0; have z9 := keepc hSw v1; have z10 := keepc hSw v2; have z11 := keepc hSw v3; go_simp
      try simp only [Act.put, List.getElem_toArray, List.getElem_cons_zero, List.getElem_cons_succ, List.setIfInBounds_toArray, List.set_cons_zero, List.set_cons_succ]
      refine wpAnyH_take (i := 2) (v := .agg #[.slice ma d.zs.length mc, .slice ba C bc, .slice ra C rc]) rfl (by kernel_rfl) (by kernel_rfl) (by kernel_rfl) (fun _ _ _ h => h) (Or.inl ⟨by rfl, fun w' hSw => ?_⟩) (by assumption) ?_
      · (try dsimp only at hSw); have z0 := keepc hSw x0; have z1 := keepc hSw x1; have z2 := keepc hSw x2; have z3 := keepc hSw y0; have z4 := keepc hSw y1; have z5 := keepc hSw y2; have z6 := keepc hSw y3; have z7 := keepc hSw y4; have z8 := keepc hSw v0; have z9 := keepc hSw v1; have z10 := keepc hSw v2; have z11 := keepc hSw v3; go_simp
      try simp only [Act.put, List.getElem_toArray, List.getElem_cons_zero, List.getElem_cons_succ, List.setIfInBounds_toArray, List.set_cons_zero, List.set_cons_succ]
      refine wpAnyH_ready (rs := [3]) (by kernel_rfl) (by simp) ?_
      refine AllReadyH.cons rfl (fun K hK => ?_) AllReadyH.nil
      go_simp
      refine (hco _).mono ?_
      rintro e wc3 ⟨rfl, hbc⟩
      refine hK.out _ _ (hHeld.trans (hbc.mono hHeld.size)) (fun hHeld => ?_)
      clear hK K hbc
      try simp only [Act.put, List.getElem_toArray, List.getElem_cons_zero, List.getElem_cons_succ, List.setIfInBounds_toArray, List.set_cons_zero, List.set_cons_succ]
      refine wpAnyH_ready (rs := [4]) (by kernel_rfl) (by simp) ?_
      refine AllReadyH.cons rfl (fun K hK => ?_) AllReadyH.nil
      go_simp
      refine (hfo _).mono ?_
      rintro e wc4 ⟨rfl, hbc⟩
      rw [hf]
      refine hK.out _ _ (hHeld.trans (hbc.mono hHeld.size)) (fun hHeld => ?_)
      clear hK K hbc
      try simp only [Act.put, List.getElem_toArray, List.getElem_cons_zero, List.getElem_cons_succ, List.setIfInBounds_toArray, List.set_cons_zero, List.set_cons_succ]
      refine wpAnyH_take (i := 5) (v := .bool false) rfl (by kernel_rfl) (by kernel_rfl) (by kernel_rfl) (fun _ _ _ h => h) (Or.inl ⟨by rfl, fun w' hSw => ?_⟩) (by assumption) ?_
      · (try dsimp only at hSw); have z0 := keepc hSw x0; have z1 := keepc hSw x1; have z2 := keepc hSw x2; have z3 := keepc hSw y0; have z4 := keepc hSw y1; have z5 := keepc hSw y2; have z6 := keepc hSw y3; have z7 := keepc hSw y4; have z8 := keepc hSw v0; have z9 := keepc hSw v1; have z10 := keepc hSw v2; have z11 := keepc hSw v3; go_simp
      try simp only [Act.put, List.getElem_toArray, List.getElem_cons_zero, List.getElem_cons_succ, List.setIfInBounds_toArray, List.set_cons_zero, List.set_cons_succ]
      refine wpAnyH_done (by kernel_rfl) ?_ _
      have hB4 := hB3.trans (hHeld.mono hB3.size)
      replace x0 := keepc hHeld x0
      replace x1 := keepc hHeld x1
      replace x2 := keepc hHeld x2
      replace y0 := keepc hHeld y0
      replace y1 := keepc hHeld y1
      replace y2 := keepc hHeld y2
      replace y3 := keepc hHeld y3
      replace y4 := keepc hHeld y4
      replace v0 := keepc hHeld v0
      replace v1 := keepc hHeld v1
      replace v2 := keepc hHeld v2
      replace v3 := keepc hHeld v3
      clear hHeld hB3 hco hfo
      obtain ⟨p1, p2⟩ := fm_core hf
      obtain ⟨c, rfl⟩ : ∃ c : Nat, co = c := ⟨co.toNat, by omega⟩
      have hcl : c < C := by omega
      have HPC := hide (HPA.out c hcl)
      have hTc := HH.out.below hB4
      obtain ⟨z1, z2⟩ := ok3 (d := d) hf
      simp only [Int.toNat_natCast] at z1
      go_wp2_with fail
      refine (fencePassed_any (.slice ma d.zs.length mc) (.slice ba C bc) (.slice ra C rc) d.zs C d.L d.F C d.Z vb vr tag base c 3 va vl rg _ hTc.ta hcl).mono ?_
      rintro e w5 ⟨rfl, hb5⟩
      have HZ := hide (And.intro z1 z2)
      generalize (if 0 < d.L c then (4 : Int) else 0) = code at HZ ⊢
      have HF := hide (And.intro (hTc.below hb5) (And.intro ((hB4.trans (hb5.mono hB4.size)).mono hb) (Kp.below (tag := tag) (hB4.trans (hb5.mono hB4.size)))))
      clear x0 x1 x2 y0 y1 y2 y3 y4 v0 v1 v2 v3 hB4 hb5 hTc z1 z2
      go_wp2
      go_ret
      exact ⟨ret_i HZ.out.1.symm, by rw [HZ.out.2]; exact ⟨_, _, HF.out.1⟩, HF.out.2.1, HF.out.2.2⟩
  by_cases e4 : k = 4
  · subst e4
    have hfo := fun W => formOk_any false false false true (fnV 60) 4 co va vl rg C W (notNil _) (notNilG _)
    rw [fm4 (C : Int) co va vl rg] at hfo
    go_enter Try.func55, Try.ntmps55
    go_wp2_with fail
    refine (kind4 _).mono ?_
    rintro e w1 ⟨rfl, hb1⟩
    have hA3 : Below w1.heap.size w1 (w1.alloc (.cells (kd false false false (fnV 60)) 101)) := (Below.refl _ _).alloc (Nat.le_refl _) _
    have hb3 := hb1.trans (hA3.mono hb1.size)
    have g1 := heap_b hA1 hb3
    have g2 := heap_b hA2 hb3
    have g3 : (w1.alloc (.cells (kd false false false (fnV 60)) 101)).heap[w1.heap.size]? = some (.cells (kd false false false (fnV 60)) 101 (0, 0)) := heap_alloc_new _ _
    have hB3 := hbA.trans (hb3.mono hbA.size)
    clear hb1 hA3 hb3 hA1 hA2 hbA
    have x0 := (cell_of_row _ _ 0 _ _ _ g1).trans rfl
    have x1 := (cell_of_row _ _ 1 _ _ _ g1).trans rfl
    have x2 := (cell_of_row _ _ 2 _ _ _ g1).trans rfl
    have y0 := (cell_of_row _ _ 0 _ _ _ g2).trans rfl
    have y1 := (cell_of_row _ _ 1 _ _ _ g2).trans rfl
    have y2 := (cell_of_row _ _ 2 _ _ _ g2).trans rfl
    have y3 := (cell_of_row _ _ 3 _ _ _ g2).trans rfl
    have y4 := (cell_of_row _ _ 4 _ _ _ g2).trans rfl
    have v0 := (cell_of_row _ _ 0 _ _ _ g3).trans rfl
    have v1 := (cell_of_row _ _ 1 _ _ _ g3).trans rfl
    have v2 := (cell_of_row _ _ 2 _ _ _ g3).trans rfl
    have v3 := (cell_of_row _ _ 3 _ _ _ g3).trans rfl
    clear g1 g2 g3
    cases hf : fmB (C : Int) 4 co va vl rg
    · go_wp2
      refine wp_region_held_drew (S := fun w' => Below (w1.alloc (.cells (kd false false false (fnV 60)) 101)).heap.size (w1.alloc (.cells (kd false false false (fnV 60)) 101)) w') (by kernel_rfl) ((Below.refl _ _).drew) (fun hHeld => ?_)
      refine wpAnyH_take (i := 0) (v := .agg (kd false false false (fnV 60))) rfl (by kernel_rfl) (by kernel_rfl) (by kernel_rfl) (fun _ _ _ h => h) (Or.inl ⟨by rfl, fun w' hSw => ?_⟩) (by assumption) ?_
      · (try dsimp only at hSw); have z0 := keepc hSw x0; have z1 := keepc hSw x1; have z2 := keepc hSw x2; have z3 := keepc hSw y0; have z4 := keepc hSw y1; have z5 := keepc hSw y2; have z6 := keepc hSw y3; have z7 := keepc hSw y4; have z8 := keepc hSw v0; have z9 := keepc hSw v1; have z10 := keepc hSw v2; have z11 := keepc hSw v3; go_simp
      try simp only [Act.put, List.getElem_toArray, List.getElem_cons_zero, List.getElem_cons_succ, List.setIfInBounds_toArray, List.set_cons_zero, List.set_cons_succ]
      refine wpAnyH_take (i := 1) (v := .agg (five 4 co va vl rg)) rfl (by kernel_rfl) (by kernel_rfl) (by kernel_rfl) (fun _ _ _ h => h) (Or.inl ⟨by rfl, fun w' hSw => ?_⟩) (by assumption) ?_
      · (try dsimp only at hSw); have z0 := keepc hSw x0; have z1 := keepc hSw x1; have z2 := keepc hSw x2; have z3 := keepc hSw y0; have z4 := keepc hSw y1; have z5 := keepc hSw y2; have z6 := keepc hSw y3; have z7 := keepc hSw y4; have z8 := keepc hSw v0; have z9 := keepc hSw v1; have z10 := keepc hSw v2; have z11 := keepc hSw v3; go_simp
      try simp only [Act.put, List.getElem_toArray, List.getElem_cons_zero, List.getElem_cons_succ, List.setIfInBounds_toArray, List.set_cons_zero, List.set_cons_succ]
      refine wpAnyH_take (i := 2) (v := .agg #[.slice ma d.zs.length mc, .slice ba C bc, .slice ra C rc]) rfl (by kernel_rfl) (by kernel_rfl) (by kernel_rfl) (fun _ _ _ h => h) (Or.inl ⟨by rfl, fun w' hSw => ?_⟩) (by assumption) ?_
      · (try dsimp only at hSw); have z0 := keepc hSw x0; have z1 := keepc hSw x1; have z2 := keepc hSw x2; have z3 := keepc hSw y0; have z4 := keepc hSw y1; have z5 := keepc hSw y2; have z6 := keepc hSw y3; have z7 := keepc hSw y4; have z8 := keepc hSw v0; have z9 := keepc hSw v1; have z10 := keepc hSw v2; have z11 := keepc hSw v3; go_simp
      try simp only [Act.put, List.getElem_toArray, List.getElem_cons_zero, List.getElem_cons_succ, List.setIfInBounds_toArray, List.set_cons_zero, List.set_cons_succ]
      refine wpAnyH_ready (rs := [3]) (by kernel_rfl) (by simp) ?_
      refine AllReadyH.cons rfl (fun K hK => ?_) AllReadyH.nil
      go_simp
      refine (hco _).mono ?_
      rintro e wc3 ⟨rfl, hbc⟩
      refine hK.out _ _ (hHeld.trans (hbc.mono hHeld.size)) (fun hHeld => ?_)
      clear hK K hbc
      try simp only [Act.put, List.getElem_toArray, List.getElem_cons_zero, List.getElem_cons_succ, List.setIfInBounds_toArray, List.set_cons_zero, List.set_cons_succ]
      refine wpAnyH_ready (rs := [4]) (by kernel_rfl) (by simp) ?_
      refine AllReadyH.cons rfl (fun K hK => ?_) AllReadyH.nil
      go_simp
      refine (hfo _).mono ?_
      rintro e wc4 ⟨rfl, hbc⟩
      rw [hf]
      refine hK.out _ _ (hHeld.trans (hbc.mono hHeld.size)) (fun hHeld => ?_)
      clear hK K hbc
      try simp only [Act.put, List.getElem_toArray, List.getElem_cons_zero, List.getElem_cons_succ, List.setIfInBounds_toArray, List.set_cons_zero, List.set_cons_succ]
      refine wpAnyH_take (i := 5) (v := .bool true) rfl (by kernel_rfl) (by kernel_rfl) (by kernel_rfl) (fun _ _ _ h => h) (Or.inl ⟨by rfl, fun w' hSw => ?_⟩) (by assumption) ?_
      · (try dsimp only at hSw); have z0 := keepc hSw x0; have z1 := keepc hSw x1; have z2 := keepc hSw x2; have z3 := keepc hSw y0; have z4 := keepc hSw y1; have z5 := keepc hSw y2; have z6 := keepc hSw y3; have z7 := keepc hSw y4; have z8 := keepc hSw v0; have z9 := keepc hSw v1; have z10 := keepc hSw v2; have z11 := keepc hSw v3; go_simp
      try simp only [Act.put, List.getElem_toArray, List.getElem_cons_zero, List.getElem_cons_succ, List.setIfInBounds_toArray, List.set_cons_zero, List.set_cons_succ]
      refine wpAnyH_done (by kernel_rfl) ?_ _
      have hB4 := hB3.trans (hHeld.mono hB3.size)
      replace x0 := keepc hHeld x0
      replace x1 := keepc hHeld x1
      replace x2 := keepc hHeld x2
      replace y0 := keepc hHeld y0
      replace y1 := keepc hHeld y1
      replace y2 := keepc hHeld y2
      replace y3 := keepc hHeld y3
      replace y4 := keepc hHeld y4
      replace v0 := keepc hHeld v0
      replace v1 := keepc hHeld v1
      replace v2 := keepc hHeld v2
      replace v3 := keepc hHeld v3
      clear hHeld hB3 hco hfo
      have HF := hide (And.intro (HH.out.below hB4) (And.intro (hB4.mono hb) (Kp.below (tag := tag) hB4)))
      have HZ := hide (ok_form (d := d) hf)
      clear x0 x1 x2 y0 y1 y2 y3 y4 v0 v1 v2 v3 hB4
      go_wp2
      go_ret
      exact ⟨ret_i HZ.out.1.symm, by rw [HZ.out.2]; exact ⟨_, _, HF.out.1⟩, HF.out.2.1, HF.out.2.2⟩
    · go_wp2
      refine wp_region_held_drew (S := fun w' => Below (w1.alloc (.cells (kd false false false (fnV 60)) 101)).heap.size (w1.alloc (.cells (kd false false false (fnV 60)) 101)) w') (by kernel_rfl) ((Below.refl _ _).drew) (fun hHeld => ?_)
      refine wpAnyH_take (i := 0) (v := .agg (kd false false false (fnV 60))) rfl (by kernel_rfl) (by kernel_rfl) (by kernel_rfl) (fun _ _ _ h => h) (Or.inl ⟨by rfl, fun w' hSw => ?_⟩) (by assumption) ?_
      · (try dsimp only at hSw); have z0 := keepc hSw x0; have z1 := keepc hSw x1; have z2 := keepc hSw x2; have z3 := keepc hSw y0; have z4 := keepc hSw y1; have z5 := keepc hSw y2; have z6 := keepc hSw y3; have z7 := keepc hSw y4; have z8 := keepc hSw v0; have z9 := keepc hSw v1; have z10 := keepc hSw v2; have z11 := keepc hSw v3; go_simp
      try simp only [Act.put, List.getElem_toArray, List.getElem_cons_zero, List.getElem_cons_succ, List.setIfInBounds_toArray, List.set_cons_zero, List.set_cons_succ]
      refine wpAnyH_take (i := 1) (v := .agg (five 4 co va vl rg)) rfl (by kernel_rfl) (by kernel_rfl) (by kernel_rfl) (fun _ _ _ h => h) (Or.inl ⟨by rfl, fun w' hSw => ?_⟩) (by assumption) ?_
      · (try dsimp only at hSw); have z0 := keepc hSw x0; have z1 := keepc hSw x1; have z2 := keepc hSw x2; have z3 := keepc hSw y0; have z4 := keepc hSw y1; have z5 := keepc hSw y2; have z6 := keepc hSw y3; have z7 := keepc hSw y4; have z8 := keepc hSw v0; have z9 := keepc hSw v1; have z10 := keepc hSw v2; have z11 := keepc hSw v3; go_simp
      try simp only [Act.put, List.getElem_toArray, List.getElem_cons_zero, List.getElem_cons_succ, List.setIfInBounds_toArray, List.set_cons_zero, List.set_cons_succ]
      refine wpAnyH_take (i := 2) (v := .agg #[.slice ma d.zs.length mc, .slice ba C bc, .slice ra C rc]) rfl (by kernel_rfl) (by kernel_rfl) (by kernel_rfl) (fun _ _ _ h => h) (Or.inl ⟨by rfl, fun w' hSw => ?_⟩) (by assumption) ?_
      · (try dsimp only at hSw); have z0 := keepc hSw x0; have z1 := keepc hSw x1; have z2 := keepc hSw x2; have z3 := keepc hSw y0; have z4 := keepc hSw y1; have z5 := keepc hSw y2; have z6 := keepc hSw y3; have z7 := keepc hSw y4; have z8 := keepc hSw v0; have z9 := keepc hSw v1; have z10 := keepc hSw v2; have z11 := keepc hSw v3; go_simp
      try simp only [Act.put, List.getElem_toArray, List.getElem_cons_zero, List.getElem_cons_succ, List.setIfInBounds_toArray, List.set_cons_zero, List.set_cons_succ]
      refine wpAnyH_ready (rs := [3]) (by kernel_rfl) (by simp) ?_
      refine AllReadyH.cons rfl (fun K hK => ?_) AllReadyH.nil
      go_simp
      refine (hco _).mono ?_
      rintro e wc3 ⟨rfl, hbc⟩
      refine hK.out _ _ (hHeld.trans (hbc.mono hHeld.size)) (fun hHeld => ?_)
      clear hK K hbc
      try simp only [Act.put, List.getElem_toArray, List.getElem_cons_zero, List.getElem_cons_succ, List.setIfInBounds_toArray, List.set_cons_zero, List.set_cons_succ]
      refine wpAnyH_ready (rs := [4]) (by kernel_rfl) (by simp) ?_
      refine AllReadyH.cons rfl (fun K hK => ?_) AllReadyH.nil
      go_simp
      refine (hfo _).mono ?_
      rintro e wc4 ⟨rfl, hbc⟩
      rw [hf]
      refine hK.out _ _ (hHeld.trans (hbc.mono hHeld.size)) (fun hHeld => ?_)
      clear hK K hbc
      try simp only [Act.put, List.getElem_toArray, List.getElem_cons_zero, List.getElem_cons_succ, List.setIfInBounds_toArray, List.set_cons_zero, List.set_cons_succ]
      refine wpAnyH_take (i := 5) (v := .bool false) rfl (by kernel_rfl) (by kernel_rfl) (by kernel_rfl) (fun _ _ _ h => h) (Or.inl ⟨by rfl, fun w' hSw => ?_⟩) (by assumption) ?_
      · (try dsimp only at hSw); have z0 := keepc hSw x0; have z1 := keepc hSw x1; have z2 := keepc hSw x2; have z3 := keepc hSw y0; have z4 := keepc hSw y1; have z5 := keepc hSw y2; have z6 := keepc hSw y3; have z7 := keepc hSw y4; have z8 := keepc hSw v0; have z9 := keepc hSw v1; have z10 := keepc hSw v2; have z11 := keepc hSw v3; go_simp
      try simp only [Act.put, List.getElem_toArray, List.getElem_cons_zero, List.getElem_cons_succ, List.setIfInBounds_toArray, List.set_cons_zero, List.set_cons_succ]
      refine wpAnyH_done (by kernel_rfl) ?_ _
      have hB4 := hB3.trans (hHeld.mono hB3.size)
      replace x0 := keepc hHeld x0
      replace x1 := keepc hHeld x1
      replace x2 := keepc hHeld x2
      replace y0 := keepc hHeld y0
      replace y1 := keepc hHeld y1
      replace y2 := keepc hHeld y2
      replace y3 := keepc hHeld y3
      replace y4 := keepc hHeld y4
      replace v0 := keepc hHeld v0
      replace v1 := keepc hHeld v1
      replace v2 := keepc hHeld v2
      replace v3 := keepc hHeld v3
      clear hHeld hB3 hco hfo
      obtain ⟨p1, p2⟩ := fm_core hf
      obtain ⟨c, rfl⟩ : ∃ c : Nat, co = c := ⟨co.toNat, by omega⟩
      have hcl : c < C := by omega
      have HPC := hide (HPA.out c hcl)
      have hTc := HH.out.below hB4
      obtain ⟨o1, o2⟩ := ok4 (d := d) hf
      simp only [Int.toNat_natCast] at o1 o2
      go_wp2_with fail
      refine (firstDrained_rm (.slice ma d.zs.length mc) (.slice ba C bc) (.slice ra C rc) d.zs C d.L d.F C d.Z vb vr tag base c 4 va vl rg _ hTc hcl (by have := HPC.out.1; omega) (fun hp => by have := (HPC.out.2.1 0 hp).1; have := HZ3.out; omega) (by have := hB4.size; omega)).mono ?_
      rintro e w5 (⟨h4, rfl, hb5⟩ | ⟨h4, rfl, ⟨u, tag2, ta5⟩, hb5, hk5⟩)
      · have HZ := hide (o1 h4)
        have HF := hide (And.intro (hTc.below hb5) (And.intro ((hB4.trans (hb5.mono hB4.size)).mono hb) (Kp.below (tag := tag) (hB4.trans (hb5.mono hB4.size)))))
        clear x0 x1 x2 y0 y1 y2 y3 y4 v0 v1 v2 v3 hB4 hb5 hTc o1 o2
        go_wp2
        go_ret
        exact ⟨ret_i HZ.out.1.symm, by rw [HZ.out.2]; exact ⟨_, _, HF.out.1⟩, HF.out.2.1, HF.out.2.2⟩
      · have HZ := hide (o2 h4)
        have HF := hide (And.intro ta5 (And.intro ((hB4.mono hb).trans hb5) ((Kp.below (tag := tag) hB4).trans hB4.size hk5)))
        clear x0 x1 x2 y0 y1 y2 y3 y4 v0 v1 v2 v3 hB4 hb5 hk5 hTc ta5 o1 o2
        go_wp2
        go_ret
        exact ⟨ret_i HZ.out.1.symm, by rw [HZ.out.2]; exact ⟨_, _, HF.out.1⟩, HF.out.2.1, HF.out.2.2⟩
  have hfo := fun W => formOk_any false false false false .nilFunc k co va vl rg C W isNil isNilG
  rw [fmNo (C : Int) co va vl rg e1 e2 e3 e4] at hfo
  go_enter Try.func55, Try.ntmps55
  go_wp2_with fail
  refine (kindNo k _ e1 e2 e3 e4).mono ?_
  rintro e w1 ⟨rfl, hb1⟩
  have hA3 : Below w1.heap.size w1 (w1.alloc (.cells (kd false false false .nilFunc) 101)) := (Below.refl _ _).alloc (Nat.le_refl _) _
  have hb3 := hb1.trans (hA3.mono hb1.size)
  have g1 := heap_b hA1 hb3
  have g2 := heap_b hA2 hb3
  have g3 : (w1.alloc (.cells (kd false false false .nilFunc) 101)).heap[w1.heap.size]? = some (.cells (kd false false false .nilFunc) 101 (0, 0)) := heap_alloc_new _ _
  have hB3 := hbA.trans (hb3.mono hbA.size)
  clear hb1 hA3 hb3 hA1 hA2 hbA
  have x0 := (cell_of_row _ _ 0 _ _ _ g1).trans rfl
  have x1 := (cell_of_row _ _ 1 _ _ _ g1).trans rfl
  have x2 := (cell_of_row _ _ 2 _ _ _ g1).trans rfl
  have y0 := (cell_of_row _ _ 0 _ _ _ g2).trans rfl
  have y1 := (cell_of_row _ _ 1 _ _ _ g2).trans rfl
  have y2 := (cell_of_row _ _ 2 _ _ _ g2).trans rfl
  have y3 := (cell_of_row _ _ 3 _ _ _ g2).trans rfl
  have y4 := (cell_of_row _ _ 4 _ _ _ g2).trans rfl
  have v0 := (cell_of_row _ _ 0 _ _ _ g3).trans rfl
  have v1 := (cell_of_row _ _ 1 _ _ _ g3).trans rfl
  have v2 := (cell_of_row _ _ 2 _ _ _ g3).trans rfl
  have v3 := (cell_of_row _ _ 3 _ _ _ g3).trans rfl
  clear g1 g2 g3
  have hf : fmB (C : Int) k co va vl rg = false := by rw [← fmNo (C : Int) co va vl rg e1 e2 e3 e4]; rfl
  go_wp2
  refine wp_region_held_drew (S := fun w' => Below (w1.alloc (.cells (kd false false false .nilFunc) 101)).heap.size (w1.alloc (.cells (kd false false false .nilFunc) 101)) w') (by kernel_rfl) ((Below.refl _ _).drew) (fun hHeld => ?_)
  refine wpAnyH_take (i := 0) (v := .agg (kd false false false .nilFunc)) rfl (by kernel_rfl) (by kernel_rfl) (by kernel_rfl) (fun _ _ _ h => h) (Or.inl ⟨by rfl, fun w' hSw => ?_⟩) (by assumption) ?_
  · (try dsimp only at hSw); have z0 := keepc hSw x0; have z1 := keepc hSw x1; have z2 := keepc hSw x2; have z3 := keepc hSw y0; have z4 := keepc hSw y1; have z5 := keepc hSw y2; have z6 := keepc hSw y3; have z7 := keepc hSw y4; have z8 := keepc hSw v0; have z9 := keepc hSw v1; have z10 := keepc hSw v2; have z11 := keepc hSw v3; go_simp
  try simp only [Act.put, List.getElem_toArray, List.getElem_cons_zero, List.getElem_cons_succ, List.setIfInBounds_toArray, List.set_cons_zero, List.set_cons_succ]
  refine wpAnyH_take (i := 1) (v := .agg (five k co va vl rg)) rfl (by kernel_rfl) (by kernel_rfl) (by kernel_rfl) (fun _ _ _ h => h) (Or.inl ⟨by rfl, fun w' hSw => ?_⟩) (by assumption) ?_
  · (try dsimp only at hSw); have z0 := keepc hSw x0; have z1 := keepc hSw x1; have z2 := keepc hSw x2; have z3 := keepc hSw y0; have z4 := keepc hSw y1; have z5 := keepc hSw y2; have z6 := keepc hSw y3; have z7 := keepc hSw y4; have z8 := keepc hSw v0; have z9 := keepc hSw v1; have z10 := keepc hSw v2; have z11 := keepc hSw v3; go_simp
  try simp only [Act.put, List.getElem_toArray, List.getElem_cons_zero, List.getElem_cons_succ, List.setIfInBounds_toArray, List.set_cons_zero, List.set_cons_succ]
  refine wpAnyH_take (i := 2) (v := .agg #[.slice ma d.zs.length mc, .slice ba C bc, .slice ra C rc]) rfl (by kernel_rfl) (by kernel_rfl) (by kernel_rfl) (fun _ _ _ h => h) (Or.inl ⟨by rfl, fun w' hSw => ?_⟩) (by assumption) ?_
  · (try dsimp only at hSw); have z0 := keepc hSw x0; have z1 := keepc hSw x1; have z2 := keepc hSw x2; have z3 := keepc hSw y0; have z4 := keepc hSw y1; have z5 := keepc hSw y2; have z6 := keepc hSw y3; have z7 := keepc hSw y4; have z8 := keepc hSw v0; have z9 := keepc hSw v1; have z10 := keepc hSw v2; have z11 := keepc hSw v3; go_simp
  try simp only [Act.put, List.getElem_toArray, List.getElem_cons_zero, List.getElem_cons_succ, List.setIfInBounds_toArray, List.set_cons_zero, List.set_cons_succ]
  refine wpAnyH_ready (rs := [3]) (by kernel_rfl) (by simp) ?_
  refine AllReadyH.cons rfl (fun K hK => ?_) AllReadyH.nil
  go_simp
  refine (hco _).mono ?_
  rintro e wc3 ⟨rfl, hbc⟩
  refine hK.out _ _ (hHeld.trans (hbc.mono hHeld.size)) (fun hHeld => ?_)
  clear hK K hbc
  try simp only [Act.put, List.getElem_toArray, List.getElem_cons_zero, List.getElem_cons_succ, List.setIfInBounds_toArray, List.set_cons_zero, List.set_cons_succ]
  refine wpAnyH_ready (rs := [4]) (by kernel_rfl) (by simp) ?_
  refine AllReadyH.cons rfl (fun K hK => ?_) AllReadyH.nil
  go_simp
  refine (hfo _).mono ?_
  rintro e wc4 ⟨rfl, hbc⟩
  rw [hf]
  refine hK.out _ _ (hHeld.trans (hbc.mono hHeld.size)) (fun hHeld => ?_)
  clear hK K hbc
  try simp only [Act.put, List.getElem_toArray, List.getElem_cons_zero, List.getElem_cons_succ, List.setIfInBounds_toArray, List.set_cons_zero, List.set_cons_succ]
  refine wpAnyH_take (i := 5) (v := .bool true) rfl (by kernel_rfl) (by kernel_rfl) (by kernel_rfl) (fun _ _ _ h => h) (Or.inl ⟨by rfl, fun w' hSw => ?_⟩) (by assumption) ?_
  · (try dsimp only at hSw); have z0 := keepc hSw x0; have z1 := keepc hSw x1; have z2 := keepc hSw x2; have z3 := keepc hSw y0; have z4 := keepc hSw y1; have z5 := keepc hSw y2; have z6 := keepc hSw y3; have z7 := keepc hSw y4; have z8 := keepc hSw v0; have z9 := keepc hSw v1; have z10 := keepc hSw v2; have z11 := keepc hSw v3; go_simp
  try simp only [Act.put, List.getElem_toArray, List.getElem_cons_zero, List.getElem_cons_succ, List.setIfInBounds_toArray, List.set_cons_zero, List.set_cons_succ]
  refine wpAnyH_done (by kernel_rfl) ?_ _
  have hB4 := hB3.trans (hHeld.mono hB3.size)
  replace x0 := keepc hHeld x0
  replace x1 := keepc hHeld x1
  replace x2 := keepc hHeld x2
  replace y0 := keepc hHeld y0
  replace y1 := keepc hHeld y1
  replace y2 := keepc hHeld y2
  replace y3 := keepc hHeld y3
  replace y4 := keepc hHeld y4
  replace v0 := keepc hHeld v0
  replace v1 := keepc hHeld v1
  replace v2 := keepc hHeld v2
  replace v3 := keepc hHeld v3
  clear hHeld hB3 hco hfo
  have HF := hide (And.intro (HH.out.below hB4) (And.intro (hB4.mono hb) (Kp.below (tag := tag) hB4)))
  have HZ := hide (ok_form (d := d) hf)
  clear x0 x1 x2 y0 y1 y2 y3 y4 v0 v1 v2 v3 hB4
  go_wp2
  go_ret
  exact ⟨ret_i HZ.out.1.symm, by rw [HZ.out.2]; exact ⟨_, _, HF.out.1⟩, HF.out.2.1, HF.out.2.2⟩

end Go.Proofs.Ytneofegnbflfiaa
