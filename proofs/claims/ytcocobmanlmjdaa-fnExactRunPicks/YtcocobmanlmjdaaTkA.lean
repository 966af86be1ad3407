/- a Tso in memory of its own: its rows, each in a block with a tag of its own; plain facts -/
import Derived.Test.YtcocobmanlmjdaaTsI
import Derived.Deep.AppendLies
namespace Go.Proofs.Ytcocobmanlmjdaa
open Go.RowKit
set_option linter.unusedVariables false
set_option linter.unusedSimpArgs false

theorem grown_any {w w' : World} {row : Option Nat} (hb : Below w.heap.size w w') : w.grownBy w' row := ⟨hb.os, hb.tape, hb.output, hb.size, fun k hk _ => hb.block k hk⟩
theorem grown_set (w : World) (B i : Nat) (v : Value) : w.grownBy (w.setCell ⟨B, i, none⟩ v) (some B) := by
  have hb : Below 0 w (w.setCell ⟨B, i, none⟩ v) := (Below.refl 0 w).setCell (Nat.zero_le _) v
  exact ⟨hb.os, hb.tape, hb.output, hb.size, fun j hj hne => heap_setCell_other _ _ _ _ (fun e => hne (by rw [e]))⟩

/-- a slice of values -/
def Svs (w : World) (v : Value) (n : Nat) (f : Nat → Value) : Prop :=
  ∃ ad cap, v = .slice ad n cap ∧ (0 < n → ∃ b off, ad = some ⟨b, off, none⟩ ∧ ∀ j, j < n → w.cell? ⟨b, off + j, none⟩ = some (f j))
/-- a row's block: k cells of it, which may be written; its tag -/
def Bk (w : World) (base : Nat) (v : Value) (k : Nat) (tag : Nat → Nat) (t : Nat) : Prop :=
  ∀ g off n cap, v = .slice (some ⟨g, off, none⟩) n cap → 0 < k → base ≤ g ∧ Wc w g (off + k) ∧ tag g = t

theorem Wc.grown {w w' : World} {g len : Nat} {row : Option Nat} (h : Wc w g len) (hg : w.grownBy w' row) (hr : row ≠ some g) : Wc w' g len := by
  obtain ⟨cur, T, h1, h2⟩ := h
  exact ⟨cur, T, (hg.block g (lt_of_block h1) (fun e => hr e.symm)).trans h1, h2⟩
theorem Bk.grown {w w' : World} {base k t : Nat} {v : Value} {tag : Nat → Nat} {row : Option Nat} (h : Bk w base v k tag t) (hg : w.grownBy w' row) (hr : ∀ g, row = some g → tag g ≠ t) : Bk w' base v k tag t := fun g off n cap e hk => by
  obtain ⟨h1, h2, h3⟩ := h g off n cap e hk
  exact ⟨h1, h2.grown hg (fun q => hr g q h3), h3⟩
theorem Bk.retag {w : World} {base k t : Nat} {v : Value} {tag tag' : Nat → Nat} (h : Bk w base v k tag t) (hr : ∀ g, g < w.heap.size → tag g = t → tag' g = t) : Bk w base v k tag' t := fun g off n cap e hk => by
  obtain ⟨h1, h2, h3⟩ := h g off n cap e hk
  exact ⟨h1, h2, hr g h2.lt h3⟩
theorem Bk.mono {w : World} {base base' k t : Nat} {v : Value} {tag : Nat → Nat} (h : Bk w base v k tag t) (hb : base' ≤ base) : Bk w base' v k tag t := fun g off n cap e hk => by
  obtain ⟨h1, h2, h3⟩ := h g off n cap e hk
  exact ⟨Nat.le_trans hb h1, h2, h3⟩
theorem Bk.of_own {w : World} {base m n t : Nat} {T : TypeId} {v : Value} {xs : List Value} {tag : Nat → Nat} (h : w.ownsRow base T m v n xs) (ht : ∀ g, v.ownBlock = some g → tag g = t) : Bk w base v (n * m) tag t := fun g off n' cap e hk => by
  rcases h.2 with ⟨h', _⟩ | ⟨g', cap', cur, h', hb, hg, hnc, _, hcs, _⟩
  · rw [h'] at e; simp at e
  · rw [h'] at e
    simp only [Value.slice.injEq, Option.some.injEq, Addr.mk.injEq] at e
    obtain ⟨⟨rfl, rfl, _⟩, rfl, rfl⟩ := e
    refine ⟨hb, ⟨cur, T, hg, ?_⟩, ht _ (by rw [h']; rfl)⟩
    rw [hcs, Nat.zero_add]
    exact Nat.mul_le_mul_right _ hnc

theorem Sl.grown {w w' : World} {base t : Nat} {v : Value} {zs : List Int} {tag : Nat → Nat} {row : Option Nat} (h : Sl w v zs) (hb : Bk w base v zs.length tag t) (hg : w.grownBy w' row) (hr : ∀ g, row = some g → tag g ≠ t) : Sl w' v zs := by
  obtain ⟨ad, cap, rfl, h⟩ := h
  refine ⟨ad, cap, rfl, fun hp => ?_⟩
  obtain ⟨b, off, rfl, hc⟩ := h hp
  obtain ⟨_, hw, ht⟩ := hb b off _ cap rfl hp
  exact ⟨b, off, rfl, fun j hj => (hg.cell_far ⟨b, off + j, none⟩ hw.lt (fun q => hr b q.symm ht)).trans (hc j hj)⟩
theorem Sr.grown {w w' : World} {base t m n : Nat} {v : Value} {f : Nat → Nat → Int} {tag : Nat → Nat} {row : Option Nat} (h : Sr w v m n f) (hm : 0 < m) (hb : Bk w base v (n * m) tag t) (hg : w.grownBy w' row) (hr : ∀ g, row = some g → tag g ≠ t) : Sr w' v m n f := by
  obtain ⟨ad, cap, rfl, h⟩ := h
  refine ⟨ad, cap, rfl, fun hp => ?_⟩
  obtain ⟨b, off, rfl, hc⟩ := h hp
  obtain ⟨_, hw, ht⟩ := hb b off _ cap rfl (Nat.mul_pos hp hm)
  exact ⟨b, off, rfl, fun j hj i hi => (hg.cell_far ⟨b, off + j * m + i, none⟩ hw.lt (fun q => hr b q.symm ht)).trans (hc j hj i hi)⟩
theorem Svs.grown {w w' : World} {base t n : Nat} {v : Value} {f : Nat → Value} {tag : Nat → Nat} {row : Option Nat} (h : Svs w v n f) (hb : Bk w base v n tag t) (hg : w.grownBy w' row) (hr : ∀ g, row = some g → tag g ≠ t) : Svs w' v n f := by
  obtain ⟨ad, cap, rfl, h⟩ := h
  refine ⟨ad, cap, rfl, fun hp => ?_⟩
  obtain ⟨b, off, rfl, hc⟩ := h hp
  obtain ⟨_, hw, ht⟩ := hb b off _ cap rfl hp
  exact ⟨b, off, rfl, fun j hj => (hg.cell_far ⟨b, off + j, none⟩ hw.lt (fun q => hr b q.symm ht)).trans (hc j hj)⟩
theorem Svs.of_own {w : World} {base n : Nat} {T : TypeId} {v : Value} {xs : List Value} {f : Nat → Value} (h : w.ownsRow base T 1 v n xs) (hf : ∀ j, j < n → xs[j]? = some (f j)) : Svs w v n f := by
  rcases h.2 with ⟨h', hn⟩ | ⟨g, cap, cur, h', hb, hg, hnc, hcm, hcs, htake⟩
  · exact ⟨none, 0, by rw [hn]; exact h', fun hp => by omega⟩
  · refine ⟨some ⟨g, 0, none⟩, cap, h', fun _ => ⟨g, 0, rfl, fun j hj => ?_⟩⟩
    have hh : w.ownsRow base T 1 (.slice (some ⟨g, 0, none⟩) n cap) n xs := h' ▸ h
    rw [Nat.zero_add, hh.cellAt _ (by omega)]
    exact hf j hj

/-- a Tso in memory of its own, at base and behind -/
structure Ta (w : World) (base : Nat) (mv bv rv : Value) (zs : List Int) (C : Nat) (L : Nat → Nat) (F : Nat → Nat → Nat → Int) (R : Nat) (Z : Nat → List Int) (vb vr : Nat → Value) (tag : Nat → Nat) : Prop where
  ms : Sl w mv zs
  mb : Bk w base mv zs.length tag 0
  bs : Svs w bv C vb
  bb : Bk w base bv C tag 1
  rs : Svs w rv R vr
  rb : Bk w base rv R tag 2
  bi : ∀ c, c < C → Sr w (vb c) 2 (L c) (F c)
  bI : ∀ c, c < C → Bk w base (vb c) (L c * 2) tag (3 + 2 * c)
  ri : ∀ c, c < R → Sl w (vr c) (Z c)
  rI : ∀ c, c < R → Bk w base (vr c) (Z c).length tag (4 + 2 * c)

theorem Ta.tv {w : World} {base : Nat} {mv bv rv : Value} {zs : List Int} {C : Nat} {L : Nat → Nat} {F : Nat → Nat → Nat → Int} {R : Nat} {Z : Nat → List Int} {vb vr : Nat → Value} {tag : Nat → Nat} (h : Ta w base mv bv rv zs C L F R Z vb vr tag) : Tv w mv bv rv zs C L F R Z := by
  refine ⟨h.ms, ?_, ?_⟩
  · obtain ⟨ad, cap, e, hc⟩ := h.bs
    refine ⟨ad, cap, e, fun hp => ?_⟩
    obtain ⟨b, off, e2, hc⟩ := hc hp
    refine ⟨b, off, e2, fun c hcc => ?_⟩
    have hs := h.bi c hcc
    obtain ⟨ia, ic, e3, hs'⟩ := hs
    exact ⟨ia, ic, by rw [← e3]; exact hc c hcc, by rw [← e3]; exact h.bi c hcc⟩
  · obtain ⟨ad, cap, e, hc⟩ := h.rs
    refine ⟨ad, cap, e, fun hp => ?_⟩
    obtain ⟨b, off, e2, hc⟩ := hc hp
    refine ⟨b, off, e2, fun c hcc => ?_⟩
    have hs := h.ri c hcc
    obtain ⟨ia, ic, e3, hs'⟩ := hs
    exact ⟨ia, ic, by rw [← e3]; exact hc c hcc, by rw [← e3]; exact h.ri c hcc⟩

/-- what changes no row of it -/
theorem Ta.grown {w w' : World} {base : Nat} {mv bv rv : Value} {zs : List Int} {C : Nat} {L : Nat → Nat} {F : Nat → Nat → Nat → Int} {R : Nat} {Z : Nat → List Int} {vb vr : Nat → Value} {tag : Nat → Nat} {row : Option Nat} (h : Ta w base mv bv rv zs C L F R Z vb vr tag) (hg : w.grownBy w' row) (hr : ∀ g, row = some g → g < base) : Ta w' base mv bv rv zs C L F R Z vb vr tag := by
  have hb : ∀ {v : Value} {k t : Nat}, Bk w base v k tag t → Bk w' base v k tag t := fun hb g off n cap e hk => by
    obtain ⟨h1, h2, h3⟩ := hb g off n cap e hk
    exact ⟨h1, h2.grown hg (fun q => by have := hr g q; omega), h3⟩
  have hl : ∀ {v : Value} {zs : List Int} {t : Nat}, Sl w v zs → Bk w base v zs.length tag t → Sl w' v zs := fun {v zs t} hs hb => by
    obtain ⟨ad, cap, rfl, hs⟩ := hs
    refine ⟨ad, cap, rfl, fun hp => ?_⟩
    obtain ⟨b, off, rfl, hc⟩ := hs hp
    obtain ⟨h1, hw, _⟩ := hb b off _ cap rfl hp
    exact ⟨b, off, rfl, fun j hj => (hg.cell_far ⟨b, off + j, none⟩ hw.lt (fun q => by have := hr b q.symm; omega)).trans (hc j hj)⟩
  have hv : ∀ {v : Value} {n : Nat} {f : Nat → Value} {t : Nat}, Svs w v n f → Bk w base v n tag t → Svs w' v n f := fun {v n f t} hs hb => by
    obtain ⟨ad, cap, rfl, hs⟩ := hs
    refine ⟨ad, cap, rfl, fun hp => ?_⟩
    obtain ⟨b, off, rfl, hc⟩ := hs hp
    obtain ⟨h1, hw, _⟩ := hb b off _ cap rfl hp
    exact ⟨b, off, rfl, fun j hj => (hg.cell_far ⟨b, off + j, none⟩ hw.lt (fun q => by have := hr b q.symm; omega)).trans (hc j hj)⟩
  refine ⟨hl h.ms h.mb, hb h.mb, hv h.bs h.bb, hb h.bb, hv h.rs h.rb, hb h.rb, fun c hc => ?_, fun c hc => hb (h.bI c hc), fun c hc => hl (h.ri c hc) (h.rI c hc), fun c hc => hb (h.rI c hc)⟩
  obtain ⟨ad, cap, e, hs⟩ := h.bi c hc
  refine ⟨ad, cap, e, fun hp => ?_⟩
  obtain ⟨b, off, e2, hcc⟩ := hs hp
  obtain ⟨h1, hw, _⟩ := h.bI c hc b off _ cap (by rw [e, e2]) (by omega)
  exact ⟨b, off, e2, fun j hj i hi => (hg.cell_far ⟨b, off + j * 2 + i, none⟩ hw.lt (fun q => by have := hr b q.symm; omega)).trans (hcc j hj i hi)⟩
theorem Ta.below {w w' : World} {base : Nat} {mv bv rv : Value} {zs : List Int} {C : Nat} {L : Nat → Nat} {F : Nat → Nat → Nat → Int} {R : Nat} {Z : Nat → List Int} {vb vr : Nat → Value} {tag : Nat → Nat} (h : Ta w base mv bv rv zs C L F R Z vb vr tag) (hb : Below w.heap.size w w') : Ta w' base mv bv rv zs C L F R Z vb vr tag := h.grown (row := none) (grown_any hb) (fun g e => by cases e)
theorem Ta.mono {w : World} {base base' : Nat} {mv bv rv : Value} {zs : List Int} {C : Nat} {L : Nat → Nat} {F : Nat → Nat → Nat → Int} {R : Nat} {Z : Nat → List Int} {vb vr : Nat → Value} {tag : Nat → Nat} (h : Ta w base mv bv rv zs C L F R Z vb vr tag) (hb : base' ≤ base) : Ta w base' mv bv rv zs C L F R Z vb vr tag :=
  ⟨h.ms, h.mb.mono hb, h.bs, h.bb.mono hb, h.rs, h.rb.mono hb, h.bi, fun c hc => (h.bI c hc).mono hb, h.ri, fun c hc => (h.rI c hc).mono hb⟩

/-- what changes a block of another tag -/
theorem Ta.tagged {w w' : World} {base : Nat} {mv bv rv : Value} {zs : List Int} {C : Nat} {L : Nat → Nat} {F : Nat → Nat → Nat → Int} {R : Nat} {Z : Nat → List Int} {vb vr : Nat → Value} {tag : Nat → Nat} {row : Option Nat} (h : Ta w base mv bv rv zs C L F R Z vb vr tag) (hg : w.grownBy w' row) (hr : ∀ g, row = some g → tag g = 100) (hC : C ≤ 40) (hR : R ≤ 40) : Ta w' base mv bv rv zs C L F R Z vb vr tag := by
  have hq : ∀ {t : Nat}, t ≠ 100 → ∀ g, row = some g → tag g ≠ t := fun {t} ht g e => by rw [hr g e]; exact fun q => ht q.symm
  exact ⟨h.ms.grown h.mb hg (hq (by decide)), h.mb.grown hg (hq (by decide)), h.bs.grown h.bb hg (hq (by decide)), h.bb.grown hg (hq (by decide)), h.rs.grown h.rb hg (hq (by decide)), h.rb.grown hg (hq (by decide)), fun c hc => (h.bi c hc).grown (by decide) (h.bI c hc) hg (hq (by omega)), fun c hc => (h.bI c hc).grown hg (hq (by omega)), fun c hc => (h.ri c hc).grown (h.rI c hc) hg (hq (by omega)), fun c hc => (h.rI c hc).grown hg (hq (by omega))⟩

/-- a row of slices, one more: what it reads as -/
def ext (f : Nat → Value) (k : Nat) (u : Value) : Nat → Value := fun c => if c = k then u else f c
theorem ext_at (f : Nat → Value) (k : Nat) (u : Value) : ext f k u k = u := if_pos rfl
theorem ext_old {f : Nat → Value} {k c : Nat} {u : Value} (h : c < k) : ext f k u c = f c := if_neg (by omega)
theorem ext_row (f : Nat → Value) (k : Nat) (u : Value) : (List.range k).map f ++ [u] = (List.range (k + 1)).map (ext f k u) := by
  rw [List.range_succ, List.map_append, List.map_singleton, ext_at]
  congr 1
  apply List.map_congr_left
  intro c hc
  rw [ext_old (List.mem_range.1 hc)]

/-- one more buffer -/
theorem Ta.pushB {w w' : World} {base : Nat} {mv bv rv bv' u : Value} {zs : List Int} {k : Nat} {L : Nat → Nat} {F : Nat → Nat → Nat → Int} {R : Nat} {Z : Nat → List Int} {vb vr : Nat → Value} {tag : Nat → Nat} {T : TypeId}
    (h : Ta w base mv bv rv zs k L F R Z vb vr tag) (ht : ∀ g, bv.ownBlock = some g → tag g = 1) (hg : w.grownBy w' bv.ownBlock) (hu : Sr w' u 2 (L k) (F k))
    (hub : ∀ g off n cap, u = .slice (some ⟨g, off, none⟩) n cap → 0 < L k → w.heap.size ≤ g ∧ Wc w' g (off + L k * 2)) (hb' : w'.ownsRow base T 1 bv' (k + 1) ((List.range k).map vb ++ [u]))
    (hl : bv'.ownBlock = bv.ownBlock ∨ ∃ g, bv'.ownBlock = some g ∧ w.heap.size ≤ g) (hne : ∀ g, bv'.ownBlock = some g → u.ownBlock ≠ some g) (hbw : base ≤ w.heap.size) :
    ∃ tag', Ta w' base mv bv' rv zs (k + 1) L F R Z (ext vb k u) vr tag' ∧ (∀ g, bv'.ownBlock = some g → tag' g = 1) ∧ (∀ g, g < w.heap.size → tag' g = tag g) ∧ ∀ g, u.ownBlock = some g → w.heap.size ≤ g → tag' g = 3 + 2 * k := by
  rw [ext_row] at hb'
  have hold : ∀ {v : Value} {n t : Nat}, Bk w base v n tag t → t ≠ 1 → Bk w' base v n (fun g => if u.ownBlock = some g ∧ w.heap.size ≤ g then 3 + 2 * k else if bv'.ownBlock = some g then 1 else tag g) t := fun {v n t} hb h1 => by
    have h2 := hb.grown hg (fun g e => by rw [ht g e]; exact fun q => h1 q.symm)
    intro g off n' cap e hk
    obtain ⟨_, hwc, _⟩ := hb g off n' cap e hk
    obtain ⟨q1, q2, q3⟩ := h2 g off n' cap e hk
    refine ⟨q1, q2, ?_⟩
    have hlt := hwc.lt
    (try simp only [])
    rw [if_neg (fun q => by omega), if_neg (fun q => ?_)]
    · exact q3
    · rcases hl with hl | ⟨g', hl, hge⟩
      · rw [hl] at q; exact h1 (q3.symm.trans (ht g q))
      · rw [hl] at q; simp only [Option.some.injEq] at q; omega
  have htn : ∀ g, bv'.ownBlock = some g → (fun g => if u.ownBlock = some g ∧ w.heap.size ≤ g then 3 + 2 * k else if bv'.ownBlock = some g then 1 else tag g) g = 1 := fun g e => by
    (try simp only [])
    rw [if_neg (fun q => hne g e q.1), if_pos e]
  have hgr1 : ∀ {t : Nat}, t ≠ 1 → ∀ g, bv.ownBlock = some g → tag g ≠ t := fun {t} h1 g e => by rw [ht g e]; exact fun q => h1 q.symm
  refine ⟨_, ⟨h.ms.grown h.mb hg (hgr1 (by decide)), hold h.mb (by decide), Svs.of_own hb' (fun j hj => by simp [hj]), by have := Bk.of_own hb' htn; rwa [Nat.mul_one] at this, h.rs.grown h.rb hg (hgr1 (by decide)), hold h.rb (by decide), fun c hc => ?_, fun c hc => ?_, fun c hc => (h.ri c hc).grown (h.rI c hc) hg (hgr1 (by omega)), fun c hc => hold (h.rI c hc) (by omega)⟩, htn, fun g hlt => ?_, fun g q1 q2 => if_pos ⟨q1, q2⟩⟩
  · by_cases e : c = k
    · subst e; rw [ext_at]; exact hu
    · rw [ext_old (by omega)]; exact (h.bi c (by omega)).grown (by decide) (h.bI c (by omega)) hg (hgr1 (by omega))
  · by_cases e : c = k
    · subst e
      rw [ext_at]
      intro g off n cap e hk
      obtain ⟨q1, q2⟩ := hub g off n cap e (by omega)
      refine ⟨by omega, q2, ?_⟩
      (try simp only [])
      rw [if_pos ⟨by rw [e]; rfl, q1⟩]
    · rw [ext_old (by omega)]; exact hold (h.bI c (by omega)) (by omega)
  · (try simp only [])
    rw [if_neg (fun q => by omega)]
    by_cases q : bv'.ownBlock = some g
    · rw [if_pos q]
      rcases hl with hl | ⟨g', hl, hge⟩
      · rw [hl] at q; exact (ht g q).symm
      · rw [hl] at q; simp only [Option.some.injEq] at q; omega
    · rw [if_neg q]
/-- one more row of registers -/
theorem Ta.pushR {w w' : World} {base : Nat} {mv bv rv rv' u : Value} {zs : List Int} {C : Nat} {L : Nat → Nat} {F : Nat → Nat → Nat → Int} {k : Nat} {Z : Nat → List Int} {vb vr : Nat → Value} {tag : Nat → Nat} {T : TypeId}
    (h : Ta w base mv bv rv zs C L F k Z vb vr tag) (ht : ∀ g, rv.ownBlock = some g → tag g = 2) (hg : w.grownBy w' rv.ownBlock) (hu : Sl w' u (Z k))
    (hub : ∀ g off n cap, u = .slice (some ⟨g, off, none⟩) n cap → 0 < (Z k).length → w.heap.size ≤ g ∧ Wc w' g (off + (Z k).length)) (hb' : w'.ownsRow base T 1 rv' (k + 1) ((List.range k).map vr ++ [u]))
    (hl : rv'.ownBlock = rv.ownBlock ∨ ∃ g, rv'.ownBlock = some g ∧ w.heap.size ≤ g) (hne : ∀ g, rv'.ownBlock = some g → u.ownBlock ≠ some g) (hbw : base ≤ w.heap.size) :
    ∃ tag', Ta w' base mv bv rv' zs C L F (k + 1) Z vb (ext vr k u) tag' ∧ (∀ g, rv'.ownBlock = some g → tag' g = 2) ∧ ∀ g, g < w.heap.size → tag' g = tag g := by
  rw [ext_row] at hb'
  have hold : ∀ {v : Value} {n t : Nat}, Bk w base v n tag t → t ≠ 2 → Bk w' base v n (fun g => if u.ownBlock = some g ∧ w.heap.size ≤ g then 4 + 2 * k else if rv'.ownBlock = some g then 2 else tag g) t := fun {v n t} hb h1 => by
    have h2 := hb.grown hg (fun g e => by rw [ht g e]; exact fun q => h1 q.symm)
    intro g off n' cap e hk
    obtain ⟨_, hwc, _⟩ := hb g off n' cap e hk
    obtain ⟨q1, q2, q3⟩ := h2 g off n' cap e hk
    refine ⟨q1, q2, ?_⟩
    have hlt := hwc.lt
    (try simp only [])
    rw [if_neg (fun q => by omega), if_neg (fun q => ?_)]
    · exact q3
    · rcases hl with hl | ⟨g', hl, hge⟩
      · rw [hl] at q; exact h1 (q3.symm.trans (ht g q))
      · rw [hl] at q; simp only [Option.some.injEq] at q; omega
  have htn : ∀ g, rv'.ownBlock = some g → (fun g => if u.ownBlock = some g ∧ w.heap.size ≤ g then 4 + 2 * k else if rv'.ownBlock = some g then 2 else tag g) g = 2 := fun g e => by
    (try simp only [])
    rw [if_neg (fun q => hne g e q.1), if_pos e]
  have hgr1 : ∀ {t : Nat}, t ≠ 2 → ∀ g, rv.ownBlock = some g → tag g ≠ t := fun {t} h1 g e => by rw [ht g e]; exact fun q => h1 q.symm
  refine ⟨_, ⟨h.ms.grown h.mb hg (hgr1 (by decide)), hold h.mb (by decide), h.bs.grown h.bb hg (hgr1 (by decide)), hold h.bb (by decide), Svs.of_own hb' (fun j hj => by simp [hj]), by have := Bk.of_own hb' htn; rwa [Nat.mul_one] at this, fun c hc => (h.bi c hc).grown (by decide) (h.bI c hc) hg (hgr1 (by omega)), fun c hc => hold (h.bI c hc) (by omega), fun c hc => ?_, fun c hc => ?_⟩, htn, fun g hlt => ?_⟩
  · by_cases e : c = k
    · subst e; rw [ext_at]; exact hu
    · rw [ext_old (by omega)]; exact (h.ri c (by omega)).grown (h.rI c (by omega)) hg (hgr1 (by omega))
  · by_cases e : c = k
    · subst e
      rw [ext_at]
      intro g off n cap e hk
      obtain ⟨q1, q2⟩ := hub g off n cap e (by omega)
      refine ⟨by omega, q2, ?_⟩
      (try simp only [])
      rw [if_pos ⟨by rw [e]; rfl, q1⟩]
    · rw [ext_old (by omega)]; exact hold (h.rI c (by omega)) (by omega)
  · (try simp only [])
    rw [if_neg (fun q => by omega)]
    by_cases q : rv'.ownBlock = some g
    · rw [if_pos q]
      rcases hl with hl | ⟨g', hl, hge⟩
      · rw [hl] at q; exact (ht g q).symm
      · rw [hl] at q; simp only [Option.some.injEq] at q; omega
    · rw [if_neg q]

end Go.Proofs.Ytcocobmanlmjdaa
