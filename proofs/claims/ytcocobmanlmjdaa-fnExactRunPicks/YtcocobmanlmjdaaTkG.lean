/- a Tso written on: memory, a register, a buffer; plain facts -/
import Derived.Test.YtcocobmanlmjdaaTkF
namespace Go.Proofs.Ytcocobmanlmjdaa
open Go.RowKit
set_option linter.unusedVariables false
set_option linter.unusedSimpArgs false

def upd {α : Type} (f : Nat → α) (c : Nat) (x : α) : Nat → α := fun i => if i = c then x else f i
theorem upd_at {α : Type} (f : Nat → α) (c : Nat) (x : α) : upd f c x c = x := if_pos rfl
theorem upd_ne {α : Type} {f : Nat → α} {c i : Nat} {x : α} (h : i ≠ c) : upd f c x i = f i := if_neg h

theorem Sl.put {w : World} {g off cap v : Nat} {zs : List Int} {x : Int} (h : Sl w (.slice (some ⟨g, off, none⟩) zs.length cap) zs) (hv : v < zs.length) : Sl (w.setCell ⟨g, off + v, none⟩ (.int .i64 x)) (.slice (some ⟨g, off, none⟩) zs.length cap) (zs.set v x) := by
  obtain ⟨ad, c, e, hc⟩ := h
  obtain ⟨b, o, e2, hc⟩ := hc (by omega)
  simp only [Value.slice.injEq] at e
  obtain ⟨e1, _, _⟩ := e
  rw [e2] at e1
  simp only [Option.some.injEq, Addr.mk.injEq] at e1
  obtain ⟨rfl, rfl, _⟩ := e1
  refine ⟨some ⟨g, off, none⟩, cap, by rw [List.length_set], fun _ => ⟨g, off, rfl, fun j hj => ?_⟩⟩
  rw [List.length_set] at hj
  by_cases ej : j = v
  · subst ej
    rw [World.cell?_setCell_same (h := hc j hj)]
    simp [hj]
  · rw [far_set (by omega), hc j hj]
    simp [List.getElem?_set, Ne.symm ej]

theorem Ta.memAt {w : World} {base : Nat} {mv bv rv : Value} {zs : List Int} {C : Nat} {L : Nat → Nat} {F : Nat → Nat → Nat → Int} {R : Nat} {Z : Nat → List Int} {vb vr : Nat → Value} {tag : Nat → Nat} (h : Ta w base mv bv rv zs C L F R Z vb vr tag) (hp : 0 < zs.length) : ∃ g off cap, mv = .slice (some ⟨g, off, none⟩) zs.length cap ∧ base ≤ g ∧ Wc w g (off + zs.length) ∧ tag g = 0 ∧ ∀ j, j < zs.length → w.cell? ⟨g, off + j, none⟩ = some (.int .i64 (zs.getD j 0)) := by
  obtain ⟨ad, cap, e, hc⟩ := h.ms
  obtain ⟨g, off, e2, hc⟩ := hc hp
  rw [e2] at e
  obtain ⟨h1, h2, h3⟩ := h.mb g off _ cap e hp
  exact ⟨g, off, cap, e, h1, h2, h3, hc⟩
theorem Ta.bufAt {w : World} {base : Nat} {mv bv rv : Value} {zs : List Int} {C : Nat} {L : Nat → Nat} {F : Nat → Nat → Nat → Int} {R : Nat} {Z : Nat → List Int} {vb vr : Nat → Value} {tag : Nat → Nat} (h : Ta w base mv bv rv zs C L F R Z vb vr tag) (hp : 0 < C) : ∃ g off cap, bv = .slice (some ⟨g, off, none⟩) C cap ∧ base ≤ g ∧ Wc w g (off + C) ∧ tag g = 1 ∧ ∀ j, j < C → w.cell? ⟨g, off + j, none⟩ = some (vb j) := by
  obtain ⟨ad, cap, e, hc⟩ := h.bs
  obtain ⟨g, off, e2, hc⟩ := hc hp
  rw [e2] at e
  obtain ⟨h1, h2, h3⟩ := h.bb g off _ cap e hp
  exact ⟨g, off, cap, e, h1, h2, h3, hc⟩
theorem Ta.regAt {w : World} {base : Nat} {mv bv rv : Value} {zs : List Int} {C : Nat} {L : Nat → Nat} {F : Nat → Nat → Nat → Int} {R : Nat} {Z : Nat → List Int} {vb vr : Nat → Value} {tag : Nat → Nat} (h : Ta w base mv bv rv zs C L F R Z vb vr tag) (hp : 0 < R) : ∃ g off cap, rv = .slice (some ⟨g, off, none⟩) R cap ∧ base ≤ g ∧ Wc w g (off + R) ∧ tag g = 2 ∧ ∀ j, j < R → w.cell? ⟨g, off + j, none⟩ = some (vr j) := by
  obtain ⟨ad, cap, e, hc⟩ := h.rs
  obtain ⟨g, off, e2, hc⟩ := hc hp
  rw [e2] at e
  obtain ⟨h1, h2, h3⟩ := h.rb g off _ cap e hp
  exact ⟨g, off, cap, e, h1, h2, h3, hc⟩

/-- a cell of memory written -/
theorem Ta.setM {w : World} {base : Nat} {bv rv : Value} {zs : List Int} {C : Nat} {L : Nat → Nat} {F : Nat → Nat → Nat → Int} {R : Nat} {Z : Nat → List Int} {vb vr : Nat → Value} {tag : Nat → Nat} {g off cap v : Nat} {x : Int} (h : Ta w base (.slice (some ⟨g, off, none⟩) zs.length cap) bv rv zs C L F R Z vb vr tag) (hv : v < zs.length) :
    Ta (w.setCell ⟨g, off + v, none⟩ (.int .i64 x)) base (.slice (some ⟨g, off, none⟩) zs.length cap) bv rv (zs.set v x) C L F R Z vb vr tag := by
  obtain ⟨h1, h2, h3⟩ := h.mb g off _ cap rfl (by omega)
  have hg := grown_set w g (off + v) (.int .i64 x)
  have hq : ∀ {t : Nat}, t ≠ 0 → ∀ g', some g = some g' → tag g' ≠ t := fun {t} ht g' e => by simp only [Option.some.injEq] at e; rw [← e, h3]; exact fun q => ht q.symm
  refine ⟨h.ms.put hv, ?_, h.bs.grown h.bb hg (hq (by decide)), h.bb.grown hg (hq (by decide)), h.rs.grown h.rb hg (hq (by decide)), h.rb.grown hg (hq (by decide)), fun c hc => (h.bi c hc).grown (by decide) (h.bI c hc) hg (hq (by omega)), fun c hc => (h.bI c hc).grown hg (hq (by omega)), fun c hc => (h.ri c hc).grown (h.rI c hc) hg (hq (by omega)), fun c hc => (h.rI c hc).grown hg (hq (by omega))⟩
  intro g' off' n' cap' e hk
  simp only [Value.slice.injEq, Option.some.injEq, Addr.mk.injEq] at e
  obtain ⟨⟨rfl, rfl, _⟩, _, _⟩ := e
  rw [List.length_set]
  exact ⟨h1, h2.set _, h3⟩
/-- a register written -/
theorem Ta.setR {w : World} {base : Nat} {mv bv rv : Value} {zs : List Int} {C : Nat} {L : Nat → Nat} {F : Nat → Nat → Nat → Int} {R : Nat} {Z : Nat → List Int} {vb vr : Nat → Value} {tag : Nat → Nat} {c g off cap i : Nat} {x : Int} (h : Ta w base mv bv rv zs C L F R Z vb vr tag) (hc : c < R) (he : vr c = .slice (some ⟨g, off, none⟩) (Z c).length cap) (hi : i < (Z c).length) :
    Ta (w.setCell ⟨g, off + i, none⟩ (.int .i64 x)) base mv bv rv zs C L F R (upd Z c ((Z c).set i x)) vb vr tag := by
  obtain ⟨h1, h2, h3⟩ := h.rI c hc g off _ cap he (by omega)
  have hg := grown_set w g (off + i) (.int .i64 x)
  have hq : ∀ {t : Nat}, t ≠ 4 + 2 * c → ∀ g', some g = some g' → tag g' ≠ t := fun {t} ht g' e => by simp only [Option.some.injEq] at e; rw [← e, h3]; exact fun q => ht q.symm
  refine ⟨h.ms.grown h.mb hg (hq (by omega)), h.mb.grown hg (hq (by omega)), h.bs.grown h.bb hg (hq (by omega)), h.bb.grown hg (hq (by omega)), h.rs.grown h.rb hg (hq (by omega)), h.rb.grown hg (hq (by omega)), fun c' hc' => (h.bi c' hc').grown (by decide) (h.bI c' hc') hg (hq (by omega)), fun c' hc' => (h.bI c' hc').grown hg (hq (by omega)), fun c' hc' => ?_, fun c' hc' => ?_⟩
  · by_cases e : c' = c
    · subst e
      rw [upd_at, he]
      exact Sl.put (he ▸ h.ri c' hc) hi
    · rw [upd_ne e]
      exact (h.ri c' hc').grown (h.rI c' hc') hg (hq (by omega))
  · by_cases e : c' = c
    · subst e
      rw [upd_at, List.length_set]
      intro g' off' n' cap' e hk
      rw [he] at e
      simp only [Value.slice.injEq, Option.some.injEq, Addr.mk.injEq] at e
      obtain ⟨⟨rfl, rfl, _⟩, _, _⟩ := e
      exact ⟨h1, h2.set _, h3⟩
    · rw [upd_ne e]
      exact (h.rI c' hc').grown hg (hq (by omega))
/-- a buffer put in another's place: what was changed ahead of that lies in its own block alone -/
theorem Ta.putB2 {w w1 : World} {base : Nat} {mv rv u : Value} {zs : List Int} {C : Nat} {L : Nat → Nat} {F : Nat → Nat → Nat → Int} {R : Nat} {Z : Nat → List Int} {vb vr : Nat → Value} {tag : Nat → Nat} {row : Option Nat} {c bb bo bc n' : Nat} {f' : Nat → Nat → Int}
    (h : Ta w base mv (.slice (some ⟨bb, bo, none⟩) C bc) rv zs C L F R Z vb vr tag) (hc : c < C) (hg : w.grownBy w1 row) (hr : ∀ g, row = some g → tag g = 3 + 2 * c) (hu : Sr w1 u 2 n' f')
    (hub : ∀ g off n cap, u = .slice (some ⟨g, off, none⟩) n cap → 0 < n' → base ≤ g ∧ Wc w1 g (off + n' * 2) ∧ (tag g = 3 + 2 * c ∨ w.heap.size ≤ g)) (hbs : base ≤ w.heap.size) :
    ∃ tag', Ta (w1.setCell ⟨bb, bo + c, none⟩ u) base mv (.slice (some ⟨bb, bo, none⟩) C bc) rv zs C (upd L c n') (upd F c f') R Z (upd vb c u) vr tag' ∧ ∀ g, tag' g = if u.ownBlock = some g ∧ 0 < n' then 3 + 2 * c else tag g := by
  obtain ⟨b1, b2, b3⟩ := h.bb bb bo _ bc rfl (by omega)
  have hset := grown_set w1 bb (bo + c) u
  have hold : ∀ {v : Value} {k t : Nat}, Bk w base v k tag t → t ≠ 3 + 2 * c → t ≠ 1 → Bk (w1.setCell ⟨bb, bo + c, none⟩ u) base v k (fun g => if u.ownBlock = some g ∧ 0 < n' then 3 + 2 * c else tag g) t := fun {v k t} hb ht ht1 => by
    intro g off n cap e hk
    obtain ⟨q1, q2, q3⟩ := hb g off n cap e hk
    have hne : row ≠ some g := fun q => ht (q3.symm.trans (hr g q))
    have hnb : some bb ≠ some g := fun q => by simp only [Option.some.injEq] at q; rw [← q, b3] at q3; exact ht1 q3.symm
    refine ⟨q1, (q2.grown hg hne).grown hset hnb, ?_⟩
    (try simp only [])
    rw [if_neg (fun q => ?_)]
    · exact q3
    · obtain ⟨qa, qb⟩ := q
      cases hu' : u with
      | slice ad n2 c2 =>
        cases ad with
        | none => rw [hu'] at qa; simp [Value.ownBlock] at qa
        | some ad =>
          obtain ⟨g2, o2, s2⟩ := ad
          obtain ⟨ad', cap', e', hs'⟩ := hu
          obtain ⟨b', o', e2, _⟩ := hs' qb
          rw [hu'] at e'
          simp only [Value.slice.injEq] at e'
          obtain ⟨e3, _, _⟩ := e'
          rw [e2] at e3
          simp only [Option.some.injEq, Addr.mk.injEq] at e3
          obtain ⟨rfl, rfl, rfl⟩ := e3
          rw [hu'] at qa
          simp only [Value.ownBlock, Option.some.injEq] at qa
          rcases (hub _ _ _ _ hu' qb).2.2 with z | z
          · rw [qa] at z; exact ht (q3.symm.trans z)
          · rw [qa] at z; have := q2.lt; omega
      | _ => rw [hu'] at qa; simp [Value.ownBlock] at qa
  have hqr : ∀ {t : Nat}, t ≠ 3 + 2 * c → ∀ g, row = some g → tag g ≠ t := fun {t} ht g e => by rw [hr g e]; exact fun q => ht q.symm
  have hqb : ∀ {t : Nat}, t ≠ 1 → ∀ g, some bb = some g → tag g ≠ t := fun {t} ht g e => by simp only [Option.some.injEq] at e; rw [← e, b3]; exact fun q => ht q.symm
  have hwb : Wc w1 bb (bo + C) := b2.grown hg (fun q => by have := hr bb q; omega)
  have hcell : ∀ j, j < C → w1.cell? ⟨bb, bo + j, none⟩ = some (vb j) := by
    obtain ⟨ad, cap, e, hs⟩ := h.bs.grown h.bb hg (hqr (by omega))
    obtain ⟨b', o', e2, hs⟩ := hs (by omega)
    simp only [Value.slice.injEq] at e
    obtain ⟨e3, _, _⟩ := e
    rw [e2] at e3
    simp only [Option.some.injEq, Addr.mk.injEq] at e3
    obtain ⟨rfl, rfl, _⟩ := e3
    exact hs
  have hun : u.ownBlock ≠ some bb ∨ ¬ 0 < n' := by
    by_cases hp : 0 < n'
    · refine .inl fun q => ?_
      obtain ⟨ad', cap', e', hs'⟩ := hu
      obtain ⟨b', o', e2, _⟩ := hs' hp
      rw [e2] at e'
      have hx := hub _ _ _ _ e' hp
      rw [e'] at q
      simp only [Value.ownBlock, Option.some.injEq] at q
      rw [q] at hx
      rcases hx.2.2 with z | z
      · rw [b3] at z; omega
      · have := b2.lt; omega
    · exact .inr hp
  have htb : (fun g => if u.ownBlock = some g ∧ 0 < n' then 3 + 2 * c else tag g) bb = 1 := by
    (try simp only [])
    rw [if_neg (fun q => by rcases hun with z | z; exact z q.1; exact z q.2)]
    exact b3
  refine ⟨_, ⟨(h.ms.grown h.mb hg (hqr (by omega))).grown (h.mb.grown hg (hqr (by omega))) hset (hqb (by decide)), hold h.mb (by omega) (by decide), ?_, ?_, (h.rs.grown h.rb hg (hqr (by omega))).grown (h.rb.grown hg (hqr (by omega))) hset (hqb (by decide)), hold h.rb (by omega) (by decide), fun c' hc' => ?_, fun c' hc' => ?_, fun c' hc' => ((h.ri c' hc').grown (h.rI c' hc') hg (hqr (by omega))).grown ((h.rI c' hc').grown hg (hqr (by omega))) hset (hqb (by omega)), fun c' hc' => hold (h.rI c' hc') (by omega) (by omega)⟩, fun g => rfl⟩
  · refine ⟨_, bc, rfl, fun _ => ⟨bb, bo, rfl, fun j hj => ?_⟩⟩
    by_cases e : j = c
    · subst e
      rw [World.cell?_setCell_same (h := hcell j hj), upd_at]
    · rw [far_set (by omega), hcell j hj, upd_ne e]
  · intro g off n cap e hk
    simp only [Value.slice.injEq, Option.some.injEq, Addr.mk.injEq] at e
    obtain ⟨⟨rfl, rfl, _⟩, _, _⟩ := e
    exact ⟨b1, hwb.set _, htb⟩
  · by_cases e : c' = c
    · subst e
      rw [upd_at, upd_at, upd_at]
      obtain ⟨ad', cap', e', hs'⟩ := hu
      refine ⟨ad', cap', e', fun hp => ?_⟩
      obtain ⟨b', o', e2, hs'⟩ := hs' hp
      refine ⟨b', o', e2, fun j hj i hi => ?_⟩
      rw [other_set (fun q => ?_)]
      · exact hs' j hj i hi
      · rcases hun with z | z
        · exact z (by rw [e', e2, q]; rfl)
        · exact z hp
    · rw [upd_ne e, upd_ne e, upd_ne e]
      exact ((h.bi c' hc').grown (by decide) (h.bI c' hc') hg (hqr (by omega))).grown (by decide) ((h.bI c' hc').grown hg (hqr (by omega))) hset (hqb (by omega))
  · by_cases e : c' = c
    · subst e
      rw [upd_at, upd_at]
      intro g off n cap e hk
      obtain ⟨q1, q2, q3⟩ := hub g off n cap e (by omega)
      refine ⟨q1, q2.set _, ?_⟩
      (try simp only [])
      rw [if_pos ⟨by rw [e]; rfl, by omega⟩]
    · rw [upd_ne e, upd_ne e]
      exact hold (h.bI c' hc') (by omega) (by omega)

theorem Ta.putB {w w1 : World} {base : Nat} {mv rv u : Value} {zs : List Int} {C : Nat} {L : Nat → Nat} {F : Nat → Nat → Nat → Int} {R : Nat} {Z : Nat → List Int} {vb vr : Nat → Value} {tag : Nat → Nat} {row : Option Nat} {c bb bo bc n' : Nat} {f' : Nat → Nat → Int}
    (h : Ta w base mv (.slice (some ⟨bb, bo, none⟩) C bc) rv zs C L F R Z vb vr tag) (hc : c < C) (hg : w.grownBy w1 row) (hr : ∀ g, row = some g → tag g = 3 + 2 * c) (hu : Sr w1 u 2 n' f')
    (hub : ∀ g off n cap, u = .slice (some ⟨g, off, none⟩) n cap → 0 < n' → base ≤ g ∧ Wc w1 g (off + n' * 2) ∧ (tag g = 3 + 2 * c ∨ w.heap.size ≤ g)) (hbs : base ≤ w.heap.size) :
    ∃ tag', Ta (w1.setCell ⟨bb, bo + c, none⟩ u) base mv (.slice (some ⟨bb, bo, none⟩) C bc) rv zs C (upd L c n') (upd F c f') R Z (upd vb c u) vr tag' := by
  obtain ⟨tag', h', _⟩ := h.putB2 hc hg hr hu hub hbs
  exact ⟨tag', h'⟩

end Go.Proofs.Ytcocobmanlmjdaa
