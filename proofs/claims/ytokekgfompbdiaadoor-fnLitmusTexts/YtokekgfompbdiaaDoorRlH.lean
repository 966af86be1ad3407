/- a read test marked, its marks found again -/
import Derived.Test.YtokekgfompbdiaaDoorRlG
namespace Go.Proofs.YtokekgfompbdiaaDoor
open Go.RowKit
set_option linter.unusedVariables false
set_option linter.unusedSimpArgs false

/-- the first len cells of g hold k0, k0 + 1, .. -/
def Vr (w : World) (g len : Nat) (k0 : Int) : Prop := ∀ x, x < len → w.cell? ⟨g, x, none⟩ = some (.int .i64 (k0 + (x : Int)))
theorem Vr.at {w : World} {g len x : Nat} {k0 z : Int} (h : Vr w g len k0) (hx : x < len) (hz : z = k0 + (x : Int)) : w.cell? ⟨g, x, none⟩ = some (.int .i64 z) := by rw [hz]; exact h x hx
theorem Vr.put {w : World} {g x len : Nat} {k0 z : Int} (h : Vr w g x k0) (hw : Wc w g len) (hx : x < len) (hz : z = k0 + (x : Int)) : Vr (w.setCell ⟨g, x, none⟩ (.int .i64 z)) g (x + 1) k0 := by
  intro y hy
  by_cases e : x = y
  · subst e
    obtain ⟨u, hu⟩ := hw.facts.2 x hx
    rw [World.cell?_setCell_same (h := hu), hz]
  · rw [far_set e]; exact h y (by omega)
theorem Vr.chg {S : Nat → Prop} {w w' : World} {g len : Nat} {k0 : Int} (h : Vr w g len k0) (hc : Chg S w w') (hS : ¬ S g) : Vr w' g len k0 := fun x hx => hc.cell hS (h x hx)
theorem Vr.below {w w' : World} {g len : Nat} {k0 : Int} (h : Vr w g len k0) (hb : Below w.heap.size w w') : Vr w' g len k0 := fun x hx => keepc hb (h x hx)

def ks (L : Nat → Nat) : Nat → Int
  | 0 => 1
  | c + 1 => ks L c + 5 * L c
theorem ks_bound {L : Nat → Nat} {C : Nat} (h : ∀ c, c < C → L c ≤ 3) : ∀ c, c ≤ C → 1 ≤ ks L c ∧ ks L c ≤ 1 + 15 * c
  | 0, _ => ⟨Int.le_refl _, by simp [ks]⟩
  | c + 1, hc => by
    have h1 := ks_bound h c (by omega)
    have h2 := h c (by omega)
    have e : ks L (c + 1) = ks L c + 5 * L c := rfl
    rw [e]
    omega
/-- rows of acts, each in a block of its own -/
structure RwT (w : World) (v : Value) (C : Nat) (L : Nat → Nat) (vs : Nat → Value) (ib : Nat → Nat) : Prop where
  out : ∃ ad cap, v = .slice ad C cap ∧ (0 < C → ∃ g, ad = some ⟨g, 0, none⟩ ∧ ∀ c, c < C → w.cell? ⟨g, c, none⟩ = some (vs c) ∧ (0 < L c → ib c ≠ g))
  row : ∀ c, c < C → ∃ a cap, vs c = .slice a (L c) cap ∧ (0 < L c → a = some ⟨ib c, 0, none⟩)
theorem RwT.below {w w' : World} {v : Value} {C : Nat} {L : Nat → Nat} {vs : Nat → Value} {ib : Nat → Nat} (h : RwT w v C L vs ib) (hb : Below w.heap.size w w') : RwT w' v C L vs ib := by
  refine ⟨?_, h.row⟩
  obtain ⟨ad, cap, e, hc⟩ := h.out
  refine ⟨ad, cap, e, fun hp => ?_⟩
  obtain ⟨g, e2, hd⟩ := hc hp
  exact ⟨g, e2, fun c hcc => ⟨keepc hb (hd c hcc).1, (hd c hcc).2⟩⟩
/-- what may be written -/
structure WrT (w : World) (C : Nat) (L : Nat → Nat) (ib : Nat → Nat) : Prop where
  wc : ∀ c, c < C → 0 < L c → Wc w (ib c) (L c * 5)
  inj : ∀ c c', c < C → c' < C → 0 < L c → 0 < L c' → ib c = ib c' → c = c'
theorem WrT.below {w w' : World} {C : Nat} {L ib : Nat → Nat} (h : WrT w C L ib) (hb : Below w.heap.size w w') : WrT w' C L ib := ⟨fun c hc hl => (h.wc c hc hl).below hb, h.inj⟩
def Inb (C : Nat) (L ib : Nat → Nat) (x : Nat) : Prop := ∃ c, c < C ∧ 0 < L c ∧ x = ib c
def ibk (vs : Nat → Value) (c : Nat) : Nat := (vs c).ownBlock.getD 0
theorem OwT.parts {w : World} {base : Nat} {v : Value} {ts : List (List Ac)} {vs : Nat → Value} (h : OwT w base v ts vs) : RwT w v ts.length (Lf ts) vs (ibk vs) ∧ WrT w ts.length (Lf ts) (ibk vs) ∧ ∀ x, Inb ts.length (Lf ts) (ibk vs) x → base ≤ x := by
  have hf : ∀ c, c < ts.length → ∃ a cap, vs c = .slice a (Lf ts c) cap ∧ (0 < Lf ts c → a = some ⟨ibk vs c, 0, none⟩ ∧ (vs c).ownBlock = some (ibk vs c) ∧ Wc w (ibk vs c) (Lf ts c * 5)) := by
    intro c hc
    rcases (h.own c hc).2 with ⟨h', hn⟩ | ⟨g, cap, cur, h', hb, hg, hnc, hcm, hcs, htake⟩
    · exact ⟨none, 0, by rw [h']; unfold Lf; rw [hn], fun hp => by unfold Lf at hp; omega⟩
    · have e : ibk vs c = g := by unfold ibk; rw [h']; rfl
      refine ⟨_, cap, h', fun _ => ⟨by rw [e], by rw [h', e]; rfl, cur, _, by rw [e]; exact hg, ?_⟩⟩
      rw [hcs]
      exact Nat.mul_le_mul_right _ hnc
  refine ⟨⟨?_, fun c hc => ?_⟩, ⟨fun c hc hl => ?_, fun c c' hc hc' hl hl' e => ?_⟩, fun x hx => ?_⟩
  · rcases h.row.2 with ⟨h', hn⟩ | ⟨g, cap, cur, h', hb, hg, hnc, hcm, hcs, htake⟩
    · exact ⟨none, 0, by rw [hn]; exact h', fun hp => by omega⟩
    · have hh : w.ownsRow base 34 1 (.slice (some ⟨g, 0, none⟩) ts.length cap) ts.length ((List.range ts.length).map vs) := h' ▸ h.row
      refine ⟨_, cap, h', fun _ => ⟨g, rfl, fun c hc => ⟨?_, fun hl e => ?_⟩⟩⟩
      · rw [hh.cellAt c (by omega), range_at hc]
      · obtain ⟨a, cap2, _, hq⟩ := hf c hc
        exact h.ap c hc (ibk vs c) (hq hl).2.1 (by rw [h', e]; rfl)
  · obtain ⟨a, cap, e, hq⟩ := hf c hc
    exact ⟨a, cap, e, fun hl => (hq hl).1⟩
  · obtain ⟨a, cap, e, hq⟩ := hf c hc
    exact (hq hl).2.2
  · obtain ⟨_, _, _, hq⟩ := hf c hc
    obtain ⟨_, _, _, hq'⟩ := hf c' hc'
    have b1 := (hq hl).2.1
    have b2 := (hq' hl').2.1
    rcases Nat.lt_trichotomy c c' with hlt | hlt | hlt
    · exact absurd (by rw [b1, e]) (h.inj c' c hc' hlt _ b2)
    · exact hlt
    · exact absurd (by rw [b2, e]) (h.inj c c' hc hlt _ b1)
  · obtain ⟨c, hc, hl, rfl⟩ := hx
    obtain ⟨_, _, _, hq⟩ := hf c hc
    exact (World.ownsRow.lt (h.own c hc) _ (hq hl).2.1).1

/-- a reader's answer, whatever it is -/
theorem rl_all {r : Option (List (List Ac))} {w w' : World} {e : Ending} (h : RlPost r w e w') : ∃ v vs, e = .returned (.tuple #[.agg #[v], .bool r.isSome]) ∧ OwT w' w.heap.size v (r.getD []) vs ∧ Below w.heap.size w w' := by
  obtain ⟨hb, ⟨rfl, rfl⟩ | ⟨ts, v, vs, rfl, rfl, ho⟩⟩ := h
  · exact ⟨_, _, rfl, OwT.nil _ _, hb⟩
  · exact ⟨v, vs, rfl, ho, hb⟩
theorem rl_small (s : By) : ((rlI s).getD []).length ≤ 2 ∧ ∀ c, c < ((rlI s).getD []).length → Lf ((rlI s).getD []) c ≤ 3 := by
  cases h : rlI s with
  | none => exact ⟨by simp, fun c hc => by simp at hc⟩
  | some ts =>
    have hr := rt_of (rl_some.1 h).1
    refine ⟨hr.1.2, fun c hc => ?_⟩
    have hc' : c < ts.length := hc
    have e : ts[c]? = some (ts.getD c []) := by simp [List.getElem?_eq_getElem hc']
    exact (hr.2 c _ e).1

end Go.Proofs.YtokekgfompbdiaaDoor
