/- a Tso's rows read one by one -/
import Derived.Test.YtneofegnbflfiaaDtE
namespace Go.Proofs.Ytneofegnbflfiaa
open Go.RowKit
set_option linter.unusedVariables false
set_option linter.unusedSimpArgs false

theorem Tv.regForm {w : World} {mv bv : Value} {xr : Option Addr} {zs : List Int} {C : Nat} {L : Nat → Nat} {F : Nat → Nat → Nat → Int} {R yr : Nat} {Z : Nat → List Int} (h : Tv w mv bv (.slice xr R yr) zs C L F R Z) (hp : 0 < R) : ∃ rb ro, xr = some ⟨rb, ro, none⟩ := by
  obtain ⟨_, _, ⟨ra, rc, e, h1⟩⟩ := h
  obtain ⟨rb, ro, rfl, _⟩ := h1 hp
  simp only [Value.slice.injEq] at e
  exact ⟨rb, ro, e.1⟩
theorem Tv.bufForm {w : World} {mv rv : Value} {xb : Option Addr} {zs : List Int} {C : Nat} {L : Nat → Nat} {F : Nat → Nat → Nat → Int} {R yb : Nat} {Z : Nat → List Int} (h : Tv w mv (.slice xb C yb) rv zs C L F R Z) (hp : 0 < C) : ∃ bb bo, xb = some ⟨bb, bo, none⟩ := by
  obtain ⟨_, ⟨ra, rc, e, h1⟩, _⟩ := h
  obtain ⟨rb, ro, rfl, _⟩ := h1 hp
  simp only [Value.slice.injEq] at e
  exact ⟨rb, ro, e.1⟩
theorem Tv.memForm {w : World} {bv rv : Value} {xm : Option Addr} {zs : List Int} {C n : Nat} {L : Nat → Nat} {F : Nat → Nat → Nat → Int} {R ym : Nat} {Z : Nat → List Int} (h : Tv w (.slice xm n ym) bv rv zs C L F R Z) (hp : 0 < zs.length) : ∃ mb mo, xm = some ⟨mb, mo, none⟩ := by
  obtain ⟨⟨ra, rc, e, h1⟩, _, _⟩ := h
  obtain ⟨rb, ro, rfl, _⟩ := h1 hp
  simp only [Value.slice.injEq] at e
  exact ⟨rb, ro, e.1⟩
theorem Tv.regC {w : World} {mv bv : Value} {rb ro : Nat} {zs : List Int} {C : Nat} {L : Nat → Nat} {F : Nat → Nat → Nat → Int} {R yr : Nat} {Z : Nat → List Int} (h : Tv w mv bv (.slice (some ⟨rb, ro, none⟩) R yr) zs C L F R Z) {c n : Nat} (hc : c < R) (hl : (Z c).length = n) (hp : 0 < n) :
    ∃ p o ic, w.cell? ⟨rb, ro + c, none⟩ = some (.slice (some ⟨p, o, none⟩) n ic) ∧ ∀ j, j < n → w.cell? ⟨p, o + j, none⟩ = some (.int .i64 ((Z c).getD j 0)) := by
  subst hl
  obtain ⟨rb', ro', rc', p, o, ic, e, h1, h2⟩ := h.regAt hc hp
  simp only [Value.slice.injEq, Option.some.injEq, Addr.mk.injEq] at e
  obtain ⟨⟨rfl, rfl, _⟩, _, _⟩ := e
  exact ⟨p, o, ic, h1, h2⟩
theorem Tv.bufC {w : World} {mv rv : Value} {bb bo : Nat} {zs : List Int} {C : Nat} {L : Nat → Nat} {F : Nat → Nat → Nat → Int} {R yb : Nat} {Z : Nat → List Int} (h : Tv w mv (.slice (some ⟨bb, bo, none⟩) C yb) rv zs C L F R Z) {c n : Nat} (hc : c < C) (hl : L c = n) :
    ∃ ia ic, w.cell? ⟨bb, bo + c, none⟩ = some (.slice ia n ic) ∧ (0 < n → ∃ p o, ia = some ⟨p, o, none⟩ ∧ w.cell? ⟨p, o, none⟩ = some (.int .i64 (F c 0 0)) ∧ w.cell? ⟨p, o + 1, none⟩ = some (.int .i64 (F c 0 1))) := by
  subst hl
  obtain ⟨bb', bo', bc', ia, ic, e, h1, ad, cap, e2, h2⟩ := h.bufAt2 hc
  simp only [Value.slice.injEq, Option.some.injEq, Addr.mk.injEq] at e
  obtain ⟨⟨rfl, rfl, _⟩, _, _⟩ := e
  obtain ⟨rfl, rfl⟩ : ia = ad ∧ ic = cap := by simp at e2; exact e2
  refine ⟨ia, ic, h1, fun hp => ?_⟩
  obtain ⟨p, o, rfl, h3⟩ := h2 hp
  have a := h3 0 hp 0 (by decide)
  have b := h3 0 hp 1 (by decide)
  simp only [Nat.zero_mul, Nat.add_zero] at a b
  exact ⟨p, o, rfl, a, b⟩
theorem Tv.memC {w : World} {bv rv : Value} {mb mo : Nat} {zs : List Int} {C n : Nat} {L : Nat → Nat} {F : Nat → Nat → Nat → Int} {R ym : Nat} {Z : Nat → List Int} (h : Tv w (.slice (some ⟨mb, mo, none⟩) n ym) bv rv zs C L F R Z) {v : Nat} (hv : v < zs.length) : w.cell? ⟨mb, mo + v, none⟩ = some (.int .i64 (zs.getD v 0)) := by
  obtain ⟨mb', mo', mc', e, h1⟩ := h.memAt (by omega)
  simp only [Value.slice.injEq, Option.some.injEq, Addr.mk.injEq] at e
  obtain ⟨⟨rfl, rfl, _⟩, _, _⟩ := e
  exact h1 v hv
theorem seB_int {d : Td} {C : Nat} {c v : Int} (h : tokD d C = true) (hc : 0 ≤ c ∧ c < C) (hv : 0 ≤ v ∧ v < 3) : seB d.zs C d.L d.F C d.Z c v = true ∧ seV d.zs C d.L d.F C d.Z c v = sn d.zs (d.F c.toNat) v.toNat (d.L c.toNat) := by
  have e : seB d.zs C d.L d.F C d.Z c v = true := by
    unfold seB
    simp only [Bool.and_eq_true, inB, decide_eq_true_eq]
    exact ⟨⟨h, by omega⟩, by omega⟩
  exact ⟨e, by unfold seV; rw [if_pos e]⟩

/-- two Tsos, each in its variable -/
def Ld (w : World) (B1 B2 : Nat) (m b r m2 b2 r2 : Value) (d D : Td) (C : Nat) (wr : World) : Prop := Bq wr B1 m b r d C ∧ Bq wr B2 m2 b2 r2 D C ∧ Below w.heap.size w wr
theorem Ld.below {w : World} {B1 B2 : Nat} {m b r m2 b2 r2 : Value} {d D : Td} {C : Nat} {wr wr' : World} (h : Ld w B1 B2 m b r m2 b2 r2 d D C wr) (hb : Below wr.heap.size wr wr') : Ld w B1 B2 m b r m2 b2 r2 d D C wr' :=
  ⟨h.1.below hb, h.2.1.below hb, h.2.2.trans (hb.mono h.2.2.size)⟩
theorem dr_says (d : Td) (C : Nat) : tokB d.zs C d.L d.F C d.Z = false ∨ (tokB d.zs C d.L d.F C d.Z = true ∧ tokD d C = true ∧ aC d C C = C ∧ tokD (eD d C C) C = true ∧ (∀ c, c < C → (eD d C C).L c = 0) ∧ (eD d C C).Z = d.Z ∧ dal (eD d C C) C = eD d C C) := by
  cases hx : tokB d.zs C d.L d.F C d.Z
  · exact .inl rfl
  · have e1 : eD d C C = dal d C := by unfold eD; rw [if_pos hx]
    have e2 : aC d C C = C := by unfold aC; rw [if_pos hx]
    rw [e1, e2]
    exact .inr ⟨rfl, hx, rfl, dal_tok hx (Nat.le_refl _), fun c hc => (dal_other (d := d)).2 c hc, (dal_other (d := d)).1, dal_again (fun c hc => (dal_other (d := d)).2 c hc)⟩

end Go.Proofs.Ytneofegnbflfiaa
