/- what waits is drained, core by core: plain facts -/
import Derived.Test.YtcocobmanlmjdaaTmF
namespace Go.Proofs.Ytcocobmanlmjdaa
open Go.RowKit
set_option linter.unusedVariables false
set_option linter.unusedSimpArgs false

theorem tok_of {zs : List Int} {C : Nat} {L : Nat → Nat} {F : Nat → Nat → Nat → Int} {R : Nat} {Z : Nat → List Int} (h : (1 ≤ C ∧ C ≤ 3) ∧ R = C ∧ zs.length = 3 ∧ (∀ j, j < 3 → 0 ≤ zs.getD j 0 ∧ zs.getD j 0 < 10) ∧ (∀ c, c < C → L c ≤ 4 ∧ (∀ j, j < L c → (0 ≤ F c j 0 ∧ F c j 0 < 3) ∧ 0 ≤ F c j 1 ∧ F c j 1 < 10) ∧ (Z c).length = 2 ∧ ∀ j, j < 2 → 0 ≤ (Z c).getD j 0 ∧ (Z c).getD j 0 < 10)) : tokB zs C L F R Z = true := by
  obtain ⟨h1, h2, h3, h4, h5⟩ := h
  simp only [tokB, inB, digB, stB, Bool.and_eq_true, decide_eq_true_eq]
  refine ⟨⟨⟨⟨by omega, by omega⟩, h2⟩, h3, fun j hj => h4 j (by omega)⟩, fun c hc => ?_⟩
  obtain ⟨a, b, e, g⟩ := h5 c hc
  exact ⟨⟨a, fun j hj => b j hj⟩, e, fun j hj => g j (by omega)⟩
theorem set_dig {zs : List Int} {i n : Nat} {x : Int} (h : ∀ j, j < n → 0 ≤ zs.getD j 0 ∧ zs.getD j 0 < 10) (hn : zs.length = n) (hx : 0 ≤ x ∧ x < 10) : ∀ j, j < n → 0 ≤ (zs.set i x).getD j 0 ∧ (zs.set i x).getD j 0 < 10 := by
  intro j hj
  by_cases e : i = j
  · subst e
    have : (zs.set i x).getD i 0 = x := by simp [List.getD_eq_getElem?_getD, List.getElem?_set, hn, hj]
    rw [this]; exact hx
  · have : (zs.set i x).getD j 0 = zs.getD j 0 := by simp [List.getD_eq_getElem?_getD, List.getElem?_set, e]
    rw [this]; exact h j hj

/-- one store drained -/
def dn (d : Td) (c : Nat) : Td := ⟨d.zs.set (d.F c 0 0).toNat (d.F c 0 1), upd d.L c (d.L c - 1), upd d.F c (fun j => d.F c (j + 1)), d.Z⟩
def dnN (d : Td) (c : Nat) : Nat → Td
  | 0 => d
  | n + 1 => dn (dnN d c n) c
def dal (d : Td) : Nat → Td
  | 0 => d
  | k + 1 => dnN (dal d k) k ((dal d k).L k)
theorem dnN_L (d : Td) (c n : Nat) : (dnN d c n).L c = d.L c - n := by
  induction n with
  | zero => rfl
  | succ n ih => show upd (dnN d c n).L c ((dnN d c n).L c - 1) c = _; rw [upd_at, ih]; omega
theorem dn_tok {d : Td} {C c : Nat} (h : tokD d C = true) (hc : c < C) (hp : 0 < d.L c) : tokD (dn d c) C = true := by
  obtain ⟨h1, h2, h3, h4, h5⟩ := tok_parts h
  have q := (h5 c hc).2.1 0 hp
  refine tok_of ⟨h1, rfl, by show (d.zs.set _ _).length = 3; rw [List.length_set]; exact h3, set_dig h4 h3 q.2, fun c' hc' => ?_⟩
  obtain ⟨a, b, e, g⟩ := h5 c' hc'
  show upd d.L c (d.L c - 1) c' ≤ 4 ∧ (∀ j, j < upd d.L c (d.L c - 1) c' → (0 ≤ upd d.F c (fun j => d.F c (j + 1)) c' j 0 ∧ upd d.F c (fun j => d.F c (j + 1)) c' j 0 < 3) ∧ 0 ≤ upd d.F c (fun j => d.F c (j + 1)) c' j 1 ∧ upd d.F c (fun j => d.F c (j + 1)) c' j 1 < 10) ∧ _
  by_cases q' : c' = c
  · subst q'
    rw [upd_at, upd_at]
    exact ⟨by omega, fun j hj => b (j + 1) (by omega), e, g⟩
  · rw [upd_ne q', upd_ne q']
    exact ⟨a, b, e, g⟩
theorem dnN_tok {d : Td} {C c n : Nat} (h : tokD d C = true) (hc : c < C) (hn : n ≤ d.L c) : tokD (dnN d c n) C = true := by
  induction n with
  | zero => exact h
  | succ n ih => exact dn_tok (ih (by omega)) hc (by rw [dnN_L]; omega)
theorem dal_tok {d : Td} {C k : Nat} (h : tokD d C = true) (hk : k ≤ C) : tokD (dal d k) C = true := by
  induction k with
  | zero => exact h
  | succ k ih => exact dnN_tok (ih (by omega)) (by omega) (Nat.le_refl _)
theorem nxt_dn {d : Td} {C c : Nat} (h : tokD d C = true) (hc : c < C) (hp : 0 < d.L c) : okc d C 4 c 0 0 0 = 0 ∧ nxt d C 4 c 0 0 0 = dn d c := by
  obtain ⟨h1, h2, h3, h4, h5⟩ := tok_parts h
  have hf : fmB C 4 c 0 0 0 = true := by
    simp [fmB, inB]
    omega
  have := (ok4 (d := d) hf).2
  simp only [Int.toNat_natCast] at this
  exact this hp

/-- a Tso drained, or none -/
def DrPost (d : Td) (C R : Nat) (w : World) (e : Ending) (w' : World) : Prop :=
  (tokB d.zs C d.L d.F R d.Z = false ∧ e = .returned (.tuple #[.agg #[nil3, nil3, nil3], .bool false]) ∧ Below w.heap.size w w') ∨
  (tokB d.zs C d.L d.F R d.Z = true ∧ ∃ m b r vb vr tag, e = .returned (.tuple #[.agg #[m, b, r], .bool true]) ∧ TaD w' w.heap.size m b r (dal d C) C vb vr tag ∧ Below w.heap.size w w')
def eD (d : Td) (C R : Nat) : Td := if tokB d.zs C d.L d.F R d.Z = true then dal d C else zD
theorem dr_all {d : Td} {C R : Nat} {w w' : World} {e : Ending} (h : DrPost d C R w e w') :
    ∃ m b r vb vr tag, e = .returned (.tuple #[.agg #[m, b, r], .bool (tokB d.zs C d.L d.F R d.Z)]) ∧ TaD w' w.heap.size m b r (eD d C R) (aC d C R) vb vr tag ∧ Below w.heap.size w w' := by
  rcases h with ⟨hx, rfl, hb⟩ | ⟨hx, m, b, r, vb, vr, tag, rfl, ta, hb⟩
  · refine ⟨nil3, nil3, nil3, fun _ => nil3, fun _ => nil3, fun _ => 0, by rw [hx], ?_, hb⟩
    have e1 : eD d C R = zD := by simp [eD, hx]
    have e2 : aC d C R = 0 := by simp [aC, hx]
    rw [e1, e2]
    exact nil_ta _ _
  · refine ⟨m, b, r, vb, vr, tag, by rw [hx], ?_, hb⟩
    have e1 : eD d C R = dal d C := by simp [eD, hx]
    have e2 : aC d C R = C := by simp [aC, hx]
    rw [e1, e2]
    exact ta
theorem eD_small (d : Td) (C R : Nat) : Sml (eD d C R) (aC d C R) := by
  cases hx : tokB d.zs C d.L d.F R d.Z
  · have e1 : eD d C R = zD := by simp [eD, hx]
    have e2 : aC d C R = 0 := by simp [aC, hx]
    rw [e1, e2]
    exact ⟨by simp [zD], by omega, fun c hc => absurd hc (by omega), fun c hc => absurd hc (by omega)⟩
  · have e1 : eD d C R = dal d C := by simp [eD, hx]
    have e2 : aC d C R = C := by simp [aC, hx]
    rw [e1, e2]
    have hR := (tok_parts hx).2.1
    subst hR
    obtain ⟨h1, h2, h3, _, h5⟩ := tok_parts (dal_tok hx (Nat.le_refl _))
    exact ⟨by omega, by omega, fun c hc => by have := (h5 c hc).1; omega, fun c hc => by have := (h5 c hc).2.2.1; omega⟩

theorem Ta.bcell {w : World} {base : Nat} {mv rv : Value} {zs : List Int} {C : Nat} {L : Nat → Nat} {F : Nat → Nat → Nat → Int} {R : Nat} {Z : Nat → List Int} {vb vr : Nat → Value} {tag : Nat → Nat} {bb bo bc c : Nat} (h : Ta w base mv (.slice (some ⟨bb, bo, none⟩) C bc) rv zs C L F R Z vb vr tag) (hc : c < C) : ∃ ia ic, vb c = .slice ia (L c) ic ∧ w.cell? ⟨bb, bo + c, none⟩ = some (.slice ia (L c) ic) := by
  obtain ⟨g, off, cap, e, _, _, _, hcell⟩ := h.bufAt (by omega)
  simp only [Value.slice.injEq, Option.some.injEq, Addr.mk.injEq] at e
  obtain ⟨⟨rfl, rfl, _⟩, _, _⟩ := e
  obtain ⟨ia, ic, e2, _⟩ := h.bi c hc
  exact ⟨ia, ic, e2, by rw [← e2]; exact hcell c hc⟩
theorem Bcap.of {w : World} {bv : Value} {C : Nat} {vb : Nat → Value} (h : Svs w bv C vb) (hc : Cpd vb C) : Bcap w bv C := by
  intro p o k c a n kk e hlt hcell
  obtain ⟨ad, cap, e', hs⟩ := h
  obtain ⟨b, off, e2, hs⟩ := hs (by omega)
  have e3 := e'.symm.trans e
  rw [e2] at e3
  simp only [Value.slice.injEq, Option.some.injEq, Addr.mk.injEq] at e3
  obtain ⟨⟨rfl, rfl, _⟩, _, rfl⟩ := e3
  have q := hs c hlt
  rw [hcell] at q
  simp only [Option.some.injEq] at q
  exact hc c hlt a n kk q.symm

end Go.Proofs.Ytcocobmanlmjdaa
