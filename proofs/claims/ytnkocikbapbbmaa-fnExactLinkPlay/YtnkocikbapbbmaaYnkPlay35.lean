/- LdZ -/
import Derived.Test.YtnkocikbapbbmaaYnkPlay29
import Derived.Test.YtnkocikbapbbmaaYnkPlay30
import Derived.Test.YtnkocikbapbbmaaYnkPlay31
import Derived.Test.YtnkocikbapbbmaaYnkPlay34
/- what spec.l8Act and impl.acted share (written by mkLdZ.py) -/
namespace Go.Proofs.Ytnkocikbapbbmaa
open Go.RowKit
set_option linter.unusedVariables false
set_option linter.unusedSimpArgs false

abbrev OkS (wv0 gv0 dv0 uv0 : Value) (base : Nat) (w : World) (q : Lk) : Ending → World → Prop := fun e w' => ∃ wv gv dv uv, e = .returned (.tuple #[.agg (l6 q.base wv q.want gv dv uv), .int .i64 0]) ∧ Mv (Lrb wv0 gv0 dv0 uv0) w w' ∧ Lr w' base wv gv dv uv q ∧ Nw w.heap.size wv0 gv0 dv0 uv0 wv gv dv uv
abbrev NoS (wv0 gv0 dv0 uv0 : Value) (base : Nat) (w : World) (p : Lk) (c : Int) : Ending → World → Prop := fun e w' => e = .returned (.tuple #[.agg (l6 p.base wv0 p.want gv0 dv0 uv0), .int .i64 c]) ∧ Mv (Lrb wv0 gv0 dv0 uv0) w w'
theorem l1In_as (b : Bool) (n lo hi : Int) (w : World) (h : decide (lo ≤ n ∧ n ≤ hi) = b) : Calls Try.prog 31 #[.int .i64 n, .int .i64 lo, .int .i64 hi] w fun e w' => e = .returned (.bool b) ∧ Below w.heap.size w w' :=
  (l1InD n lo hi w).mono (fun e w' hh => ⟨h ▸ hh.1, hh.2 ▸ Below.refl _ _⟩)
theorem Rg.txt {w : World} {base g off n c x : Nat} {s : Nat → ByteArray} (h : Rg w base (.slice (some ⟨g, off, none⟩) n c) 1 n (tF s)) (hx : x < n) : w.cell? ⟨g, off + x, none⟩ = some (.string (s x)) := by
  obtain ⟨g', off', e, _, _, _, _, h5⟩ := h.rows (by omega)
  cases e
  have := h5 x (by omega)
  rwa [Nat.div_one] at this
theorem Rg.wir {w : World} {base g off n c z : Nat} {t : Nat → ByteArray} {h : Nat → Bool} (hr : Rg w base (.slice (some ⟨g, off, none⟩) n c) 2 n (wF t h)) (hz : z < n) : w.cell? ⟨g, off + z * 2, none⟩ = some (.string (t z)) ∧ w.cell? ⟨g, off + z * 2 + 1, none⟩ = some (.bool (h z)) := by
  obtain ⟨g', off', e, _, _, _, _, h5⟩ := hr.rows (by omega)
  cases e
  have h0 := h5 (z * 2) (by omega)
  have h1 := h5 (z * 2 + 1) (by omega)
  rw [show z * 2 / 2 = z by omega, show z * 2 % 2 = 0 by omega] at h0
  rw [show (z * 2 + 1) / 2 = z by omega, show (z * 2 + 1) % 2 = 1 by omega] at h1
  exact ⟨h0, h1⟩
theorem Rg.rbpos {w : World} {base n g off c : Nat} {m : Nat} {f : Nat → Nat → Value} (h : Rg w base (.slice (some ⟨g, off, none⟩) n c) m n f) (hn : 0 < n) : rb (.slice (some ⟨g, off, none⟩) n c) = some g := by
  obtain ⟨_, _, _, h1, _⟩ := h.rows hn
  exact rb_some (by omega)
theorem Lr.set_dn {w : World} {base g off k : Nat} {wv gv uv : Value} {p : Lk} {z : Nat} (s : ByteArray) (b : Bool) (h : Lr w base wv gv (.slice (some ⟨g, off, none⟩) p.nd k) uv p) (hz : z < p.nd) :
    Lr ((w.setCell ⟨g, off + z * 2, none⟩ (.string s)).setCell ⟨g, off + z * 2 + 1, none⟩ (.bool b)) base wv gv (.slice (some ⟨g, off, none⟩) p.nd k) uv { p with dt := upd p.dt z s, dh := upd p.dh z b } := by
  have hp := h.dn.rbpos (by omega)
  have hm : Mv (fun x => x = g) w ((w.setCell ⟨g, off + z * 2, none⟩ (.string s)).setCell ⟨g, off + z * 2 + 1, none⟩ (.bool b)) := ((Mv.refl _ _).set _ _).set _ _
  exact ⟨h.wa.mv hm (fun x e he => by have he : x = g := he; subst he; exact (h.aw x e).2.1 hp), h.go.mv hm (fun x e he => by have he : x = g := he; subst he; exact (h.ag x e).1 hp), h.dn.setW s b hz, h.up.mv hm (fun x e he => by have he : x = g := he; subst he; exact h.ad x hp e), h.aw, h.ag, h.ad⟩
theorem Lr.set_up {w : World} {base g off k : Nat} {wv gv dv : Value} {p : Lk} {z : Nat} (s : ByteArray) (b : Bool) (h : Lr w base wv gv dv (.slice (some ⟨g, off, none⟩) p.nu k) p) (hz : z < p.nu) :
    Lr ((w.setCell ⟨g, off + z * 2, none⟩ (.string s)).setCell ⟨g, off + z * 2 + 1, none⟩ (.bool b)) base wv gv dv (.slice (some ⟨g, off, none⟩) p.nu k) { p with ut := upd p.ut z s, uh := upd p.uh z b } := by
  have hp := h.up.rbpos (by omega)
  have hm : Mv (fun x => x = g) w ((w.setCell ⟨g, off + z * 2, none⟩ (.string s)).setCell ⟨g, off + z * 2 + 1, none⟩ (.bool b)) := ((Mv.refl _ _).set _ _).set _ _
  exact ⟨h.wa.mv hm (fun x e he => by have he : x = g := he; subst he; exact (h.aw x e).2.2 hp), h.go.mv hm (fun x e he => by have he : x = g := he; subst he; exact (h.ag x e).2 hp), h.dn.mv hm (fun x e he => by have he : x = g := he; subst he; exact h.ad x e hp), h.up.setW s b hz, h.aw, h.ag, h.ad⟩
/-- the first texts sent -/
def sndK (p : Lk) (m : Nat) : Lk := { p with nd := p.nd + m, dt := fun j => if j < p.nd then p.dt j else fdT p (j - p.nd), dh := fun j => if j < p.nd then p.dh j else false }
theorem snd_first {w : World} {base : Nat} {v : Value} {p : Lk} {b : ByteArray} (h : Rg w base v 2 (p.nd + 1) (wF (snc p.dt p.nd b) (snc p.dh p.nd false))) (hb : b = fdT p 0) : Rg w base v 2 (p.nd + 1) (wF (sndK p 1).dt (sndK p 1).dh) := by
  subst hb
  refine h.congr (by decide) (fun j hj i hi => ?_)
  unfold wF sndK snc
  by_cases e : j < p.nd
  · simp only [if_pos e]
  · simp only [if_neg e, show j - p.nd = 0 by omega]
theorem snd_next {w : World} {base : Nat} {v : Value} {p : Lk} {b : ByteArray} (m : Nat) (h : Rg w base v 2 (p.nd + m + 1) (wF (snc (sndK p m).dt (p.nd + m) b) (snc (sndK p m).dh (p.nd + m) false))) (hb : b = fdT p m) : Rg w base v 2 (p.nd + m + 1) (wF (sndK p (m + 1)).dt (sndK p (m + 1)).dh) := by
  subst hb
  refine h.congr (by decide) (fun j hj i hi => ?_)
  unfold wF sndK snc
  by_cases e : j < p.nd + m
  · simp only [if_pos e]
  · have e2 : ¬ j < p.nd := by omega
    simp only [if_neg e, if_neg e2, show j - p.nd = m by omega]
theorem snd_none {w : World} {base : Nat} {wv gv dv uv : Value} {p : Lk} (h : Lr w base wv gv dv uv p) : Lr w base wv gv dv uv (sndK p 0) :=
  ⟨h.wa, h.go, h.dn.congr (by decide) (fun j hj i hi => by have hj : j < p.nd := hj; unfold wF sndK; simp only [if_pos hj]), h.up, h.aw, h.ag, h.ad⟩
def saC (p : Lk) (k z bit : Int) (body : ByteArray) : Int := if laB k z bit body then actC p k z bit else 2
/-- four slices -/
def Sl4 (a b c d : Value) : Prop := (∃ x n k, a = .slice x n k) ∧ (∃ x n k, b = .slice x n k) ∧ (∃ x n k, c = .slice x n k) ∧ ∃ x n k, d = .slice x n k
theorem Lr.sl4 {w : World} {base : Nat} {wv gv dv uv : Value} {p : Lk} (h : Lr w base wv gv dv uv p) : Sl4 wv gv dv uv := by
  obtain ⟨a1, c1, e1, _⟩ := h.wa.form
  obtain ⟨a2, c2, e2, _⟩ := h.go.form
  obtain ⟨a3, c3, e3, _⟩ := h.dn.form
  obtain ⟨a4, c4, e4, _⟩ := h.up.form
  exact ⟨⟨_, _, _, e1⟩, ⟨_, _, _, e2⟩, ⟨_, _, _, e3⟩, ⟨_, _, _, e4⟩⟩
abbrev SaP (wv0 gv0 dv0 uv0 : Value) (base : Nat) (w : World) (p : Lk) (c : Int) (q : Lk) : Ending → World → Prop := fun e w' => ∃ wv gv dv uv r, e = .returned (.tuple #[.agg (l6 (Lk.base r) wv (Lk.want r) gv dv uv), .int .i64 c]) ∧ (Sl4 wv gv dv uv) ∧ Mv (Lrb wv0 gv0 dv0 uv0) w w' ∧ (c = 0 → r = q ∧ Lr w' base wv gv dv uv q ∧ Nw w.heap.size wv0 gv0 dv0 uv0 wv gv dv uv)
theorem sap_no {wv0 gv0 dv0 uv0 : Value} {base : Nat} {w w' : World} {p q : Lk} {c c' : Int} {e : Ending} (h : NoS wv0 gv0 dv0 uv0 base w p c e w') (h4 : Sl4 wv0 gv0 dv0 uv0) (hc : c' = c) (h0 : c ≠ 0) : SaP wv0 gv0 dv0 uv0 base w p c' q e w' := by
  subst hc
  exact ⟨_, _, _, _, p, h.1, h4, h.2, fun e => absurd e h0⟩
theorem sap_ok {wv0 gv0 dv0 uv0 : Value} {base : Nat} {w w' : World} {p q q' : Lk} {c' : Int} {e : Ending} (h : OkS wv0 gv0 dv0 uv0 base w q e w') (hc : c' = 0) (hq : q' = q) : SaP wv0 gv0 dv0 uv0 base w p c' q' e w' := by
  subst hc; subst hq
  obtain ⟨wv, gv, dv, uv, h1, h2, h3, h4⟩ := h
  exact ⟨wv, gv, dv, uv, q', h1, h3.sl4, h2, fun _ => ⟨rfl, h3, h4⟩⟩
theorem str_yes {b : ByteArray} (h : b.size = 0) : b.toList.isEmpty = true ∧ (b.toList == []) = true ∧ decide (b.toList = []) = true := by
  have e := emp_of h
  subst e
  rw [e0_list]; exact ⟨rfl, rfl, rfl⟩
theorem str_no {b : ByteArray} (h : ¬ b.size = 0) : b.toList.isEmpty = false ∧ (b.toList == []) = false ∧ decide (b.toList = []) = false := by
  have hl : b.toList ≠ [] := fun e => h (by
    have := congrArg List.length e
    rw [ByteArray.toList_eq] at this
    simpa using this)
  refine ⟨?_, ?_, decide_eq_false hl⟩
  · cases hx : b.toList with
    | nil => exact absurd hx hl
    | cons a l => rfl
  · cases hx : b.toList with
    | nil => exact absurd hx hl
    | cons a l => rfl
theorem sndK_eq (p : Lk) (m : Nat) (h : min 3 p.nw = m) : sndL p = sndK p m := by subst h; rfl
theorem thB_in {n : Nat} {z : Int} {b : Bool} (h : thB n z = b) : decide (0 ≤ z ∧ z ≤ (n : Int) - 1) = b := by
  rw [← h]
  unfold thB
  by_cases h1 : 0 ≤ z <;> by_cases h2 : z < (n : Int)
  · rw [decide_eq_true (by omega), decide_eq_true h1, decide_eq_true h2]; rfl
  · rw [decide_eq_false (by omega), decide_eq_false h2, Bool.and_false]
  · rw [decide_eq_false (by omega), decide_eq_false h1, Bool.false_and]
  · rw [decide_eq_false (by omega), decide_eq_false h1, Bool.false_and]


end Go.Proofs.Ytnkocikbapbbmaa
