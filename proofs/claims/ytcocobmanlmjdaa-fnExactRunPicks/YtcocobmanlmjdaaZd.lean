/- TpC, TpD, DtA, LpA, in one text -/
import Derived.Test.YtcocobmanlmjdaaTpB
/- what a change elsewhere leaves of a Tso of one's own; a box of three -/
namespace Go.Proofs.Ytcocobmanlmjdaa
open Go.RowKit
set_option linter.unusedVariables false
set_option linter.unusedSimpArgs false

def B3 (w : World) (B : Nat) (a b c : Value) : Prop := w.cell? ⟨B, 0, none⟩ = some a ∧ w.cell? ⟨B, 1, none⟩ = some b ∧ w.cell? ⟨B, 2, none⟩ = some c
theorem B3.below {w w' : World} {B : Nat} {a b c : Value} (h : B3 w B a b c) (hb : Below w.heap.size w w') : B3 w' B a b c := ⟨keepc hb h.1, keepc hb h.2.1, keepc hb h.2.2⟩
theorem B3.chg {S : Nat → Prop} {w w' : World} {B : Nat} {a b c : Value} (h : B3 w B a b c) (hc : Chg S w w') (hS : ¬ S B) : B3 w' B a b c := ⟨hc.cell hS h.1, hc.cell hS h.2.1, hc.cell hS h.2.2⟩
/-- a tag that says nothing of what comes behind -/
theorem Ta.tagOff {w : World} {base : Nat} {mv bv rv : Value} {zs : List Int} {C : Nat} {L : Nat → Nat} {F : Nat → Nat → Nat → Int} {R : Nat} {Z : Nat → List Int} {vb vr : Nat → Value} {tag : Nat → Nat} (h : Ta w base mv bv rv zs C L F R Z vb vr tag) : ∃ tag', Ta w base mv bv rv zs C L F R Z vb vr tag' ∧ ∀ g, w.heap.size ≤ g → tag' g = 100000 :=
  ⟨fun g => if g < w.heap.size then tag g else 100000, Ta.retag h (fun g hg => if_pos hg), fun g hg => if_neg (by omega)⟩
theorem Ta.forms {w : World} {base : Nat} {mv bv rv : Value} {zs : List Int} {C : Nat} {L : Nat → Nat} {F : Nat → Nat → Nat → Int} {R : Nat} {Z : Nat → List Int} {vb vr : Nat → Value} {tag : Nat → Nat} (h : Ta w base mv bv rv zs C L F R Z vb vr tag) : ∃ xa ya xb yb xc yc, mv = .slice xa zs.length ya ∧ bv = .slice xb C yb ∧ rv = .slice xc R yc := by
  obtain ⟨xa, ya, e1, _⟩ := h.ms
  obtain ⟨xb, yb, e2, _⟩ := h.bs
  obtain ⟨xc, yc, e3, _⟩ := h.rs
  exact ⟨xa, ya, xb, yb, xc, yc, e1, e2, e3⟩
theorem new_both (n : Int) : ∃ (zs : List Int) (C : Nat) (ok : Bool), zs.length ≤ 3 ∧ C ≤ 3 ∧ (∀ w, Calls Try.prog 52 #[.int .i64 n] w (NPost w zs C ok)) ∧ (∀ w, Calls Try.prog 48 #[.int .i64 n] w (NPost w zs C ok)) := by
  by_cases h : 1 ≤ n ∧ n ≤ 3
  · obtain ⟨C, rfl⟩ : ∃ C : Nat, n = C := ⟨n.toNat, by omega⟩
    exact ⟨[0, 0, 0], C, true, by decide, by omega, fun w => implNewT_yes C (by omega) (by omega) w, fun w => specNewT_yes C (by omega) (by omega) w⟩
  · exact ⟨[], 0, false, by decide, by omega, fun w => implNewT_no n h w, fun w => specNewT_no n h w⟩
theorem zz_tl {zs : List Int} {C : Nat} (h1 : zs.length ≤ 3) (h2 : C ≤ 3) : Tl zs C z0L C z0Z := ⟨by omega, ⟨by omega, fun c _ => Nat.zero_le _⟩, ⟨by omega, fun c _ => by show 2 ≤ 1048576; decide⟩⟩

end Go.Proofs.Ytcocobmanlmjdaa

/- a new Tso drawn; what is known of it -/
namespace Go.Proofs.Ytcocobmanlmjdaa
open Go.RowKit
set_option linter.unusedVariables false
set_option linter.unusedSimpArgs false

theorem dal_zero {d : Td} (h : ∀ c, d.L c = 0) (k : Nat) : dal d k = d := by
  induction k with
  | zero => rfl
  | succ k ih => show dnN (dal d k) k ((dal d k).L k) = d; rw [ih, h k]; rfl
def nD : Td := ⟨[0, 0, 0], z0L, z0F, z0Z⟩
theorem nD_dal (k : Nat) : dal nD k = nD := dal_zero (fun c => rfl) k
theorem nD_tok (C : Nat) (h1 : 1 ≤ C) (h3 : C ≤ 3) : tokB [0, 0, 0] C z0L z0F C z0Z = true := by
  refine tok_of ⟨⟨h1, h3⟩, rfl, rfl, fun j hj => ?_, fun c hc => ⟨Nat.zero_le _, fun j hj => absurd hj (by show ¬ j < 0; omega), rfl, fun j hj => ?_⟩⟩
  · rcases (show j = 0 ∨ j = 1 ∨ j = 2 by omega) with rfl | rfl | rfl <;> exact ⟨by decide, by decide⟩
  · show 0 ≤ ([0, 0] : List Int).getD j 0 ∧ ([0, 0] : List Int).getD j 0 < 10
    rcases (show j = 0 ∨ j = 1 by omega) with rfl | rfl <;> exact ⟨by decide, by decide⟩
theorem lit3 (W : World) (T : TypeId) : Sl (W.alloc (.cells #[.int .i64 0, .int .i64 0, .int .i64 0] T)) (.slice (some ⟨W.heap.size, 0, none⟩) 3 3) [0, 0, 0] := by
  refine ⟨_, 3, rfl, fun _ => ⟨W.heap.size, 0, rfl, fun j hj => ?_⟩⟩
  have hj : j < 3 := hj
  rcases (show j = 0 ∨ j = 1 ∨ j = 2 by omega) with rfl | rfl | rfl <;> exact (cell_of_row _ _ _ _ _ _ (heap_alloc_new _ _)).trans rfl
/-- the three values of a Tso -/
theorem Ta.three {w : World} {base : Nat} {mv bv rv : Value} {zs : List Int} {C n : Nat} {L : Nat → Nat} {F : Nat → Nat → Nat → Int} {R : Nat} {Z : Nat → List Int} {vb vr : Nat → Value} {tag : Nat → Nat} (h : Ta w base mv bv rv zs C L F R Z vb vr tag) (hn : zs.length = n) : ∃ xa ya xb yb xc yc, mv = .slice xa n ya ∧ bv = .slice xb C yb ∧ rv = .slice xc R yc := by
  subst hn
  exact h.forms

end Go.Proofs.Ytcocobmanlmjdaa

/- an act keeps a right Tso right; spec.TsoDo once more, with the room of its buffers -/
namespace Go.Proofs.Ytcocobmanlmjdaa
open Go.RowKit
set_option linter.unusedVariables false
set_option linter.unusedSimpArgs false

theorem sn_dig {zs : List Int} {f : Nat → Nat → Int} {v n : Nat} (h : ∀ j, j < 3 → 0 ≤ zs.getD j 0 ∧ zs.getD j 0 < 10) (hf : ∀ j, j < n → 0 ≤ f j 1 ∧ f j 1 < 10) (hv : v < 3) : 0 ≤ sn zs f v n ∧ sn zs f v n < 10 := by
  induction n with
  | zero => exact h v hv
  | succ n ih =>
    rw [sn]
    split
    · exact hf n (by omega)
    · exact ih (fun j hj => hf j (by omega))
theorem nxt_tok {d : Td} {C : Nat} {k co va vl rg : Int} (h : tokD d C = true) : tokD (nxt d C k co va vl rg) C = true := by
  obtain ⟨h1, h2, h3, h4, h5⟩ := tok_parts h
  cases hf : fmB C k co va vl rg
  · rw [(ok_form (d := d) hf).2]; exact h
  have hc := fm_core hf
  obtain ⟨c, rfl⟩ : ∃ c : Nat, co = c := ⟨co.toNat, by omega⟩
  have hcC : c < C := by omega
  obtain ⟨a, b, e, g⟩ := h5 c hcC
  by_cases k1 : k = 1
  · subst k1
    have q := ok1 (d := d) hf
    simp only [Int.toNat_natCast] at q
    by_cases h4' : 4 ≤ d.L c
    · rw [(q.1 h4').2]; exact h
    rw [(q.2 h4').2]
    have hv : (0 ≤ va ∧ va < 3) ∧ 0 ≤ vl ∧ vl < 10 := by
      unfold fmB at hf
      rw [if_pos rfl] at hf
      simp only [Bool.and_eq_true, inB, decide_eq_true_eq] at hf
      omega
    refine tok_of ⟨h1, rfl, h3, h4, fun c' hc' => ?_⟩
    obtain ⟨a', b', e', g'⟩ := h5 c' hc'
    by_cases q' : c' = c
    · subst q'
      simp only [upd_at]
      refine ⟨by omega, fun j hj => ?_, e', g'⟩
      by_cases ej : j = d.L c'
      · subst ej
        simp only [snocF, upd_at]
        exact hv
      · simp only [snocF, upd_ne ej]
        exact b' j (by omega)
    · simp only [upd_ne q']
      exact ⟨a', b', e', g'⟩
  by_cases k2 : k = 2
  · subst k2
    obtain ⟨⟨_, q⟩, hva, hrg⟩ := ok2 (d := d) hf
    rw [q]
    simp only [Int.toNat_natCast]
    refine tok_of ⟨h1, rfl, h3, h4, fun c' hc' => ?_⟩
    obtain ⟨a', b', e', g'⟩ := h5 c' hc'
    by_cases q' : c' = c
    · subst q'
      simp only [upd_at]
      exact ⟨a', b', by rw [List.length_set]; exact e', set_dig g' e' (sn_dig h4 (fun j hj => (b' j hj).2) (by omega))⟩
    · simp only [upd_ne q']
      exact ⟨a', b', e', g'⟩
  by_cases k3 : k = 3
  · subst k3
    rw [(ok3 (d := d) hf).2]; exact h
  have k4 : k = 4 := by
    unfold fmB at hf
    rw [if_neg k1, if_neg k2] at hf
    simp only [Bool.and_eq_true, Bool.or_eq_true, decide_eq_true_eq] at hf
    omega
  subst k4
  have q := ok4 (d := d) hf
  simp only [Int.toNat_natCast] at q
  by_cases hp : d.L c = 0
  · rw [(q.1 hp).2]; exact h
  · rw [(q.2 (by omega)).2]
    exact dn_tok h hcC (by omega)


end Go.Proofs.Ytcocobmanlmjdaa

/- runs of litmus tests, plainly: where a run stands, a pick, a thread brought to its end -/
namespace Go.Proofs.Ytcocobmanlmjdaa
open Go.RowKit
set_option linter.unusedVariables false
set_option linter.unusedSimpArgs false

/-- where a run stands: the Tso, of each thread how many acts are done -/
structure Rs where
  d : Td
  a : Nat → Nat
/-- the next act of a thread; none: it is passed over -/
def stp (C : Nat) (L : Nat → Nat) (F : Nat → Nat → Nat → Int) (s : Rs) (p : Nat) : Option Rs :=
  if s.a p = L p then none
  else if okc s.d C (F p (s.a p) 0) (F p (s.a p) 1) (F p (s.a p) 2) (F p (s.a p) 3) (F p (s.a p) 4) = 0 then some ⟨nxt s.d C (F p (s.a p) 0) (F p (s.a p) 1) (F p (s.a p) 2) (F p (s.a p) 3) (F p (s.a p) 4), upd s.a p (s.a p + 1)⟩
  else none
/-- a drain of a core; none: nothing waits -/
def drn (C : Nat) (s : Rs) (c : Nat) : Option Rs := if okc s.d C 4 c 0 0 0 = 0 then some ⟨nxt s.d C 4 c 0 0 0, s.a⟩ else none
/-- a pick -/
def pck (C : Nat) (L : Nat → Nat) (F : Nat → Nat → Nat → Int) (s : Rs) (p : Nat) : Option Rs := if p < C then stp C L F s p else drn C s (p - C)
/-- all picks of a row, what is passed over left out -/
def pks (C : Nat) (L : Nat → Nat) (F : Nat → Nat → Nat → Int) (z : Nat → Nat) (s : Rs) : Nat → Rs
  | 0 => s
  | n + 1 => (pck C L F (pks C L F z s n) (z n)).getD (pks C L F z s n)
/-- one turn of a thread's end: its next act, or a drain -/
def trn (C : Nat) (L : Nat → Nat) (F : Nat → Nat → Nat → Int) (s : Rs) (i : Nat) : Rs := (stp C L F s i).getD ((drn C s i).getD s)
/-- a thread's end, by so many turns at most -/
def fin1 (C : Nat) (L : Nat → Nat) (F : Nat → Nat → Nat → Int) (i : Nat) : Nat → Rs → Rs
  | 0, s => s
  | n + 1, s => if s.a i = L i then s else fin1 C L F i n (trn C L F s i)

/-- the acts of a right test: of their thread, of the right form, no drains -/
def Rgt (C : Nat) (L : Nat → Nat) (F : Nat → Nat → Nat → Int) : Prop := ∀ c, c < C → ∀ j, j < L c → F c j 0 ≠ 4 ∧ F c j 1 = (c : Int) ∧ fmB C (F c j 0) (F c j 1) (F c j 2) (F c j 3) (F c j 4) = true
/-- a right run -/
structure Rok (C : Nat) (L : Nat → Nat) (s : Rs) : Prop where
  tok : tokD s.d C = true
  le : ∀ c, c < C → s.a c ≤ L c

theorem stp_ok {C : Nat} {L : Nat → Nat} {F : Nat → Nat → Nat → Int} {s t : Rs} {p : Nat} (h : Rok C L s) (hp : p < C) (e : stp C L F s p = some t) : Rok C L t := by
  unfold stp at e
  have hl := h.le p hp
  split at e
  · cases e
  · split at e
    · simp only [Option.some.injEq] at e
      subst e
      refine ⟨nxt_tok h.tok, fun c hc => ?_⟩
      show upd s.a p (s.a p + 1) c ≤ L c
      by_cases q : c = p
      · subst q; rw [upd_at]; omega
      · rw [upd_ne q]; exact h.le c hc
    · cases e
theorem drn_ok {C : Nat} {L : Nat → Nat} {s t : Rs} {c : Nat} (h : Rok C L s) (e : drn C s c = some t) : Rok C L t := by
  unfold drn at e
  split at e
  · simp only [Option.some.injEq] at e
    subst e
    exact ⟨nxt_tok h.tok, h.le⟩
  · cases e
theorem pck_ok {C : Nat} {L : Nat → Nat} {F : Nat → Nat → Nat → Int} {s t : Rs} {p : Nat} (h : Rok C L s) (e : pck C L F s p = some t) : Rok C L t := by
  unfold pck at e
  by_cases q : p < C
  · rw [if_pos q] at e; exact stp_ok h q e
  · rw [if_neg q] at e; exact drn_ok h e
theorem pks_ok {C : Nat} {L : Nat → Nat} {F : Nat → Nat → Nat → Int} {z : Nat → Nat} {s : Rs} (h : Rok C L s) : ∀ n, Rok C L (pks C L F z s n)
  | 0 => h
  | n + 1 => by
    have ih := pks_ok (F := F) (z := z) h n
    rw [pks]
    cases e : pck C L F (pks C L F z s n) (z n) with
    | none => exact ih
    | some t => exact pck_ok ih e

/-- a right act that is refused: stores of its thread wait -/
theorem wait_of {d : Td} {C : Nat} {k co va vl rg : Int} (hf : fmB C k co va vl rg = true) (h4 : k ≠ 4) (h : okc d C k co va vl rg ≠ 0) : 0 < d.L co.toNat := by
  by_cases k1 : k = 1
  · subst k1
    by_cases q : 4 ≤ d.L co.toNat
    · omega
    · exact absurd ((ok1 (d := d) hf).2 q).1 h
  by_cases k2 : k = 2
  · subst k2
    exact absurd (ok2 (d := d) hf).1.1 h
  by_cases k3 : k = 3
  · subst k3
    have e := (ok3 (d := d) hf).1
    by_cases q : 0 < d.L co.toNat
    · exact q
    · rw [if_neg q] at e; exact absurd e h
  exact absurd (fm_four hf k1 k2 k3) h4
/-- what a turn brings down -/
def msr (L : Nat → Nat) (s : Rs) (i : Nat) : Nat := 10 * (L i - s.a i) + s.d.L i
theorem nxt_len {d : Td} {C : Nat} {k co va vl rg : Int} (c : Nat) : (nxt d C k co va vl rg).L c ≤ d.L c + 1 := (nxt_small d C k co va vl rg).2.1 c
theorem trn_less {C : Nat} {L : Nat → Nat} {F : Nat → Nat → Nat → Int} {s : Rs} {i : Nat} (hr : Rgt C L F) (h : Rok C L s) (hi : i < C) (hne : s.a i ≠ L i) : msr L (trn C L F s i) i < msr L s i ∧ Rok C L (trn C L F s i) := by
  have hl := h.le i hi
  have hlt : s.a i < L i := by omega
  obtain ⟨r1, r2, r3⟩ := hr i hi (s.a i) hlt
  unfold trn
  cases e : stp C L F s i with
  | some t =>
    refine ⟨?_, stp_ok h hi e⟩
    unfold stp at e
    rw [if_neg hne] at e
    split at e
    · simp only [Option.some.injEq] at e
      subst e
      show 10 * (L i - upd s.a i (s.a i + 1) i) + (nxt s.d C _ _ _ _ _).L i < 10 * (L i - s.a i) + s.d.L i
      rw [upd_at]
      have := nxt_len (d := s.d) (C := C) (k := F i (s.a i) 0) (co := F i (s.a i) 1) (va := F i (s.a i) 2) (vl := F i (s.a i) 3) (rg := F i (s.a i) 4) i
      omega
    · cases e
  | none =>
    have hw : 0 < s.d.L i := by
      unfold stp at e
      rw [if_neg hne] at e
      split at e
      · cases e
      · rename_i q
        have := wait_of r3 r1 q
        rw [r2] at this
        simpa using this
    obtain ⟨q1, q2⟩ := nxt_dn h.tok hi hw
    have e2 : drn C s i = some ⟨dn s.d i, s.a⟩ := by unfold drn; rw [if_pos q1, q2]
    show msr L ((drn C s i).getD s) i < _ ∧ Rok C L ((drn C s i).getD s)
    rw [e2]
    refine ⟨?_, drn_ok h e2⟩
    show 10 * (L i - s.a i) + upd s.d.L i (s.d.L i - 1) i < 10 * (L i - s.a i) + s.d.L i
    rw [upd_at]
    omega
/-- enough turns: the thread has ended -/
theorem fin1_end {C : Nat} {L : Nat → Nat} {F : Nat → Nat → Nat → Int} {i : Nat} (hr : Rgt C L F) (hi : i < C) : ∀ n s, Rok C L s → msr L s i ≤ n → (fin1 C L F i n s).a i = L i ∧ Rok C L (fin1 C L F i n s)
  | 0, s, h, hm => by
    have := h.le i hi
    unfold msr at hm
    exact ⟨by show s.a i = L i; omega, h⟩
  | n + 1, s, h, hm => by
    rw [fin1]
    by_cases e : s.a i = L i
    · rw [if_pos e]; exact ⟨e, h⟩
    · rw [if_neg e]
      obtain ⟨q1, q2⟩ := trn_less hr h hi e
      exact fin1_end hr hi n _ q2 (by omega)
/-- a turn more does nothing to what has ended; and one turn may be taken first -/
theorem fin1_turn {C : Nat} {L : Nat → Nat} {F : Nat → Nat → Nat → Int} {i : Nat} (hr : Rgt C L F) (hi : i < C) : ∀ n m s, Rok C L s → msr L s i ≤ n → msr L s i ≤ m → fin1 C L F i n s = fin1 C L F i m s
  | 0, 0, s, _, _, _ => rfl
  | 0, m + 1, s, h, hn, _ => by
    have e : s.a i = L i := by have := h.le i hi; unfold msr at hn; omega
    rw [fin1, fin1, if_pos e]
  | n + 1, 0, s, h, _, hm => by
    have e : s.a i = L i := by have := h.le i hi; unfold msr at hm; omega
    rw [fin1, fin1, if_pos e]
  | n + 1, m + 1, s, h, hn, hm => by
    rw [fin1, fin1]
    by_cases e : s.a i = L i
    · rw [if_pos e, if_pos e]
    · rw [if_neg e, if_neg e]
      obtain ⟨q1, q2⟩ := trn_less hr h hi e
      exact fin1_turn hr hi n m _ q2 (by omega) (by omega)

end Go.Proofs.Ytcocobmanlmjdaa
