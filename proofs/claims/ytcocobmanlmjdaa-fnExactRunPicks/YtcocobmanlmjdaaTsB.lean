/- slices of slices of whole numbers: read ('Si'), copied, compared -/
import Derived.Test.YtcocobmanlmjdaaTsA
import Derived.Deep.RegionHeld3
namespace Go.Proofs.Ytcocobmanlmjdaa
open Go.RowKit
set_option linter.unusedVariables false
set_option linter.unusedSimpArgs false

theorem Sl.set {w : World} {ib n cap g i : Nat} {x : Value} {zs : List Int} (h : Sl w (.slice (some ⟨ib, 0, none⟩) n cap) zs) (hne : g ≠ ib) : Sl (w.setCell ⟨g, i, none⟩ x) (.slice (some ⟨ib, 0, none⟩) n cap) zs := by
  obtain ⟨ad, cp, e, h⟩ := h
  refine ⟨ad, cp, e, fun hp => ?_⟩
  obtain ⟨b, off, e2, hc⟩ := h hp
  subst e2
  simp only [Value.slice.injEq, Option.some.injEq, Addr.mk.injEq] at e
  obtain ⟨⟨rfl, rfl, _⟩, _⟩ := e
  exact ⟨ib, 0, rfl, fun j hj => by rw [other_set hne]; exact hc j hj⟩

/-- rows of whole numbers: C of them, the c-th Z c -/
def Si (w : World) (v : Value) (C : Nat) (Z : Nat → List Int) : Prop :=
  ∃ ad cap, v = .slice ad C cap ∧ (0 < C → ∃ b off, ad = some ⟨b, off, none⟩ ∧ ∀ c, c < C → ∃ ia ic, w.cell? ⟨b, off + c, none⟩ = some (.slice ia ((Z c).length) ic) ∧ Sl w (.slice ia ((Z c).length) ic) (Z c))

theorem Si.below {w w' : World} {v : Value} {C : Nat} {Z : Nat → List Int} (h : Si w v C Z) (hb : Below w.heap.size w w') : Si w' v C Z := by
  obtain ⟨ad, cap, rfl, h⟩ := h
  refine ⟨ad, cap, rfl, fun hp => ?_⟩
  obtain ⟨b, off, rfl, hc⟩ := h hp
  refine ⟨b, off, rfl, fun c hcc => ?_⟩
  obtain ⟨ia, ic, h1, h2⟩ := hc c hcc
  exact ⟨ia, ic, Below.keep hb _ _ h1, h2.below hb⟩

/-- rows that are being laid: the outer block g, filled up to k -/
def Oii (w : World) (g C k : Nat) (Z : Nat → List Int) : Prop :=
  ∃ cur : Array Value, w.heap[g]? = some (.cells cur 33 (0, 0)) ∧ cur.size = C ∧ ∀ c, c < k → ∃ ib, cur[c]? = some (.slice (some ⟨ib, 0, none⟩) ((Z c).length) ((Z c).length)) ∧ g < ib ∧ Sl w (.slice (some ⟨ib, 0, none⟩) ((Z c).length) ((Z c).length)) (Z c)

theorem Oii.below {w w' : World} {g C k : Nat} {Z : Nat → List Int} (h : Oii w g C k Z) (hb : Below w.heap.size w w') : Oii w' g C k Z := by
  obtain ⟨cur, h1, h2, h3⟩ := h
  refine ⟨cur, (hb.block g (lt_of_block h1)).trans h1, h2, fun c hc => ?_⟩
  obtain ⟨ib, a, b, d⟩ := h3 c hc
  exact ⟨ib, a, b, d.below hb⟩

theorem Oii.put {w : World} {g C k ib : Nat} {Z : Nat → List Int} (h : Oii w g C k Z) (hk : k < C) (hne : g < ib) (hi : Sl w (.slice (some ⟨ib, 0, none⟩) ((Z k).length) ((Z k).length)) (Z k)) :
    Oii (w.setCell ⟨g, k, none⟩ (.slice (some ⟨ib, 0, none⟩) ((Z k).length) ((Z k).length))) g C (k + 1) Z := by
  obtain ⟨cur, h1, h2, h3⟩ := h
  refine ⟨cur.setIfInBounds k (.slice (some ⟨ib, 0, none⟩) ((Z k).length) ((Z k).length)), heap_setCell_same w g k _ _ _ h1, by simpa using h2, fun c hc => ?_⟩
  by_cases e : c = k
  · subst e
    refine ⟨ib, ?_, hne, hi.set (Nat.ne_of_lt hne)⟩
    rw [Array.getElem?_setIfInBounds_self_of_lt (by omega)]
  · obtain ⟨jb, a, b, d⟩ := h3 c (by omega)
    refine ⟨jb, ?_, b, d.set (Nat.ne_of_lt b)⟩
    rw [Array.getElem?_setIfInBounds_ne (by omega)]
    exact a

theorem Oii.facts {w : World} {g C k j : Nat} {Z : Nat → List Int} (h : Oii w g C k Z) (hj : j < C) : w.frozen? ⟨g, j, none⟩ = false ∧ ∃ o, w.cell? ⟨g, j, none⟩ = some o := by
  obtain ⟨cur, h1, h2, _⟩ := h
  refine ⟨frozen_of_row _ _ j _ _ h1, cur[j], ?_⟩
  rw [cell_of_row _ _ _ _ _ _ h1]
  exact Array.getElem?_eq_getElem (by omega)

theorem Oii.ss {w : World} {g C : Nat} {Z : Nat → List Int} (h : Oii w g C C Z) : Si w (.slice (some ⟨g, 0, none⟩) C C) C Z := by
  obtain ⟨cur, h1, h2, h3⟩ := h
  refine ⟨some ⟨g, 0, none⟩, C, rfl, fun _ => ⟨g, 0, rfl, fun c hc => ?_⟩⟩
  obtain ⟨ib, a, _, d⟩ := h3 c hc
  refine ⟨_, _, ?_, d⟩
  rw [cell_of_row _ _ _ _ _ _ h1, Nat.zero_add]
  exact a

theorem infoInts : (Try.prog.info? 33).map (fun i => (i.zero, i.size, i.bytes)) = some (some (.slice none 0 0), 1, 24) := by kernel_rfl

theorem oii_start {w1 : World} {base g n : Nat} {xs : List Value} {Z : Nat → List Int} (h : w1.ownsRow base 33 1 (.slice (some ⟨g, 0, none⟩) n n) n xs) : Oii w1 g n 0 Z := by
  rcases h.2 with ⟨h', _⟩ | ⟨g', cap', cur, h', _, hg, _, _, hcs, _⟩
  · simp at h'
  · simp only [Value.slice.injEq, Option.some.injEq, Addr.mk.injEq, and_true, true_and] at h'
    obtain ⟨rfl, rfl⟩ := h'
    exact ⟨cur, hg, by omega, fun c hc => by omega⟩

set_option maxHeartbeats 2000000 in
theorem eqInt64SS_same (a b : Value) (n : Nat) (Z : Nat → List Int) (w : World) (ha : Si w a n Z) (hb : Si w b n Z) (hl : n ≤ 1048576) (hL : ∀ c, c < n → (Z c).length ≤ 1048576) :
    Calls Try.prog 36 #[a, b] w fun e w' => e = .returned (.bool true) ∧ Below w.heap.size w w' := by
  obtain ⟨ad, cap, rfl, ha⟩ := ha
  obtain ⟨bd, cbp, rfl, hb⟩ := hb
  go_enter Try.func36, Try.ntmps36
  go_wp2
  go_loopw [5] (fun i wr => ∃ k : Nat, k ≤ n ∧ i = .int .i64 k ∧ Below w.heap.size w wr) (fun i _ => n - (intOf i).toNat)
  case atStart => exact ⟨0, Nat.zero_le _, rfl, Below.refl _ _⟩
  case round =>
    obtain ⟨k, hk, rfl, hbk⟩ := hrel
    by_cases hlt : k < n
    · obtain ⟨p, off, rfl, hc⟩ := ha (by omega)
      obtain ⟨q, off', rfl, hd⟩ := hb (by omega)
      obtain ⟨ia, ic, c0', ra⟩ := hc k hlt
      obtain ⟨ja, jc, d0', rb⟩ := hd k hlt
      have c0 : wr.cell? ⟨p, off + k, none⟩ = some (.slice ia ((Z k).length) ic) := Below.keep hbk _ _ c0'
      have d0 : wr.cell? ⟨q, off' + k, none⟩ = some (.slice ja ((Z k).length) jc) := Below.keep hbk _ _ d0'
      have hk0 : (0 : Int) ≤ (k : Int) := by omega
      have hk1 : (k : Int) < (n : Int) := by omega
      have hLk := hL k hlt
      have RA := hide ra
      have RB := hide rb
      clear hc hd ha hb c0' d0' ra rb hL
      go_wp2
      go_region_held3 (fun w' => Below w.heap.size w w' ∧ w'.cell? ⟨p, off + k, none⟩ = some (.slice ia ((Z k).length) ic) ∧ w'.cell? ⟨q, off' + k, none⟩ = some (.slice ja ((Z k).length) jc)) (first | exact ⟨hbk.drew, c0, d0⟩ | exact keepS2 (by assumption) hbc) (first | (go_at_call 14; refine (eq_same _ _ (Z k) _ ?_ ?_ hLk).mono ?_; exact RA.out.below hbk.drew; exact RB.out.below hbk.drew; rintro e w2 ⟨rfl, hbc⟩))
      all_goals go_wp2
      all_goals rename_i hS
      all_goals go_roundw
      case rel => exact ⟨k + 1, by omega, by go_num, hS.1⟩
      case measure => simp [intOf]; omega
    · go_wp2
      go_ret
      exact ⟨rfl, hbk⟩

end Go.Proofs.Ytcocobmanlmjdaa
