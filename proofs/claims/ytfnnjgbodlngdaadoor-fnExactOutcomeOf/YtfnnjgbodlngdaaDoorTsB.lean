/- slices of slices of whole numbers: read ('Si'), copied, compared -/
import Derived.Test.YtfnnjgbodlngdaaDoorTsA
import Derived.Deep.RegionHeld3
namespace Go.Proofs.YtfnnjgbodlngdaaDoor
open Go.RowKit
set_option linter.unusedVariables false
set_option linter.unusedSimpArgs false

theorem Sl.set {w : World} {ib n cap g i : Nat} {x : Value} {zs : List Int} (h : Sl w (.slice (some ⟨ib, 0, none⟩) n cap) zs) (hne : g ≠ ib) : Sl (w.setCell ⟨g, i, none⟩ x) (.slice (some ⟨ib, 0, none⟩) n cap) zs := by
  obtain ⟨ad, cp, e, h⟩ := h
  refine ⟨ad, cp, e, fun hp => ?_⟩
  obtain ⟨b, off, e2, hc⟩ := h hp
  subst e2
  simp only [Value.slice.injEq, Option.some.injEq, Addr.mk.injEq] at e
  obtain ⟨⟨rfl, rfl, _⟩, _⟩ := e
  exact ⟨ib, 0, rfl, fun j hj => by rw [other_set hne]; exact hc j hj⟩

/-- rows of whole numbers: C of them, the c-th Z c -/
def Si (w : World) (v : Value) (C : Nat) (Z : Nat → List Int) : Prop :=
  ∃ ad cap, v = .slice ad C cap ∧ (0 < C → ∃ b off, ad = some ⟨b, off, none⟩ ∧ ∀ c, c < C → ∃ ia ic, w.cell? ⟨b, off + c, none⟩ = some (.slice ia ((Z c).length) ic) ∧ Sl w (.slice ia ((Z c).length) ic) (Z c))

theorem Si.below {w w' : World} {v : Value} {C : Nat} {Z : Nat → List Int} (h : Si w v C Z) (hb : Below w.heap.size w w') : Si w' v C Z := by
  obtain ⟨ad, cap, rfl, h⟩ := h
  refine ⟨ad, cap, rfl, fun hp => ?_⟩
  obtain ⟨b, off, rfl, hc⟩ := h hp
  refine ⟨b, off, rfl, fun c hcc => ?_⟩
  obtain ⟨ia, ic, h1, h2⟩ := hc c hcc
  exact ⟨ia, ic, Below.keep hb _ _ h1, h2.below hb⟩

/-- rows that are being laid: the outer block g, filled up to k -/
def Oii (w : World) (g C k : Nat) (Z : Nat → List Int) : Prop :=
  ∃ cur : Array Value, w.heap[g]? = some (.cells cur 33 (0, 0)) ∧ cur.size = C ∧ ∀ c, c < k → ∃ ib, cur[c]? = some (.slice (some ⟨ib, 0, none⟩) ((Z c).length) ((Z c).length)) ∧ g < ib ∧ Sl w (.slice (some ⟨ib, 0, none⟩) ((Z c).length) ((Z c).length)) (Z c)

theorem Oii.below {w w' : World} {g C k : Nat} {Z : Nat → List Int} (h : Oii w g C k Z) (hb : Below w.heap.size w w') : Oii w' g C k Z := by
  obtain ⟨cur, h1, h2, h3⟩ := h
  refine ⟨cur, (hb.block g (lt_of_block h1)).trans h1, h2, fun c hc => ?_⟩
  obtain ⟨ib, a, b, d⟩ := h3 c hc
  exact ⟨ib, a, b, d.below hb⟩

theorem Oii.put {w : World} {g C k ib : Nat} {Z : Nat → List Int} (h : Oii w g C k Z) (hk : k < C) (hne : g < ib) (hi : Sl w (.slice (some ⟨ib, 0, none⟩) ((Z k).length) ((Z k).length)) (Z k)) :
    Oii (w.setCell ⟨g, k, none⟩ (.slice (some ⟨ib, 0, none⟩) ((Z k).length) ((Z k).length))) g C (k + 1) Z := by
  obtain ⟨cur, h1, h2, h3⟩ := h
  refine ⟨cur.setIfInBounds k (.slice (some ⟨ib, 0, none⟩) ((Z k).length) ((Z k).length)), heap_setCell_same w g k _ _ _ h1, by simpa using h2, fun c hc => ?_⟩
  by_cases e : c = k
  · subst e
    refine ⟨ib, ?_, hne, hi.set (Nat.ne_of_lt hne)⟩
    rw [Array.getElem?_setIfInBounds_self_of_lt (by omega)]
  · obtain ⟨jb, a, b, d⟩ := h3 c (by omega)
    refine ⟨jb, ?_, b, d.set (Nat.ne_of_lt b)⟩
    rw [Array.getElem?_setIfInBounds_ne (by omega)]
    exact a

theorem Oii.facts {w : World} {g C k j : Nat} {Z : Nat → List Int} (h : Oii w g C k Z) (hj : j < C) : w.frozen? ⟨g, j, none⟩ = false ∧ ∃ o, w.cell? ⟨g, j, none⟩ = some o := by
  obtain ⟨cur, h1, h2, _⟩ := h
  refine ⟨frozen_of_row _ _ j _ _ h1, cur[j], ?_⟩
  rw [cell_of_row _ _ _ _ _ _ h1]
  exact Array.getElem?_eq_getElem (by omega)

theorem Oii.ss {w : World} {g C : Nat} {Z : Nat → List Int} (h : Oii w g C C Z) : Si w (.slice (some ⟨g, 0, none⟩) C C) C Z := by
  obtain ⟨cur, h1, h2, h3⟩ := h
  refine ⟨some ⟨g, 0, none⟩, C, rfl, fun _ => ⟨g, 0, rfl, fun c hc => ?_⟩⟩
  obtain ⟨ib, a, _, d⟩ := h3 c hc
  refine ⟨_, _, ?_, d⟩
  rw [cell_of_row _ _ _ _ _ _ h1, Nat.zero_add]
  exact a

theorem infoInts : (Tryd.prog.info? 33).map (fun i => (i.zero, i.size, i.bytes)) = some (some (.slice none 0 0), 1, 24) := by kernel_rfl

theorem oii_start {w1 : World} {base g n : Nat} {xs : List Value} {Z : Nat → List Int} (h : w1.ownsRow base 33 1 (.slice (some ⟨g, 0, none⟩) n n) n xs) : Oii w1 g n 0 Z := by
  rcases h.2 with ⟨h', _⟩ | ⟨g', cap', cur, h', _, hg, _, _, hcs, _⟩
  · simp at h'
  · simp only [Value.slice.injEq, Option.some.injEq, Addr.mk.injEq, and_true, true_and] at h'
    obtain ⟨rfl, rfl⟩ := h'
    exact ⟨cur, hg, by omega, fun c hc => by omega⟩

set_option maxHeartbeats 2000000 in
theorem toInt64SS_any (v : Value) (n : Nat) (Z : Nat → List Int) (w : World) (hs : Si w v n Z) (hb : n ≤ 1048576) (hL : ∀ c, c < n → (Z c).length ≤ 1048576) :
    Calls Tryd.prog 35 #[v] w fun e w' => ∃ g, e = .returned (.slice (some ⟨g, 0, none⟩) n n) ∧ w.heap.size ≤ g ∧ Oii w' g n n Z ∧ Below w.heap.size w w' := by
  obtain ⟨ad, cap, rfl, hs⟩ := hs
  obtain ⟨i0, hi, hz0, hz1, hz2⟩ := info_parts infoInts
  go_enter Tryd.func35, Tryd.ntmps35
  go_wp2_with (at_make; refine wpList_make_full _ rfl _ _ 35 rfl w.heap.size 33 i0 (.slice none 0 0) 1 Tryd.underlying35 hi hz0 hz1 .i64 .i64 n n n rfl rfl rfl rfl (by rw [hz2]; omega) (by unfold maxLen; omega) (Nat.le_refl _) ?_; intro w1 ho1 hg1)
  have ho : Oii w1 w.heap.size n 0 Z := oii_start ho1
  have hb1 : Below w.heap.size w w1 := (Below.refl _ _).grown hg1 (Nat.le_refl _) (fun k hk => by cases hk)
  clear ho1 hg1
  go_loopw [4] (fun i wr => ∃ k : Nat, k ≤ n ∧ i = .int .i64 k ∧ Oii wr w.heap.size n k Z ∧ Below w.heap.size w wr) (fun i _ => n - (intOf i).toNat)
  case atStart => exact ⟨0, Nat.zero_le _, rfl, ho, hb1⟩
  case round =>
    obtain ⟨k, hk, rfl, hok, hbk⟩ := hrel
    clear ho hb1
    by_cases hlt : k < n
    · obtain ⟨b, off, rfl, hc⟩ := hs (by omega)
      obtain ⟨ia, ic, q0', hr⟩ := hc k hlt
      have q0 : wr.cell? ⟨b, off + k, none⟩ = some (.slice ia ((Z k).length) ic) := Below.keep hbk _ _ q0'
      have hr' := hr.below hbk
      clear hs hc q0' hr
      go_wp2_with fail
      refine (copy_any _ (Z k) _ hr' (hL k hlt)).mono ?_
      rintro e w2 ⟨u2, rfl, hro, hb2, ib, rfl⟩
      have hok2 := hok.below hb2
      have hbk2 := hbk.trans (hb2.mono hbk.size)
      have hib := (World.ownsRow.lt hro ib rfl).1
      have hgl : w.heap.size < wr.heap.size := by
        obtain ⟨cur, h1, _⟩ := hok
        exact lt_of_block h1
      obtain ⟨fr, o, ho⟩ := hok2.facts hlt
      have hB2 : Below w.heap.size w (w2.setCell ⟨w.heap.size, k, none⟩ (.slice (some ⟨ib, 0, none⟩) ((Z k).length) ((Z k).length))) := hbk2.setCell (Nat.le_refl _) _
      have HB := hide (And.intro (hok2.put hlt (by omega) hro.sl) hB2)
      clear hok hok2 hbk hbk2 hb2 hB2 q0 hr' hro
      go_wp2
      go_roundw
      case rel => exact ⟨k + 1, by omega, by go_num, HB.out.1, HB.out.2⟩
      case measure => simp [intOf]; omega
    · go_wp2
      go_ret
      have e : k = n := by omega
      subst e
      exact ⟨_, rfl, Nat.le_refl _, hok, hbk⟩

set_option maxHeartbeats 2000000 in
theorem eqInt64SS_same (a b : Value) (n : Nat) (Z : Nat → List Int) (w : World) (ha : Si w a n Z) (hb : Si w b n Z) (hl : n ≤ 1048576) (hL : ∀ c, c < n → (Z c).length ≤ 1048576) :
    Calls Tryd.prog 40 #[a, b] w fun e w' => e = .returned (.bool true) ∧ Below w.heap.size w w' := by
  obtain ⟨ad, cap, rfl, ha⟩ := ha
  obtain ⟨bd, cbp, rfl, hb⟩ := hb
  go_enter Tryd.func40, Tryd.ntmps40
  go_wp2
  go_loopw [5] (fun i wr => ∃ k : Nat, k ≤ n ∧ i = .int .i64 k ∧ Below w.heap.size w wr) (fun i _ => n - (intOf i).toNat)
  case atStart => exact ⟨0, Nat.zero_le _, rfl, Below.refl _ _⟩
  case round =>
    obtain ⟨k, hk, rfl, hbk⟩ := hrel
    by_cases hlt : k < n
    · obtain ⟨p, off, rfl, hc⟩ := ha (by omega)
      obtain ⟨q, off', rfl, hd⟩ := hb (by omega)
      obtain ⟨ia, ic, c0', ra⟩ := hc k hlt
      obtain ⟨ja, jc, d0', rb⟩ := hd k hlt
      have c0 : wr.cell? ⟨p, off + k, none⟩ = some (.slice ia ((Z k).length) ic) := Below.keep hbk _ _ c0'
      have d0 : wr.cell? ⟨q, off' + k, none⟩ = some (.slice ja ((Z k).length) jc) := Below.keep hbk _ _ d0'
      have hk0 : (0 : Int) ≤ (k : Int) := by omega
      have hk1 : (k : Int) < (n : Int) := by omega
      have hLk := hL k hlt
      have RA := hide ra
      have RB := hide rb
      clear hc hd ha hb c0' d0' ra rb hL
      go_wp2
      go_region_held3 (fun w' => Below w.heap.size w w' ∧ w'.cell? ⟨p, off + k, none⟩ = some (.slice ia ((Z k).length) ic) ∧ w'.cell? ⟨q, off' + k, none⟩ = some (.slice ja ((Z k).length) jc)) (first | exact ⟨hbk.drew, c0, d0⟩ | exact keepS2 (by assumption) hbc) (first | (go_at_call 38; refine (eq_same _ _ (Z k) _ ?_ ?_ hLk).mono ?_; exact RA.out.below hbk.drew; exact RB.out.below hbk.drew; rintro e w2 ⟨rfl, hbc⟩))
      all_goals go_wp2
      all_goals rename_i hS
      all_goals go_roundw
      case rel => exact ⟨k + 1, by omega, by go_num, hS.1⟩
      case measure => simp [intOf]; omega
    · go_wp2
      go_ret
      exact ⟨rfl, hbk⟩

end Go.Proofs.YtfnnjgbodlngdaaDoor
