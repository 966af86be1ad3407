/- slices of BAct: copied, compared (written by mkRow.py) -/
import Derived.Test.YtfnnjgbodlngdaaDoorLiF
import Derived.Deep.RegionHeld3
namespace Go.Proofs.YtfnnjgbodlngdaaDoor
open Go.RowKit
set_option linter.unusedVariables false
set_option linter.unusedSimpArgs false

theorem toBActL_any (k co va vl rg : Int) (w : World) :
    Calls Tryd.prog 73 #[.agg (five k co va vl rg)] w fun e w' => e = .returned (.agg (five k co va vl rg)) ∧ Below w.heap.size w w' := by
  go_enter Tryd.func73, Tryd.ntmps73
  go_wp2
  refine bodyPost_ret (v := .agg (five k co va vl rg)) (by simp [results, Tryd.results73, go_sem]) rfl ⟨rfl, ?_⟩
  repeat' (first | exact Below.refl _ _ | refine Below.setCell ?_ (by simp <;> omega) _ | refine Below.alloc ?_ (by simp <;> omega) _)

theorem Orow.set5 {w : World} {base g n cap k : Nat} {T : TypeId} {f : Nat → Nat → Int} (hk : k < n) (h : Orow w base T 5 (.slice (some ⟨g, 0, none⟩) n cap) n k f) :
    Orow (((((w.setCell ⟨g, k * 5, none⟩ (.int .i64 (f k 0))).setCell ⟨g, k * 5 + 1, none⟩ (.int .i64 (f k 1))).setCell ⟨g, k * 5 + 2, none⟩ (.int .i64 (f k 2))).setCell ⟨g, k * 5 + 3, none⟩ (.int .i64 (f k 3))).setCell ⟨g, k * 5 + 4, none⟩ (.int .i64 (f k 4))) base T 5 (.slice (some ⟨g, 0, none⟩) n cap) n (k + 1) f := by
  have h2 := (((((World.ownsRow.stored h (k * 5) (.int .i64 (f k 0))).1.stored (k * 5 + 1) (.int .i64 (f k 1))).1.stored (k * 5 + 2) (.int .i64 (f k 2))).1.stored (k * 5 + 3) (.int .i64 (f k 3))).1.stored (k * 5 + 4) (.int .i64 (f k 4))).1
  unfold Orow
  rw [← rowC_sets (l := ((((((rowC 5 n k f).set (k * 5) (.int .i64 (f k 0))).set (k * 5 + 1) (.int .i64 (f k 1))).set (k * 5 + 2) (.int .i64 (f k 2))).set (k * 5 + 3) (.int .i64 (f k 3))).set (k * 5 + 4) (.int .i64 (f k 4)))) hk (by simp [rowC_length]) ?_ ?_]
  · exact h2
  · intro x hx hne
    rw [List.getElem?_set_ne (by omega), List.getElem?_set_ne (by omega), List.getElem?_set_ne (by omega), List.getElem?_set_ne (by omega), List.getElem?_set_ne (by omega)]
  · intro i hi
    match i, hi with
    | 0, _ => rw [List.getElem?_set_ne (by omega), List.getElem?_set_ne (by omega), List.getElem?_set_ne (by omega), List.getElem?_set_ne (by omega), Nat.add_zero, List.getElem?_set_self (by simp only [List.length_set, rowC_length]; omega)]
    | 1, _ => rw [List.getElem?_set_ne (by omega), List.getElem?_set_ne (by omega), List.getElem?_set_ne (by omega), List.getElem?_set_self (by simp only [List.length_set, rowC_length]; omega)]
    | 2, _ => rw [List.getElem?_set_ne (by omega), List.getElem?_set_ne (by omega), List.getElem?_set_self (by simp only [List.length_set, rowC_length]; omega)]
    | 3, _ => rw [List.getElem?_set_ne (by omega), List.getElem?_set_self (by simp only [List.length_set, rowC_length]; omega)]
    | 4, _ => rw [List.getElem?_set_self (by simp only [List.length_set, rowC_length]; omega)]

theorem eqBAct_same (k c v x r : Int) (w : World) : Calls Tryd.prog 78 #[.agg (five k c v x r), .agg (five k c v x r)] w fun e w' => e = .returned (.bool true) ∧ Below w.heap.size w w' := by
  go_enter Tryd.func78, Tryd.ntmps78
  go_wp2
  go_ret
  exact ⟨rfl, ((Below.refl _ _).alloc (Nat.le_refl _) _).alloc (by simp) _⟩

theorem infoBAct : (Tryd.prog.info? 55).map (fun i => (i.zero, i.size, i.bytes)) = some (some (.agg #[.int .i64 0, .int .i64 0, .int .i64 0, .int .i64 0, .int .i64 0]), 5, 40) := by kernel_rfl

/-- the cells of a struct of a row that is the call's own -/
theorem Orow.at5 {w : World} {base g n cap k j : Nat} {T : TypeId} {f : Nat → Nat → Int} (hj : j < n) (h : Orow w base T 5 (.slice (some ⟨g, 0, none⟩) n cap) n k f) :
    (∀ i, w.frozen? ⟨g, i, none⟩ = false) ∧ (∃ o, w.cell? ⟨g, j * 5, none⟩ = some o) ∧ (∃ o, w.cell? ⟨g, j * 5 + 1, none⟩ = some o) ∧ (∃ o, w.cell? ⟨g, j * 5 + 2, none⟩ = some o) ∧ (∃ o, w.cell? ⟨g, j * 5 + 3, none⟩ = some o) ∧ (∃ o, w.cell? ⟨g, j * 5 + 4, none⟩ = some o) := by
  refine ⟨fun i => World.ownsRow.frozenAt h i, ?_, ?_, ?_, ?_, ?_⟩
  · have := World.ownsRow.cellAt h (j * 5) (by omega)
    rw [rowC_get (by omega)] at this
    exact ⟨_, this⟩
  · have := World.ownsRow.cellAt h (j * 5 + 1) (by omega)
    rw [rowC_get (by omega)] at this
    exact ⟨_, this⟩
  · have := World.ownsRow.cellAt h (j * 5 + 2) (by omega)
    rw [rowC_get (by omega)] at this
    exact ⟨_, this⟩
  · have := World.ownsRow.cellAt h (j * 5 + 3) (by omega)
    rw [rowC_get (by omega)] at this
    exact ⟨_, this⟩
  · have := World.ownsRow.cellAt h (j * 5 + 4) (by omega)
    rw [rowC_get (by omega)] at this
    exact ⟨_, this⟩

set_option maxHeartbeats 2000000 in
theorem toBActS_any (v : Value) (n : Nat) (f : Nat → Nat → Int) (w : World) (hs : Sr w v 5 n f) (hb : n ≤ 1048576) :
    Calls Tryd.prog 51 #[v] w fun e w' => ∃ g, e = .returned (.slice (some ⟨g, 0, none⟩) n n) ∧ Orow w' w.heap.size 55 5 (.slice (some ⟨g, 0, none⟩) n n) n n f ∧ Below w.heap.size w w' := by
  obtain ⟨ad, cap, rfl, hs⟩ := hs
  obtain ⟨i0, hi, hz0, hz1, hz2⟩ := info_parts infoBAct
  go_enter Tryd.func51, Tryd.ntmps51
  go_wp2_with (at_make; refine wpList_make_full _ rfl _ _ 52 rfl w.heap.size 55 i0 (.agg #[.int .i64 0, .int .i64 0, .int .i64 0, .int .i64 0, .int .i64 0]) 5 Tryd.underlying52 hi hz0 hz1 .i64 .i64 n n n rfl rfl rfl rfl (by rw [hz2]; omega) (by unfold maxLen; omega) (Nat.le_refl _) ?_; intro w1 ho1 hg1)
  have ho : Orow w1 w.heap.size 55 5 (.slice (some ⟨w.heap.size, 0, none⟩) n n) n 0 f := by
    unfold Orow
    rw [← made_row (.agg #[.int .i64 0, .int .i64 0, .int .i64 0, .int .i64 0, .int .i64 0] : Value).cells 5 n (by decide) rfl (fun i hi => by match i, hi with | 0, _ => rfl | 1, _ => rfl | 2, _ => rfl | 3, _ => rfl | 4, _ => rfl) f]
    exact ho1
  have hb1 : Below w.heap.size w w1 := (Below.refl _ _).grown hg1 (Nat.le_refl _) (fun k hk => by cases hk)
  clear ho1 hg1
  go_loopw [4] (fun i wr => ∃ k : Nat, k ≤ n ∧ i = .int .i64 k ∧ Orow wr w.heap.size 55 5 (.slice (some ⟨w.heap.size, 0, none⟩) n n) n k f ∧ Below w.heap.size w wr) (fun i _ => n - (intOf i).toNat)
  case atStart => exact ⟨0, Nat.zero_le _, rfl, ho, hb1⟩
  case round =>
    obtain ⟨k, hk, rfl, hok, hbk⟩ := hrel
    clear ho hb1
    by_cases hlt : k < n
    · obtain ⟨b, off, rfl, hc⟩ := hs (by omega)
      have q0 : wr.cell? ⟨b, off + k * 5, none⟩ = some (.int .i64 (f k 0)) := Below.keep hbk _ _ (hc k hlt 0 (by decide))
      have q1 : wr.cell? ⟨b, off + k * 5 + 1, none⟩ = some (.int .i64 (f k 1)) := Below.keep hbk _ _ (hc k hlt 1 (by decide))
      have q2 : wr.cell? ⟨b, off + k * 5 + 2, none⟩ = some (.int .i64 (f k 2)) := Below.keep hbk _ _ (hc k hlt 2 (by decide))
      have q3 : wr.cell? ⟨b, off + k * 5 + 3, none⟩ = some (.int .i64 (f k 3)) := Below.keep hbk _ _ (hc k hlt 3 (by decide))
      have q4 : wr.cell? ⟨b, off + k * 5 + 4, none⟩ = some (.int .i64 (f k 4)) := Below.keep hbk _ _ (hc k hlt 4 (by decide))
      clear hs hc
      go_wp2_with fail
      refine (toBActL_any _ _ _ _ _ _).mono ?_
      rintro e w2 ⟨rfl, hb2⟩
      have hok2 := hok.below hb2
      have hbk2 := hbk.trans (hb2.mono hbk.size)
      obtain ⟨fr, ⟨o0, r0⟩, ⟨o1, r1⟩, ⟨o2, r2⟩, ⟨o3, r3⟩, ⟨o4, r4⟩⟩ := hok2.at5 hlt
      have hB2 : Below w.heap.size w (((((w2.setCell ⟨w.heap.size, k * 5, none⟩ (.int .i64 (f k 0))).setCell ⟨w.heap.size, k * 5 + 1, none⟩ (.int .i64 (f k 1))).setCell ⟨w.heap.size, k * 5 + 2, none⟩ (.int .i64 (f k 2))).setCell ⟨w.heap.size, k * 5 + 3, none⟩ (.int .i64 (f k 3))).setCell ⟨w.heap.size, k * 5 + 4, none⟩ (.int .i64 (f k 4))) := (((((hbk2.setCell (Nat.le_refl _) _).setCell (Nat.le_refl _) _).setCell (Nat.le_refl _) _).setCell (Nat.le_refl _) _).setCell (Nat.le_refl _) _)
      have HB := hide (And.intro (hok2.set5 hlt) hB2)
      clear hok hok2 hbk hbk2 hb2 hB2 q0 q1 q2 q3 q4
      go_wp2
      go_roundw
      case rel => exact ⟨k + 1, by omega, by go_num, HB.out.1, HB.out.2⟩
      case measure => simp [intOf]; omega
    · go_wp2
      go_ret
      have e : k = n := by omega
      subst e
      exact ⟨_, rfl, hok, hbk⟩

theorem keepR5 {w W W' : World} {p0 p1 p2 p3 p4 p5 p6 p7 p8 p9 : Addr} {x0 x1 x2 x3 x4 x5 x6 x7 x8 x9 : Value} (h : Below w.heap.size w W ∧ W.cell? p0 = some x0 ∧ W.cell? p1 = some x1 ∧ W.cell? p2 = some x2 ∧ W.cell? p3 = some x3 ∧ W.cell? p4 = some x4 ∧ W.cell? p5 = some x5 ∧ W.cell? p6 = some x6 ∧ W.cell? p7 = some x7 ∧ W.cell? p8 = some x8 ∧ W.cell? p9 = some x9) (hb : Below W.heap.size W W') : Below w.heap.size w W' ∧ W'.cell? p0 = some x0 ∧ W'.cell? p1 = some x1 ∧ W'.cell? p2 = some x2 ∧ W'.cell? p3 = some x3 ∧ W'.cell? p4 = some x4 ∧ W'.cell? p5 = some x5 ∧ W'.cell? p6 = some x6 ∧ W'.cell? p7 = some x7 ∧ W'.cell? p8 = some x8 ∧ W'.cell? p9 = some x9 := ⟨h.1.trans (hb.mono h.1.size), keepc hb h.2.1, keepc hb h.2.2.1, keepc hb h.2.2.2.1, keepc hb h.2.2.2.2.1, keepc hb h.2.2.2.2.2.1, keepc hb h.2.2.2.2.2.2.1, keepc hb h.2.2.2.2.2.2.2.1, keepc hb h.2.2.2.2.2.2.2.2.1, keepc hb h.2.2.2.2.2.2.2.2.2.1, keepc hb h.2.2.2.2.2.2.2.2.2.2⟩

set_option maxHeartbeats 4000000 in
theorem eqBActS_same (a b : Value) (n : Nat) (f : Nat → Nat → Int) (w : World) (ha : Sr w a 5 n f) (hb : Sr w b 5 n f) (hl : n ≤ 1048576) :
    Calls Tryd.prog 58 #[a, b] w fun e w' => e = .returned (.bool true) ∧ Below w.heap.size w w' := by
  obtain ⟨ad, cap, rfl, ha⟩ := ha
  obtain ⟨bd, cbp, rfl, hb⟩ := hb
  go_enter Tryd.func58, Tryd.ntmps58
  go_wp2
  go_loopw [5] (fun i wr => ∃ k : Nat, k ≤ n ∧ i = .int .i64 k ∧ Below w.heap.size w wr) (fun i _ => n - (intOf i).toNat)
  case atStart => exact ⟨0, Nat.zero_le _, rfl, Below.refl _ _⟩
  case round =>
    obtain ⟨k, hk, rfl, hbk⟩ := hrel
    by_cases hlt : k < n
    · obtain ⟨p, off, rfl, hc⟩ := ha (by omega)
      obtain ⟨q, off', rfl, hd⟩ := hb (by omega)
      have c0 : wr.cell? ⟨p, off + k * 5, none⟩ = some (.int .i64 (f k 0)) := Below.keep hbk _ _ (hc k hlt 0 (by decide))
      have c1 : wr.cell? ⟨p, off + k * 5 + 1, none⟩ = some (.int .i64 (f k 1)) := Below.keep hbk _ _ (hc k hlt 1 (by decide))
      have c2 : wr.cell? ⟨p, off + k * 5 + 2, none⟩ = some (.int .i64 (f k 2)) := Below.keep hbk _ _ (hc k hlt 2 (by decide))
      have c3 : wr.cell? ⟨p, off + k * 5 + 3, none⟩ = some (.int .i64 (f k 3)) := Below.keep hbk _ _ (hc k hlt 3 (by decide))
      have c4 : wr.cell? ⟨p, off + k * 5 + 4, none⟩ = some (.int .i64 (f k 4)) := Below.keep hbk _ _ (hc k hlt 4 (by decide))
      have d0 : wr.cell? ⟨q, off' + k * 5, none⟩ = some (.int .i64 (f k 0)) := Below.keep hbk _ _ (hd k hlt 0 (by decide))
      have d1 : wr.cell? ⟨q, off' + k * 5 + 1, none⟩ = some (.int .i64 (f k 1)) := Below.keep hbk _ _ (hd k hlt 1 (by decide))
      have d2 : wr.cell? ⟨q, off' + k * 5 + 2, none⟩ = some (.int .i64 (f k 2)) := Below.keep hbk _ _ (hd k hlt 2 (by decide))
      have d3 : wr.cell? ⟨q, off' + k * 5 + 3, none⟩ = some (.int .i64 (f k 3)) := Below.keep hbk _ _ (hd k hlt 3 (by decide))
      have d4 : wr.cell? ⟨q, off' + k * 5 + 4, none⟩ = some (.int .i64 (f k 4)) := Below.keep hbk _ _ (hd k hlt 4 (by decide))
      clear hc hd ha hb
      have hk0 : (0 : Int) ≤ (k : Int) := by omega
      have hk1 : (k : Int) < (n : Int) := by omega
      go_wp2
      go_region_held3 (fun w' => Below w.heap.size w w' ∧ w'.cell? ⟨p, off + k * 5, none⟩ = some (.int .i64 (f k 0)) ∧ w'.cell? ⟨p, off + k * 5 + 1, none⟩ = some (.int .i64 (f k 1)) ∧ w'.cell? ⟨p, off + k * 5 + 2, none⟩ = some (.int .i64 (f k 2)) ∧ w'.cell? ⟨p, off + k * 5 + 3, none⟩ = some (.int .i64 (f k 3)) ∧ w'.cell? ⟨p, off + k * 5 + 4, none⟩ = some (.int .i64 (f k 4)) ∧ w'.cell? ⟨q, off' + k * 5, none⟩ = some (.int .i64 (f k 0)) ∧ w'.cell? ⟨q, off' + k * 5 + 1, none⟩ = some (.int .i64 (f k 1)) ∧ w'.cell? ⟨q, off' + k * 5 + 2, none⟩ = some (.int .i64 (f k 2)) ∧ w'.cell? ⟨q, off' + k * 5 + 3, none⟩ = some (.int .i64 (f k 3)) ∧ w'.cell? ⟨q, off' + k * 5 + 4, none⟩ = some (.int .i64 (f k 4))) (first | exact ⟨hbk.drew, c0, c1, c2, c3, c4, d0, d1, d2, d3, d4⟩ | exact keepR5 (by assumption) hbc) (first | (go_at_call 78; refine (eqBAct_same _ _ _ _ _ _).mono ?_; rintro e w2 ⟨rfl, hbc⟩))
      all_goals go_wp2
      all_goals rename_i hS
      all_goals go_roundw
      case rel => exact ⟨k + 1, by omega, by go_num, hS.1⟩
      case measure => simp [intOf]; omega
    · go_wp2
      go_ret
      exact ⟨rfl, hbk⟩

end Go.Proofs.YtfnnjgbodlngdaaDoor
