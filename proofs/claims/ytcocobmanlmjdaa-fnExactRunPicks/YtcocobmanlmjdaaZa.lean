/- LiF, LiR, LiA, LiL, LiB, LiC, LiD, LiE, LpB, LqdA, LqdB, LqdC, LqdD, LqdE, in one text -/
import Derived.Test.YtcocobmanlmjdaaTkF
import Derived.Deep.RegionHeld3
import Derived.Test.YtcocobmanlmjdaaTkL
import Derived.Test.YtcocobmanlmjdaaTpB
import Derived.WalkKit
import Derived.ProofKit
import Derived.OpenShut
import Derived.ShutString
import Derived.ChangeOld
import Derived.Below
import Derived.OpenVars
import Derived.Deep.SlicePairs
import Derived.BigQuiet
import Derived.Test.YtcocobmanlmjdaaZd
import Derived.Test.YtcocobmanlmjdaaTkK
/- in LiF's place, where TkF is laid -/

/- slices of BAct: copied, compared (written by mkRow.py) -/
namespace Go.Proofs.Ytcocobmanlmjdaa
open Go.RowKit
set_option linter.unusedVariables false
set_option linter.unusedSimpArgs false

theorem toBActL_any (k co va vl rg : Int) (w : World) :
    Calls Try.prog 63 #[.agg (five k co va vl rg)] w fun e w' => e = .returned (.agg (five k co va vl rg)) ∧ Below w.heap.size w w' := by
  go_enter Try.func63, Try.ntmps63
  go_wp2
  refine bodyPost_ret (v := .agg (five k co va vl rg)) (by simp [results, Try.results63, go_sem]) rfl ⟨rfl, ?_⟩
  repeat' (first | exact Below.refl _ _ | refine Below.setCell ?_ (by simp <;> omega) _ | refine Below.alloc ?_ (by simp <;> omega) _)

theorem Orow.set5 {w : World} {base g n cap k : Nat} {T : TypeId} {f : Nat → Nat → Int} (hk : k < n) (h : Orow w base T 5 (.slice (some ⟨g, 0, none⟩) n cap) n k f) :
    Orow (((((w.setCell ⟨g, k * 5, none⟩ (.int .i64 (f k 0))).setCell ⟨g, k * 5 + 1, none⟩ (.int .i64 (f k 1))).setCell ⟨g, k * 5 + 2, none⟩ (.int .i64 (f k 2))).setCell ⟨g, k * 5 + 3, none⟩ (.int .i64 (f k 3))).setCell ⟨g, k * 5 + 4, none⟩ (.int .i64 (f k 4))) base T 5 (.slice (some ⟨g, 0, none⟩) n cap) n (k + 1) f := by
  have h2 := (((((World.ownsRow.stored h (k * 5) (.int .i64 (f k 0))).1.stored (k * 5 + 1) (.int .i64 (f k 1))).1.stored (k * 5 + 2) (.int .i64 (f k 2))).1.stored (k * 5 + 3) (.int .i64 (f k 3))).1.stored (k * 5 + 4) (.int .i64 (f k 4))).1
  unfold Orow
  rw [← rowC_sets (l := ((((((rowC 5 n k f).set (k * 5) (.int .i64 (f k 0))).set (k * 5 + 1) (.int .i64 (f k 1))).set (k * 5 + 2) (.int .i64 (f k 2))).set (k * 5 + 3) (.int .i64 (f k 3))).set (k * 5 + 4) (.int .i64 (f k 4)))) hk (by simp [rowC_length]) ?_ ?_]
  · exact h2
  · intro x hx hne
    rw [List.getElem?_set_ne (by omega), List.getElem?_set_ne (by omega), List.getElem?_set_ne (by omega), List.getElem?_set_ne (by omega), List.getElem?_set_ne (by omega)]
  · intro i hi
    match i, hi with
    | 0, _ => rw [List.getElem?_set_ne (by omega), List.getElem?_set_ne (by omega), List.getElem?_set_ne (by omega), List.getElem?_set_ne (by omega), Nat.add_zero, List.getElem?_set_self (by simp only [List.length_set, rowC_length]; omega)]
    | 1, _ => rw [List.getElem?_set_ne (by omega), List.getElem?_set_ne (by omega), List.getElem?_set_ne (by omega), List.getElem?_set_self (by simp only [List.length_set, rowC_length]; omega)]
    | 2, _ => rw [List.getElem?_set_ne (by omega), List.getElem?_set_ne (by omega), List.getElem?_set_self (by simp only [List.length_set, rowC_length]; omega)]
    | 3, _ => rw [List.getElem?_set_ne (by omega), List.getElem?_set_self (by simp only [List.length_set, rowC_length]; omega)]
    | 4, _ => rw [List.getElem?_set_self (by simp only [List.length_set, rowC_length]; omega)]

theorem eqBAct_same (k c v x r : Int) (w : World) : Calls Try.prog 68 #[.agg (five k c v x r), .agg (five k c v x r)] w fun e w' => e = .returned (.bool true) ∧ Below w.heap.size w w' := by
  go_enter Try.func68, Try.ntmps68
  go_wp2
  go_ret
  exact ⟨rfl, ((Below.refl _ _).alloc (Nat.le_refl _) _).alloc (by simp) _⟩

theorem infoBAct : (Try.prog.info? 51).map (fun i => (i.zero, i.size, i.bytes)) = some (some (.agg #[.int .i64 0, .int .i64 0, .int .i64 0, .int .i64 0, .int .i64 0]), 5, 40) := by kernel_rfl

/-- the cells of a struct of a row that is the call's own -/
theorem Orow.at5 {w : World} {base g n cap k j : Nat} {T : TypeId} {f : Nat → Nat → Int} (hj : j < n) (h : Orow w base T 5 (.slice (some ⟨g, 0, none⟩) n cap) n k f) :
    (∀ i, w.frozen? ⟨g, i, none⟩ = false) ∧ (∃ o, w.cell? ⟨g, j * 5, none⟩ = some o) ∧ (∃ o, w.cell? ⟨g, j * 5 + 1, none⟩ = some o) ∧ (∃ o, w.cell? ⟨g, j * 5 + 2, none⟩ = some o) ∧ (∃ o, w.cell? ⟨g, j * 5 + 3, none⟩ = some o) ∧ (∃ o, w.cell? ⟨g, j * 5 + 4, none⟩ = some o) := by
  refine ⟨fun i => World.ownsRow.frozenAt h i, ?_, ?_, ?_, ?_, ?_⟩
  · have := World.ownsRow.cellAt h (j * 5) (by omega)
    rw [rowC_get (by omega)] at this
    exact ⟨_, this⟩
  · have := World.ownsRow.cellAt h (j * 5 + 1) (by omega)
    rw [rowC_get (by omega)] at this
    exact ⟨_, this⟩
  · have := World.ownsRow.cellAt h (j * 5 + 2) (by omega)
    rw [rowC_get (by omega)] at this
    exact ⟨_, this⟩
  · have := World.ownsRow.cellAt h (j * 5 + 3) (by omega)
    rw [rowC_get (by omega)] at this
    exact ⟨_, this⟩
  · have := World.ownsRow.cellAt h (j * 5 + 4) (by omega)
    rw [rowC_get (by omega)] at this
    exact ⟨_, this⟩

set_option maxHeartbeats 2000000 in
theorem toBActS_any (v : Value) (n : Nat) (f : Nat → Nat → Int) (w : World) (hs : Sr w v 5 n f) (hb : n ≤ 1048576) :
    Calls Try.prog 44 #[v] w fun e w' => ∃ g, e = .returned (.slice (some ⟨g, 0, none⟩) n n) ∧ Orow w' w.heap.size 51 5 (.slice (some ⟨g, 0, none⟩) n n) n n f ∧ Below w.heap.size w w' := by
  obtain ⟨ad, cap, rfl, hs⟩ := hs
  obtain ⟨i0, hi, hz0, hz1, hz2⟩ := info_parts infoBAct
  go_enter Try.func44, Try.ntmps44
  go_wp2_with (at_make; refine wpList_make_full _ rfl _ _ 49 rfl w.heap.size 51 i0 (.agg #[.int .i64 0, .int .i64 0, .int .i64 0, .int .i64 0, .int .i64 0]) 5 Try.underlying49 hi hz0 hz1 .i64 .i64 n n n rfl rfl rfl rfl (by rw [hz2]; omega) (by unfold maxLen; omega) (Nat.le_refl _) ?_; intro w1 ho1 hg1)
  have ho : Orow w1 w.heap.size 51 5 (.slice (some ⟨w.heap.size, 0, none⟩) n n) n 0 f := by
    unfold Orow
    rw [← made_row (.agg #[.int .i64 0, .int .i64 0, .int .i64 0, .int .i64 0, .int .i64 0] : Value).cells 5 n (by decide) rfl (fun i hi => by match i, hi with | 0, _ => rfl | 1, _ => rfl | 2, _ => rfl | 3, _ => rfl | 4, _ => rfl) f]
    exact ho1
  have hb1 : Below w.heap.size w w1 := (Below.refl _ _).grown hg1 (Nat.le_refl _) (fun k hk => by cases hk)
  clear ho1 hg1
  go_loopw [4] (fun i wr => ∃ k : Nat, k ≤ n ∧ i = .int .i64 k ∧ Orow wr w.heap.size 51 5 (.slice (some ⟨w.heap.size, 0, none⟩) n n) n k f ∧ Below w.heap.size w wr) (fun i _ => n - (intOf i).toNat)
  case atStart => exact ⟨0, Nat.zero_le _, rfl, ho, hb1⟩
  case round =>
    obtain ⟨k, hk, rfl, hok, hbk⟩ := hrel
    clear ho hb1
    by_cases hlt : k < n
    · obtain ⟨b, off, rfl, hc⟩ := hs (by omega)
      have q0 : wr.cell? ⟨b, off + k * 5, none⟩ = some (.int .i64 (f k 0)) := Below.keep hbk _ _ (hc k hlt 0 (by decide))
      have q1 : wr.cell? ⟨b, off + k * 5 + 1, none⟩ = some (.int .i64 (f k 1)) := Below.keep hbk _ _ (hc k hlt 1 (by decide))
      have q2 : wr.cell? ⟨b, off + k * 5 + 2, none⟩ = some (.int .i64 (f k 2)) := Below.keep hbk _ _ (hc k hlt 2 (by decide))
      have q3 : wr.cell? ⟨b, off + k * 5 + 3, none⟩ = some (.int .i64 (f k 3)) := Below.keep hbk _ _ (hc k hlt 3 (by decide))
      have q4 : wr.cell? ⟨b, off + k * 5 + 4, none⟩ = some (.int .i64 (f k 4)) := Below.keep hbk _ _ (hc k hlt 4 (by decide))
      clear hs hc
      go_wp2_with fail
      refine (toBActL_any _ _ _ _ _ _).mono ?_
      rintro e w2 ⟨rfl, hb2⟩
      have hok2 := hok.below hb2
      have hbk2 := hbk.trans (hb2.mono hbk.size)
      obtain ⟨fr, ⟨o0, r0⟩, ⟨o1, r1⟩, ⟨o2, r2⟩, ⟨o3, r3⟩, ⟨o4, r4⟩⟩ := hok2.at5 hlt
      have hB2 : Below w.heap.size w (((((w2.setCell ⟨w.heap.size, k * 5, none⟩ (.int .i64 (f k 0))).setCell ⟨w.heap.size, k * 5 + 1, none⟩ (.int .i64 (f k 1))).setCell ⟨w.heap.size, k * 5 + 2, none⟩ (.int .i64 (f k 2))).setCell ⟨w.heap.size, k * 5 + 3, none⟩ (.int .i64 (f k 3))).setCell ⟨w.heap.size, k * 5 + 4, none⟩ (.int .i64 (f k 4))) := (((((hbk2.setCell (Nat.le_refl _) _).setCell (Nat.le_refl _) _).setCell (Nat.le_refl _) _).setCell (Nat.le_refl _) _).setCell (Nat.le_refl _) _)
      have HB := hide (And.intro (hok2.set5 hlt) hB2)
      clear hok hok2 hbk hbk2 hb2 hB2 q0 q1 q2 q3 q4
      go_wp2
      go_roundw
      case rel => exact ⟨k + 1, by omega, by go_num, HB.out.1, HB.out.2⟩
      case measure => simp [intOf]; omega
    · go_wp2
      go_ret
      have e : k = n := by omega
      subst e
      exact ⟨_, rfl, hok, hbk⟩

theorem keepR5 {w W W' : World} {p0 p1 p2 p3 p4 p5 p6 p7 p8 p9 : Addr} {x0 x1 x2 x3 x4 x5 x6 x7 x8 x9 : Value} (h : Below w.heap.size w W ∧ W.cell? p0 = some x0 ∧ W.cell? p1 = some x1 ∧ W.cell? p2 = some x2 ∧ W.cell? p3 = some x3 ∧ W.cell? p4 = some x4 ∧ W.cell? p5 = some x5 ∧ W.cell? p6 = some x6 ∧ W.cell? p7 = some x7 ∧ W.cell? p8 = some x8 ∧ W.cell? p9 = some x9) (hb : Below W.heap.size W W') : Below w.heap.size w W' ∧ W'.cell? p0 = some x0 ∧ W'.cell? p1 = some x1 ∧ W'.cell? p2 = some x2 ∧ W'.cell? p3 = some x3 ∧ W'.cell? p4 = some x4 ∧ W'.cell? p5 = some x5 ∧ W'.cell? p6 = some x6 ∧ W'.cell? p7 = some x7 ∧ W'.cell? p8 = some x8 ∧ W'.cell? p9 = some x9 := ⟨h.1.trans (hb.mono h.1.size), keepc hb h.2.1, keepc hb h.2.2.1, keepc hb h.2.2.2.1, keepc hb h.2.2.2.2.1, keepc hb h.2.2.2.2.2.1, keepc hb h.2.2.2.2.2.2.1, keepc hb h.2.2.2.2.2.2.2.1, keepc hb h.2.2.2.2.2.2.2.2.1, keepc hb h.2.2.2.2.2.2.2.2.2.1, keepc hb h.2.2.2.2.2.2.2.2.2.2⟩

set_option maxHeartbeats 4000000 in
theorem eqBActS_same (a b : Value) (n : Nat) (f : Nat → Nat → Int) (w : World) (ha : Sr w a 5 n f) (hb : Sr w b 5 n f) (hl : n ≤ 1048576) :
    Calls Try.prog 47 #[a, b] w fun e w' => e = .returned (.bool true) ∧ Below w.heap.size w w' := by
  obtain ⟨ad, cap, rfl, ha⟩ := ha
  obtain ⟨bd, cbp, rfl, hb⟩ := hb
  go_enter Try.func47, Try.ntmps47
  go_wp2
  go_loopw [5] (fun i wr => ∃ k : Nat, k ≤ n ∧ i = .int .i64 k ∧ Below w.heap.size w wr) (fun i _ => n - (intOf i).toNat)
  case atStart => exact ⟨0, Nat.zero_le _, rfl, Below.refl _ _⟩
  case round =>
    obtain ⟨k, hk, rfl, hbk⟩ := hrel
    by_cases hlt : k < n
    · obtain ⟨p, off, rfl, hc⟩ := ha (by omega)
      obtain ⟨q, off', rfl, hd⟩ := hb (by omega)
      have c0 : wr.cell? ⟨p, off + k * 5, none⟩ = some (.int .i64 (f k 0)) := Below.keep hbk _ _ (hc k hlt 0 (by decide))
      have c1 : wr.cell? ⟨p, off + k * 5 + 1, none⟩ = some (.int .i64 (f k 1)) := Below.keep hbk _ _ (hc k hlt 1 (by decide))
      have c2 : wr.cell? ⟨p, off + k * 5 + 2, none⟩ = some (.int .i64 (f k 2)) := Below.keep hbk _ _ (hc k hlt 2 (by decide))
      have c3 : wr.cell? ⟨p, off + k * 5 + 3, none⟩ = some (.int .i64 (f k 3)) := Below.keep hbk _ _ (hc k hlt 3 (by decide))
      have c4 : wr.cell? ⟨p, off + k * 5 + 4, none⟩ = some (.int .i64 (f k 4)) := Below.keep hbk _ _ (hc k hlt 4 (by decide))
      have d0 : wr.cell? ⟨q, off' + k * 5, none⟩ = some (.int .i64 (f k 0)) := Below.keep hbk _ _ (hd k hlt 0 (by decide))
      have d1 : wr.cell? ⟨q, off' + k * 5 + 1, none⟩ = some (.int .i64 (f k 1)) := Below.keep hbk _ _ (hd k hlt 1 (by decide))
      have d2 : wr.cell? ⟨q, off' + k * 5 + 2, none⟩ = some (.int .i64 (f k 2)) := Below.keep hbk _ _ (hd k hlt 2 (by decide))
      have d3 : wr.cell? ⟨q, off' + k * 5 + 3, none⟩ = some (.int .i64 (f k 3)) := Below.keep hbk _ _ (hd k hlt 3 (by decide))
      have d4 : wr.cell? ⟨q, off' + k * 5 + 4, none⟩ = some (.int .i64 (f k 4)) := Below.keep hbk _ _ (hd k hlt 4 (by decide))
      clear hc hd ha hb
      have hk0 : (0 : Int) ≤ (k : Int) := by omega
      have hk1 : (k : Int) < (n : Int) := by omega
      go_wp2
      go_region_held3 (fun w' => Below w.heap.size w w' ∧ w'.cell? ⟨p, off + k * 5, none⟩ = some (.int .i64 (f k 0)) ∧ w'.cell? ⟨p, off + k * 5 + 1, none⟩ = some (.int .i64 (f k 1)) ∧ w'.cell? ⟨p, off + k * 5 + 2, none⟩ = some (.int .i64 (f k 2)) ∧ w'.cell? ⟨p, off + k * 5 + 3, none⟩ = some (.int .i64 (f k 3)) ∧ w'.cell? ⟨p, off + k * 5 + 4, none⟩ = some (.int .i64 (f k 4)) ∧ w'.cell? ⟨q, off' + k * 5, none⟩ = some (.int .i64 (f k 0)) ∧ w'.cell? ⟨q, off' + k * 5 + 1, none⟩ = some (.int .i64 (f k 1)) ∧ w'.cell? ⟨q, off' + k * 5 + 2, none⟩ = some (.int .i64 (f k 2)) ∧ w'.cell? ⟨q, off' + k * 5 + 3, none⟩ = some (.int .i64 (f k 3)) ∧ w'.cell? ⟨q, off' + k * 5 + 4, none⟩ = some (.int .i64 (f k 4))) (first | exact ⟨hbk.drew, c0, c1, c2, c3, c4, d0, d1, d2, d3, d4⟩ | exact keepR5 (by assumption) hbc) (first | (go_at_call 68; refine (eqBAct_same _ _ _ _ _ _).mono ?_; rintro e w2 ⟨rfl, hbc⟩))
      all_goals go_wp2
      all_goals rename_i hS
      all_goals go_roundw
      case rel => exact ⟨k + 1, by omega, by go_num, hS.1⟩
      case measure => simp [intOf]; omega
    · go_wp2
      go_ret
      exact ⟨rfl, hbk⟩

end Go.Proofs.Ytcocobmanlmjdaa

/- rows of rows of acts: read ('Sa'), copied, compared (written by mkLi.py) -/
namespace Go.Proofs.Ytcocobmanlmjdaa
open Go.RowKit
set_option linter.unusedVariables false
set_option linter.unusedSimpArgs false

/-- rows of acts: C of them, the c-th of L c acts, F c -/
def Sa (w : World) (v : Value) (C : Nat) (L : Nat → Nat) (F : Nat → Nat → Nat → Int) : Prop :=
  ∃ ad cap, v = .slice ad C cap ∧ (0 < C → ∃ b off, ad = some ⟨b, off, none⟩ ∧ ∀ c, c < C → ∃ ia ic, w.cell? ⟨b, off + c, none⟩ = some (.slice ia (L c) ic) ∧ Sr w (.slice ia (L c) ic) 5 (L c) (F c))

theorem Sa.below {w w' : World} {v : Value} {C : Nat} {L : Nat → Nat} {F : Nat → Nat → Nat → Int} (h : Sa w v C L F) (hb : Below w.heap.size w w') : Sa w' v C L F := by
  obtain ⟨ad, cap, rfl, h⟩ := h
  refine ⟨ad, cap, rfl, fun hp => ?_⟩
  obtain ⟨b, off, rfl, hc⟩ := h hp
  refine ⟨b, off, rfl, fun c hcc => ?_⟩
  obtain ⟨ia, ic, h1, h2⟩ := hc c hcc
  exact ⟨ia, ic, Below.keep hb _ _ h1, h2.below hb⟩

/-- rows that are being laid: the outer block g, filled up to k -/
def Oas (w : World) (g C k : Nat) (L : Nat → Nat) (F : Nat → Nat → Nat → Int) : Prop :=
  ∃ cur : Array Value, w.heap[g]? = some (.cells cur 49 (0, 0)) ∧ cur.size = C ∧ ∀ c, c < k → ∃ ib, cur[c]? = some (.slice (some ⟨ib, 0, none⟩) (L c) (L c)) ∧ g < ib ∧ Sr w (.slice (some ⟨ib, 0, none⟩) (L c) (L c)) 5 (L c) (F c)

theorem Oas.below {w w' : World} {g C k : Nat} {L : Nat → Nat} {F : Nat → Nat → Nat → Int} (h : Oas w g C k L F) (hb : Below w.heap.size w w') : Oas w' g C k L F := by
  obtain ⟨cur, h1, h2, h3⟩ := h
  refine ⟨cur, (hb.block g (lt_of_block h1)).trans h1, h2, fun c hc => ?_⟩
  obtain ⟨ib, a, b, d⟩ := h3 c hc
  exact ⟨ib, a, b, d.below hb⟩

theorem Oas.put {w : World} {g C k ib : Nat} {L : Nat → Nat} {F : Nat → Nat → Nat → Int} (h : Oas w g C k L F) (hk : k < C) (hne : g < ib) (hi : Sr w (.slice (some ⟨ib, 0, none⟩) (L k) (L k)) 5 (L k) (F k)) :
    Oas (w.setCell ⟨g, k, none⟩ (.slice (some ⟨ib, 0, none⟩) (L k) (L k))) g C (k + 1) L F := by
  obtain ⟨cur, h1, h2, h3⟩ := h
  refine ⟨cur.setIfInBounds k (.slice (some ⟨ib, 0, none⟩) (L k) (L k)), heap_setCell_same w g k _ _ _ h1, by simpa using h2, fun c hc => ?_⟩
  by_cases e : c = k
  · subst e
    refine ⟨ib, ?_, hne, hi.set (Nat.ne_of_lt hne)⟩
    rw [Array.getElem?_setIfInBounds_self_of_lt (by omega)]
  · obtain ⟨jb, a, b, d⟩ := h3 c (by omega)
    refine ⟨jb, ?_, b, d.set (Nat.ne_of_lt b)⟩
    rw [Array.getElem?_setIfInBounds_ne (by omega)]
    exact a

theorem Oas.facts {w : World} {g C k j : Nat} {L : Nat → Nat} {F : Nat → Nat → Nat → Int} (h : Oas w g C k L F) (hj : j < C) : w.frozen? ⟨g, j, none⟩ = false ∧ ∃ o, w.cell? ⟨g, j, none⟩ = some o := by
  obtain ⟨cur, h1, h2, _⟩ := h
  refine ⟨frozen_of_row _ _ j _ _ h1, cur[j], ?_⟩
  rw [cell_of_row _ _ _ _ _ _ h1]
  exact Array.getElem?_eq_getElem (by omega)

theorem Oas.ss {w : World} {g C : Nat} {L : Nat → Nat} {F : Nat → Nat → Nat → Int} (h : Oas w g C C L F) : Sa w (.slice (some ⟨g, 0, none⟩) C C) C L F := by
  obtain ⟨cur, h1, h2, h3⟩ := h
  refine ⟨some ⟨g, 0, none⟩, C, rfl, fun _ => ⟨g, 0, rfl, fun c hc => ?_⟩⟩
  obtain ⟨ib, a, _, d⟩ := h3 c hc
  refine ⟨_, _, ?_, d⟩
  rw [cell_of_row _ _ _ _ _ _ h1, Nat.zero_add]
  exact a

theorem infoActs : (Try.prog.info? 49).map (fun i => (i.zero, i.size, i.bytes)) = some (some (.slice none 0 0), 1, 24) := by kernel_rfl

theorem oas_start {w1 : World} {base g n : Nat} {xs : List Value} {L : Nat → Nat} {F : Nat → Nat → Nat → Int} (h : w1.ownsRow base 49 1 (.slice (some ⟨g, 0, none⟩) n n) n xs) : Oas w1 g n 0 L F := by
  rcases h.2 with ⟨h', _⟩ | ⟨g', cap', cur, h', _, hg, _, _, hcs, _⟩
  · simp at h'
  · simp only [Value.slice.injEq, Option.some.injEq, Addr.mk.injEq, and_true, true_and] at h'
    obtain ⟨rfl, rfl⟩ := h'
    exact ⟨cur, hg, by omega, fun c hc => by omega⟩

set_option maxHeartbeats 2000000 in
theorem toBActSS_any (v : Value) (n : Nat) (L : Nat → Nat) (F : Nat → Nat → Nat → Int) (w : World) (hs : Sa w v n L F) (hb : n ≤ 1048576) (hL : ∀ c, c < n → L c ≤ 1048576) :
    Calls Try.prog 22 #[v] w fun e w' => ∃ g, e = .returned (.slice (some ⟨g, 0, none⟩) n n) ∧ w.heap.size ≤ g ∧ Oas w' g n n L F ∧ Below w.heap.size w w' := by
  obtain ⟨ad, cap, rfl, hs⟩ := hs
  obtain ⟨i0, hi, hz0, hz1, hz2⟩ := info_parts infoActs
  go_enter Try.func22, Try.ntmps22
  go_wp2_with (at_make; refine wpList_make_full _ rfl _ _ 27 rfl w.heap.size 49 i0 (.slice none 0 0) 1 Try.underlying27 hi hz0 hz1 .i64 .i64 n n n rfl rfl rfl rfl (by rw [hz2]; omega) (by unfold maxLen; omega) (Nat.le_refl _) ?_; intro w1 ho1 hg1)
  have ho : Oas w1 w.heap.size n 0 L F := oas_start ho1
  have hb1 : Below w.heap.size w w1 := (Below.refl _ _).grown hg1 (Nat.le_refl _) (fun k hk => by cases hk)
  clear ho1 hg1
  go_loopw [4] (fun i wr => ∃ k : Nat, k ≤ n ∧ i = .int .i64 k ∧ Oas wr w.heap.size n k L F ∧ Below w.heap.size w wr) (fun i _ => n - (intOf i).toNat)
  case atStart => exact ⟨0, Nat.zero_le _, rfl, ho, hb1⟩
  case round =>
    obtain ⟨k, hk, rfl, hok, hbk⟩ := hrel
    clear ho hb1
    by_cases hlt : k < n
    · obtain ⟨b, off, rfl, hc⟩ := hs (by omega)
      obtain ⟨ia, ic, q0', hr⟩ := hc k hlt
      have q0 : wr.cell? ⟨b, off + k, none⟩ = some (.slice ia (L k) ic) := Below.keep hbk _ _ q0'
      have hr' := hr.below hbk
      clear hs hc q0' hr
      go_wp2_with fail
      refine (toBActS_any _ (L k) (F k) _ hr' (hL k hlt)).mono ?_
      rintro e w2 ⟨ib, rfl, hro, hb2⟩
      have hok2 := hok.below hb2
      have hbk2 := hbk.trans (hb2.mono hbk.size)
      have hib := hro.block
      have hgl : w.heap.size < wr.heap.size := by
        obtain ⟨cur, h1, _⟩ := hok
        exact lt_of_block h1
      obtain ⟨fr, o, ho⟩ := hok2.facts hlt
      have hB2 : Below w.heap.size w (w2.setCell ⟨w.heap.size, k, none⟩ (.slice (some ⟨ib, 0, none⟩) (L k) (L k))) := hbk2.setCell (Nat.le_refl _) _
      have HB := hide (And.intro (hok2.put hlt (by omega) hro.sr) hB2)
      clear hok hok2 hbk hbk2 hb2 hB2 q0 hr' hro
      go_wp2
      go_roundw
      case rel => exact ⟨k + 1, by omega, by go_num, HB.out.1, HB.out.2⟩
      case measure => simp [intOf]; omega
    · go_wp2
      go_ret
      have e : k = n := by omega
      subst e
      exact ⟨_, rfl, Nat.le_refl _, hok, hbk⟩

set_option maxHeartbeats 2000000 in
theorem eqBActSS_same (a b : Value) (n : Nat) (L : Nat → Nat) (F : Nat → Nat → Nat → Int) (w : World) (ha : Sa w a n L F) (hb : Sa w b n L F) (hl : n ≤ 1048576) (hL : ∀ c, c < n → L c ≤ 1048576) :
    Calls Try.prog 25 #[a, b] w fun e w' => e = .returned (.bool true) ∧ Below w.heap.size w w' := by
  obtain ⟨ad, cap, rfl, ha⟩ := ha
  obtain ⟨bd, cbp, rfl, hb⟩ := hb
  go_enter Try.func25, Try.ntmps25
  go_wp2
  go_loopw [5] (fun i wr => ∃ k : Nat, k ≤ n ∧ i = .int .i64 k ∧ Below w.heap.size w wr) (fun i _ => n - (intOf i).toNat)
  case atStart => exact ⟨0, Nat.zero_le _, rfl, Below.refl _ _⟩
  case round =>
    obtain ⟨k, hk, rfl, hbk⟩ := hrel
    by_cases hlt : k < n
    · obtain ⟨p, off, rfl, hc⟩ := ha (by omega)
      obtain ⟨q, off', rfl, hd⟩ := hb (by omega)
      obtain ⟨ia, ic, c0', ra⟩ := hc k hlt
      obtain ⟨ja, jc, d0', rb⟩ := hd k hlt
      have c0 : wr.cell? ⟨p, off + k, none⟩ = some (.slice ia (L k) ic) := Below.keep hbk _ _ c0'
      have d0 : wr.cell? ⟨q, off' + k, none⟩ = some (.slice ja (L k) jc) := Below.keep hbk _ _ d0'
      have hk0 : (0 : Int) ≤ (k : Int) := by omega
      have hk1 : (k : Int) < (n : Int) := by omega
      have hLk := hL k hlt
      have RA := hide ra
      have RB := hide rb
      clear hc hd ha hb c0' d0' ra rb hL
      go_wp2
      go_region_held3 (fun w' => Below w.heap.size w w' ∧ w'.cell? ⟨p, off + k, none⟩ = some (.slice ia (L k) ic) ∧ w'.cell? ⟨q, off' + k, none⟩ = some (.slice ja (L k) jc)) (first | exact ⟨hbk.drew, c0, d0⟩ | exact keepS2 (by assumption) hbc) (first | (go_at_call 47; refine (eqBActS_same _ _ (L k) (F k) _ ?_ ?_ hLk).mono ?_; exact RA.out.below hbk.drew; exact RB.out.below hbk.drew; rintro e w2 ⟨rfl, hbc⟩))
      all_goals go_wp2
      all_goals rename_i hS
      all_goals go_roundw
      case rel => exact ⟨k + 1, by omega, by go_num, hS.1⟩
      case measure => simp [intOf]; omega
    · go_wp2
      go_ret
      exact ⟨rfl, hbk⟩

end Go.Proofs.Ytcocobmanlmjdaa

/- in LiL's place, where TkL and TpB are laid -/

/- litmus tests: not too large, copied, compared, opened (written by mkLiB.py) -/
namespace Go.Proofs.Ytcocobmanlmjdaa
open Go.RowKit
open Go.ChangeShapes Go.WideShapes Go.ChangeAt Go.WideMaps Go.WideElems
set_option linter.unusedVariables false
set_option linter.unusedSimpArgs false

set_option maxHeartbeats 400000 in
theorem szA_no (sa : Option Addr) (sn sc : Nat) (left : Int) (w : World) (h0 : 0 ≤ left) (hm : left ≤ 1048576) (hL : (sn : Int) ≤ 9223372036854775807) (h : left < sn) :
    Calls Try.prog 43 #[.slice sa sn sc, .int .i64 left] w fun e w' => e = .returned (.int .i64 (-1)) ∧ w' = w := by
  have hw : wrap64 (left - (sn : Int)) = left - sn := Go.IntWalk.wrap64_in _ (by omega)
  have hd : decide (left - (sn : Int) < 0) = true := by simp; omega
  go_enter Try.func43, Try.ntmps43
  go_wp2
  go_ret
  exact ⟨rfl, rfl⟩
set_option maxHeartbeats 400000 in
theorem szA_yes (sa : Option Addr) (sn sc : Nat) (left : Int) (w : World) (h0 : 0 ≤ left) (hm : left ≤ 1048576) (h : (sn : Int) ≤ left) :
    Calls Try.prog 43 #[.slice sa sn sc, .int .i64 left] w fun e w' => e = .returned (.int .i64 (left - sn)) ∧ w' = w := by
  have hw : wrap64 (left - (sn : Int)) = left - sn := Go.IntWalk.wrap64_in _ (by omega)
  have hd : decide (left - (sn : Int) < 0) = false := by simp; omega
  go_enter Try.func43, Try.ntmps43
  go_wp2
  go_ret
  exact ⟨rfl, rfl⟩

set_option maxHeartbeats 2000000 in
theorem szBActSS_any (v : Value) (C : Nat) (L : Nat → Nat) (F : Nat → Nat → Nat → Int) (left : Int) (w : World) (h0 : 0 ≤ left) (hm : left ≤ 1048576) (hs : Sa w v C L F) (hC : (C : Int) ≤ 9223372036854775807) (hL : ∀ c, c < C → (L c : Int) ≤ 9223372036854775807) :
    Calls Try.prog 19 #[v, .int .i64 left] w fun e w' => ∃ r : Int, e = .returned (.int .i64 r) ∧ (-1 ≤ r ∧ r ≤ left) ∧ (0 ≤ r → C ≤ 1048576 ∧ ∀ c, c < C → L c ≤ 1048576) ∧ Below w.heap.size w w' := by
  obtain ⟨ad, cap, rfl, hs⟩ := hs
  have hw : wrap64 (left - (C : Int)) = left - C := Go.IntWalk.wrap64_in _ (by omega)
  by_cases h : left < C
  · have hd : decide (left - (C : Int) < 0) = true := by simp; omega
    clear hs
    go_enter Try.func19, Try.ntmps19
    go_wp2
    go_ret
    exact ⟨-1, rfl, by omega, fun h => by omega, Below.refl _ _⟩
  · have hd : decide (left - (C : Int) < 0) = false := by simp; omega
    go_enter Try.func19, Try.ntmps19
    go_wp2
    clear hw hd
    go_loopw [1, 5] (fun l i wr => ∃ (k : Nat) (r : Int), k ≤ C ∧ i = .int .i64 k ∧ l = .int .i64 r ∧ 0 ≤ r ∧ r ≤ left ∧ Below w.heap.size w wr ∧ Hid (∀ c, c < k → L c ≤ 1048576)) (fun _ i _ => C - (intOf i).toNat)
    case atStart => exact ⟨0, left - C, Nat.zero_le _, rfl, rfl, by omega, by omega, Below.refl _ _, hide fun c hc => by omega⟩
    case round =>
      obtain ⟨k, r, hk, rfl, rfl, hr0, hrl, hbk, HK⟩ := hrel
      by_cases hlt : k < C
      · obtain ⟨p, off, rfl, hc⟩ := hs (by omega)
        obtain ⟨ia, ic, q0', hr⟩ := hc k hlt
        have q0 : wr.cell? ⟨p, off + k, none⟩ = some (.slice ia (L k) ic) := Below.keep hbk _ _ q0'
        have hLk := hL k hlt
        have hk0 : (0 : Int) ≤ (k : Int) := by omega
        have hk1 : (k : Int) < (C : Int) := by omega
        clear hs hc q0' hr
        by_cases hx : r < L k
        · go_wp2_with fail
          refine (szA_no ia (L k) ic r _ hr0 (by omega) hLk hx).mono ?_
          rintro e w2 ⟨rfl, rfl⟩
          go_wp2
          go_ret
          exact ⟨-1, rfl, by omega, fun h => by omega, hbk⟩
        · have hd : decide (r - (L k : Int) < 0) = false := by simp; omega
          have HK2 : Hid (∀ c, c < k + 1 → L c ≤ 1048576) := hide (fun c hc => by
            by_cases e : c = k
            · subst e; omega
            · exact HK.out c (by omega))
          go_wp2_with fail
          refine (szA_yes ia (L k) ic r _ hr0 (by omega) (by omega)).mono ?_
          rintro e w2 ⟨rfl, rfl⟩
          go_wp2
          go_roundw
          case rel => exact ⟨k + 1, r - L k, by omega, by go_num, rfl, by omega, by omega, hbk, HK2⟩
          case measure => simp [intOf]; omega
      · clear hs
        go_wp2
        go_ret
        exact ⟨r, rfl, by omega, fun _ => ⟨by omega, fun c hc => HK.out c (by omega)⟩, hbk⟩

set_option maxHeartbeats 1000000 in
theorem szLitmus_any (v : Value) (N : Nat) (L : Nat → Nat) (F : Nat → Nat → Nat → Int) (w : World) (hs : Sa w v N L F) (hN : (N : Int) ≤ 9223372036854775807) (hG : ∀ c, c < N → (L c : Int) ≤ 9223372036854775807) :
    Calls Try.prog 5 #[.agg #[v], .int .i64 1048576] w fun e w' => ∃ r : Int, e = .returned (.int .i64 r) ∧ (0 ≤ r → (N ≤ 1048576 ∧ ∀ c, c < N → L c ≤ 1048576) ∧ r ≤ 1048576) ∧ Below w.heap.size w w' := by
  have hB : Below w.heap.size w (w.alloc (.cells #[v] 24)) := (Below.refl _ _).alloc (Nat.le_refl _) _
  have HV := hide (hs.below hB)
  obtain ⟨ad, cap, rfl, _⟩ := hs
  go_enter Try.func5, Try.ntmps5
  go_wp2_with fail
  refine (szBActSS_any _ N L F 1048576 _ (by decide) (by decide) HV.out hN hG).mono ?_
  rintro e w1 ⟨r, rfl, hr, hp, hb1⟩
  have HB := hide (hB.trans (hb1.mono hB.size))
  clear hb1 hB HV
  by_cases hx : r < 0
  · go_wp2
    go_ret
    exact ⟨-1, rfl, fun h => by omega, HB.out⟩
  · go_wp2
    go_ret
    exact ⟨r, rfl, fun h => ⟨hp h, by omega⟩, HB.out⟩

theorem Oas.set {w : World} {g C k B i : Nat} {L : Nat → Nat} {F : Nat → Nat → Nat → Int} {v : Value} (h : Oas w g C k L F) (hB : B < g) : Oas (w.setCell ⟨B, i, none⟩ v) g C k L F := by
  obtain ⟨cur, h1, h2, h3⟩ := h
  refine ⟨cur, (heap_setCell_other _ _ _ _ (show g ≠ B by omega)).trans h1, h2, fun c hc => ?_⟩
  obtain ⟨ib, a, b, d⟩ := h3 c hc
  exact ⟨ib, a, b, d.set (show B ≠ ib by omega)⟩

set_option maxHeartbeats 2000000 in
theorem toLitmus_any (v : Value) (n : Nat) (L : Nat → Nat) (F : Nat → Nat → Nat → Int) (w : World) (hs : Sa w v n L F) (hb : n ≤ 1048576) (hL : ∀ c, c < n → L c ≤ 1048576) :
    Calls Try.prog 7 #[.agg #[v]] w fun e w' => ∃ g, e = .returned (.agg #[.slice (some ⟨g, 0, none⟩) n n]) ∧ Oas w' g n n L F ∧ w.heap.size < g ∧ Below w.heap.size w w' := by
  have HV := hide hs
  obtain ⟨ad, cap, rfl, _⟩ := hs
  go_enter Try.func7, Try.ntmps7
  go_wp2_with fail
  generalize hW : World.alloc _ _ = W
  have hbW : Below w.heap.size w W := by
    rw [← hW]
    exact (((Below.refl _ _).alloc (Nat.le_refl _) _).alloc (by simp) _).alloc (by simp; omega) _
  have hsz : W.heap.size = w.heap.size + 1 + 1 + 1 := by rw [← hW]; simp
  have k0 : W.heap[w.heap.size + 1]? = some (.cells #[.slice none 0 0] 29 (0, 0)) := by
    rw [← hW, Below.heap_alloc _ _ _ (by simp)]
    have := heap_alloc_new (w.alloc (.cells #[.slice ad n cap] 24)) (.cells #[.slice none 0 0] 29)
    simpa only [World.size_alloc] using this
  have k1 : W.heap[w.heap.size + 1 + 1]? = some (.cells #[.slice none 0 0] 29 (0, 0)) := by
    rw [← hW]
    have := heap_alloc_new ((w.alloc (.cells #[.slice ad n cap] 24)).alloc (.cells #[.slice none 0 0] 29)) (.cells #[.slice none 0 0] 29)
    simpa only [World.size_alloc] using this
  clear hW
  refine (toBActSS_any _ n L F _ (HV.out.below hbW) hb hL).mono ?_
  rintro e w2 ⟨g, rfl, hg, ho, hb2⟩
  have d0 := (hb2.block (w.heap.size + 1) (by omega)).trans k0
  have d1 := (hb2.block (w.heap.size + 1 + 1) (by omega)).trans k1
  have f0 := fun i => frozen_of_row _ _ i _ _ d0
  have f1 := fun i => frozen_of_row _ _ i _ _ d1
  have x0 := cell_of_row _ _ 0 _ _ _ d0
  have y0 := cell_of_row _ _ 0 _ _ _ d1
  simp at x0 y0
  have hB := hbW.trans (hb2.mono hbW.size)
  have HC := hide ho
  have HB := hide hB
  clear hB hb2 ho d0 d1 k0 k1 hbW HV
  go_wp2
  refine bodyPost_ret (v := .agg #[.slice (some ⟨g, 0, none⟩) n n]) (by simp [results, Try.results7, go_sem, x0, y0]) rfl ⟨g, rfl, ?_, by omega, ?_⟩
  · exact (HC.out.set (by omega)).set (by omega)
  · exact (HB.out.setCell (by simp; omega) _).setCell (by simp) _

set_option maxHeartbeats 1000000 in
theorem eqLitmus_same (a b : Value) (n : Nat) (L : Nat → Nat) (F : Nat → Nat → Nat → Int) (w : World) (ha : Sa w a n L F) (hb : Sa w b n L F) (hl : n ≤ 1048576) (hL : ∀ c, c < n → L c ≤ 1048576) :
    Calls Try.prog 9 #[.agg #[a], .agg #[b]] w fun e w' => e = .returned (.bool true) ∧ Below w.heap.size w w' := by
  have hB : ∀ o1 o2 : Obj, Below w.heap.size w ((w.alloc o1).alloc o2) := fun o1 o2 => ((Below.refl _ _).alloc (Nat.le_refl _) _).alloc (by simp) _
  have HA := hide ha
  have HX := hide hb
  obtain ⟨ad, cap, rfl, _⟩ := ha
  obtain ⟨bd, cbp, rfl, _⟩ := hb
  go_enter Try.func9, Try.ntmps9
  go_wp2_with fail
  refine (eqBActSS_same _ _ n L F _ (HA.out.below (hB _ _)) (HX.out.below (hB _ _)) hl hL).mono ?_
  rintro e w2 ⟨rfl, hb2⟩
  have HB := hide ((hB _ _).trans (hb2.mono (hB _ _).size))
  clear hb2 hB HA HX
  go_wp2
  go_ret
  exact ⟨rfl, HB.out⟩

theorem addr_none (b o n : Nat) : (⟨b, o, none⟩ : Addr).add n = ⟨b, o + n, none⟩ := by
  by_cases h : n = 0 <;> simp [Addr.add, h]

set_option maxRecDepth 100000 in
theorem open_acts {W : World} {H : Type} {enc : TypeId × Value → H} {base : Nat} {spare : Nat → Bool} {held : Bool} {fuel : Nat} {cs : List Value} {x : DataW H × List MemPlace} (h : DataW.trod enc Try.prog W base spare held fuel 79 cs = some x) :
    ∃ (qa : Option Addr) (qn qc : Nat) (f : Nat → Nat → Int), cs = [.slice qa qn qc] ∧ Sr W (.slice qa qn qc) 5 qn f ∧ qn ≤ maxLen := by
  have ce : Try.prog.cellsOf 99 = 5 := by kernel_rfl
  have c1 : Try.prog.cellsOf 2 = 1 := by kernel_rfl
  rcases Go.Deep.open_slice Try.underlying79 h with ⟨rfl, _⟩ | ⟨a, len, cap, m, n, D, Pl, rfl, _, hlc, hcm, hmm, _, hx⟩
  · exact ⟨none, 0, 0, fun _ _ => 0, rfl, ⟨none, 0, rfl, fun hp => absurd hp (by simp)⟩, Nat.zero_le _⟩
  · have hlm : len ≤ m := by rw [hmm]; split <;> omega
    obtain ⟨ab, ao, spot⟩ := a
    refine ⟨_, len, cap, fun i j => intOf ((W.cell? ⟨ab, ao + i * 5 + j, none⟩).getD undef), rfl, ⟨_, cap, rfl, fun hp => ?_⟩, by omega⟩
    have each : ∀ i, i < len → ∀ j, j < 5 → ∃ k : Int, W.cell? (((⟨ab, ao, spot⟩ : Addr).add (i * 5)).add j) = some (.int .i64 k) := by
      intro i hi
      obtain ⟨cs', h1, h2⟩ := hx i (by omega)
      rw [ce] at h1
      obtain ⟨_, hlen, hcell⟩ := World.cells?_some h1
      obtain ⟨xs, k, _, _, _, hxl, hf⟩ := DataW.trod_struct Try.underlying99 h2
      match xs, hxl, cs', hlen with
      | [y0, y1, y2, y3, y4], _, [v0, v1, v2, v3, v4], _ =>
        have g0 : DataW.trod enc Try.prog W base spare held k 2 (List.take (Try.prog.cellsOf 2) (List.drop 0 [v0, v1, v2, v3, v4])) = some y0 := hf 0 _ rfl
        have g1 : DataW.trod enc Try.prog W base spare held k 2 (List.take (Try.prog.cellsOf 2) (List.drop 1 [v0, v1, v2, v3, v4])) = some y1 := hf 1 _ rfl
        have g2 : DataW.trod enc Try.prog W base spare held k 2 (List.take (Try.prog.cellsOf 2) (List.drop 2 [v0, v1, v2, v3, v4])) = some y2 := hf 2 _ rfl
        have g3 : DataW.trod enc Try.prog W base spare held k 2 (List.take (Try.prog.cellsOf 2) (List.drop 3 [v0, v1, v2, v3, v4])) = some y3 := hf 3 _ rfl
        have g4 : DataW.trod enc Try.prog W base spare held k 2 (List.take (Try.prog.cellsOf 2) (List.drop 4 [v0, v1, v2, v3, v4])) = some y4 := hf 4 _ rfl
        rw [c1] at g0 g1 g2 g3 g4
        obtain ⟨k0, e0, _⟩ := DataW.trod_int Try.underlying2 g0
        obtain ⟨k1, e1, _⟩ := DataW.trod_int Try.underlying2 g1
        obtain ⟨k2, e2, _⟩ := DataW.trod_int Try.underlying2 g2
        obtain ⟨k3, e3, _⟩ := DataW.trod_int Try.underlying2 g3
        obtain ⟨k4, e4, _⟩ := DataW.trod_int Try.underlying2 g4
        simp at e0 e1 e2 e3 e4
        subst e0 e1 e2 e3 e4
        intro j hj
        have hj2 := hcell j hj
        match j, hj with
        | 0, _ => exact ⟨k0, by simpa using hj2⟩
        | 1, _ => exact ⟨k1, by simpa using hj2⟩
        | 2, _ => exact ⟨k2, by simpa using hj2⟩
        | 3, _ => exact ⟨k3, by simpa using hj2⟩
        | 4, _ => exact ⟨k4, by simpa using hj2⟩
    obtain ⟨k0, hk0⟩ := each 0 hp 0 (by decide)
    have hspot : spot = none := by simpa [Addr.add] using World.cell?_spot hk0
    subst hspot
    refine ⟨ab, ao, rfl, fun j hj i hi => ?_⟩
    obtain ⟨k, hk⟩ := each j hj i hi
    rw [addr_none, addr_none] at hk
    simp [hk, intOf]

set_option maxRecDepth 100000 in
theorem open_actss {W : World} {H : Type} {enc : TypeId × Value → H} {base : Nat} {spare : Nat → Bool} {held : Bool} {fuel : Nat} {cs : List Value} {x : DataW H × List MemPlace} (h : DataW.trod enc Try.prog W base spare held fuel 22 cs = some x) :
    ∃ (sa : Option Addr) (C sc : Nat) (L : Nat → Nat) (F : Nat → Nat → Nat → Int), cs = [.slice sa C sc] ∧ Sa W (.slice sa C sc) C L F ∧ C ≤ maxLen ∧ ∀ c, c < C → L c ≤ maxLen := by
  rcases Go.Deep.open_slice1 Try.underlying22 (by kernel_rfl) h with ⟨rfl, _⟩ | ⟨a, len, cap, m, n, V, D, Pl, rfl, _, hlc, hcm, hmm, _, hx⟩
  · exact ⟨none, 0, 0, fun _ => 0, fun _ _ _ => 0, rfl, ⟨none, 0, rfl, fun hp => absurd hp (by simp)⟩, Nat.zero_le _, fun c hc => absurd hc (by simp)⟩
  · have hlm : len ≤ m := by rw [hmm]; split <;> omega
    have each : ∀ c, ∃ q : Nat × (Nat → Nat → Int), c < len → q.1 ≤ maxLen ∧ ∃ ia ic, W.cell? (a.add c) = some (.slice ia q.1 ic) ∧ Sr W (.slice ia q.1 ic) 5 q.1 q.2 := by
      intro c
      by_cases hc : c < len
      · obtain ⟨h1, h2⟩ := hx c (by omega)
        obtain ⟨qa, qn, qc, f, e, hs, hq⟩ := open_acts h2
        simp at e
        exact ⟨(qn, f), fun _ => ⟨hq, qa, qc, by rw [h1, e], hs⟩⟩
      · exact ⟨(0, fun _ _ => 0), fun h => absurd h hc⟩
    obtain ⟨q, hq⟩ := Classical.axiomOfChoice each
    obtain ⟨ab, ao, spot⟩ := a
    refine ⟨_, len, cap, fun c => (q c).1, fun c => (q c).2, rfl, ⟨_, cap, rfl, fun hp => ?_⟩, by omega, fun c hc => (hq c hc).1⟩
    obtain ⟨_, _, _, hk0, _⟩ := hq 0 hp
    have hspot : spot = none := by simpa [Addr.add] using World.cell?_spot hk0
    subst hspot
    refine ⟨ab, ao, rfl, fun c hc => ?_⟩
    obtain ⟨_, ia, ic, h1, h2⟩ := hq c hc
    exact ⟨ia, ic, by rw [← addr_none]; exact h1, h2⟩

set_option maxRecDepth 100000 in
theorem open_litmus {W : World} {H : Type} {enc : TypeId × Value → H} {base b0 : Nat} {spare : Nat → Bool} {held : Bool} {r : Reach} {v : Value} {d : DataW H} {p : List MemPlace} (hv : Value.okWide Try.prog W r b0 24 v) (h : DataW.Trod enc Try.prog W base spare held 24 v d p) :
    ∃ (u : Value) (N : Nat) (L : Nat → Nat) (F : Nat → Nat → Nat → Int), v = .agg #[u] ∧ Sa W u N L F ∧ N ≤ maxLen ∧ ∀ c, c < N → L c ≤ maxLen := by
  obtain ⟨cs, rfl, hsz⟩ := okWide_struct Try.underlying24 hv
  obtain ⟨fuel, hf⟩ := h
  obtain ⟨xs, n, _, _, hl, hlen, hg⟩ := DataW.trod_struct Try.underlying24 hf
  have c3 : Try.prog.cellsOf 24 = 1 := by kernel_rfl
  have cA : Try.prog.cellsOf 22 = 1 := by kernel_rfl
  rw [c3] at hsz
  obtain ⟨l⟩ := cs
  match l, hsz with
  | [b0], _ =>
    match xs, hlen with
    | [x0], _ =>
      have g0 : DataW.trod enc Try.prog W base spare held n 22 (List.take (Try.prog.cellsOf 22) (List.drop 0 [b0])) = some x0 := hg 0 _ rfl
      rw [cA] at g0
      obtain ⟨la, N, lc, L, F, e0, h0, hN, hL⟩ := open_actss g0
      simp at e0
      subst e0
      exact ⟨_, N, L, F, rfl, h0, hN, hL⟩

end Go.Proofs.Ytcocobmanlmjdaa

/- litmus tests: right ones -/
namespace Go.Proofs.Ytcocobmanlmjdaa
open Go.RowKit
set_option linter.unusedVariables false
set_option linter.unusedSimpArgs false

/-- a kind of act, and whether an act has its form -/
theorem kindOf (k : Int) : ∃ (a b c : Bool) (fv : Value), (∀ w, Calls Try.prog 45 #[.int .i64 k] w fun e w' => e = .returned (.agg (kd a b c fv)) ∧ Below w.heap.size w w') ∧ (∀ (C co va vl rg : Int) w, Calls Try.prog 46 #[.agg (kd a b c fv), .agg (five k co va vl rg), .int .i64 C] w fun e w' => e = .returned (.bool (fmB C k co va vl rg)) ∧ Below w.heap.size w w') := by
  by_cases e1 : k = 1
  · subst e1
    exact ⟨_, _, _, _, kind1, fun C co va vl rg w => by rw [← fm1 C co va vl rg]; exact formOk_any true true false true (fnV 64) 1 co va vl rg C w (notNil _) (notNilG _)⟩
  by_cases e2 : k = 2
  · subst e2
    exact ⟨_, _, _, _, kind2, fun C co va vl rg w => by rw [← fm2 C co va vl rg]; exact formOk_any true false true true (fnV 65) 2 co va vl rg C w (notNil _) (notNilG _)⟩
  by_cases e3 : k = 3
  · subst e3
    exact ⟨_, _, _, _, kind3, fun C co va vl rg w => by rw [← fm3 C co va vl rg]; exact formOk_any false false false true (fnV 66) 3 co va vl rg C w (notNil _) (notNilG _)⟩
  by_cases e4 : k = 4
  · subst e4
    exact ⟨_, _, _, _, kind4, fun C co va vl rg w => by rw [← fm4 C co va vl rg]; exact formOk_any false false false true (fnV 58) 4 co va vl rg C w (notNil _) (notNilG _)⟩
  exact ⟨_, _, _, _, fun w => kindNo k w e1 e2 e3 e4, fun C co va vl rg w => by rw [← fmNo C co va vl rg e1 e2 e3 e4]; exact formOk_any false false false false .nilFunc k co va vl rg C w isNil isNilG⟩

/-- is an act right, of that thread? -/
def actB (C i k co va vl rg : Int) : Bool := !decide (k = 4) && decide (co = i) && fmB C k co va vl rg
/-- the first j acts of a thread -/
def actsB (C i : Int) (f : Nat → Nat → Int) : Nat → Bool
  | 0 => true
  | j + 1 => actsB C i f j && actB C i (f j 0) (f j 1) (f j 2) (f j 3) (f j 4)
theorem acts_no {C i : Int} {f : Nat → Nat → Int} {j : Nat} (h : actB C i (f j 0) (f j 1) (f j 2) (f j 3) (f j 4) = false) : ∀ n, j < n → actsB C i f n = false
  | 0, h0 => absurd h0 (by omega)
  | n + 1, h0 => by
    rw [actsB]
    by_cases e : j = n
    · subst e; rw [h, Bool.and_false]
    · rw [acts_no h n (by omega), Bool.false_and]
def thrB (C i : Int) (n : Nat) (f : Nat → Nat → Int) : Bool := decide (n ≤ 3) && actsB C i f n
/-- the first c threads -/
def thsB (C : Int) (L : Nat → Nat) (F : Nat → Nat → Nat → Int) : Nat → Bool
  | 0 => true
  | c + 1 => thsB C L F c && thrB C c (L c) (F c)
theorem ths_no {C : Int} {L : Nat → Nat} {F : Nat → Nat → Nat → Int} {c : Nat} (h : thrB C c (L c) (F c) = false) : ∀ n, c < n → thsB C L F n = false
  | 0, h0 => absurd h0 (by omega)
  | n + 1, h0 => by
    rw [thsB]
    by_cases e : c = n
    · subst e; rw [h, Bool.and_false]
    · rw [ths_no h n (by omega), Bool.false_and]
def litB (C : Nat) (L : Nat → Nat) (F : Nat → Nat → Nat → Int) : Bool := decide (1 ≤ C ∧ C ≤ 2) && thsB C L F C

end Go.Proofs.Ytcocobmanlmjdaa

/- right litmus tests: impl, spec (written by mkLiD.py) -/
namespace Go.Proofs.Ytcocobmanlmjdaa
open Go.RowKit
set_option linter.unusedVariables false
set_option linter.unusedSimpArgs false

theorem thr_no {C i : Int} {n j : Nat} {f : Nat → Nat → Int} (h : actB C i (f j 0) (f j 1) (f j 2) (f j 3) (f j 4) = false) (hj : j < n) : thrB C i n f = false := by unfold thrB; rw [acts_no h n hj, Bool.and_false]

set_option maxHeartbeats 4000000 in
set_option maxRecDepth 20000 in
theorem threadOk_any (la : Option Addr) (ln lc : Nat) (f : Nat → Nat → Int) (i C : Int) (w : World) (hs : Sr w (.slice la ln lc) 5 ln f) :
    Calls Try.prog 23 #[.slice la ln lc, .int .i64 i, .int .i64 C] w fun e w' => e = .returned (.bool (thrB C i ln f)) ∧ Below w.heap.size w w' := by
  by_cases h3 : 3 < ln
  · have hd : decide ((3 : Int) < (ln : Int)) = true := by simp; omega
    have HO : Hid (false = thrB C i ln f) := hide (by unfold thrB; rw [show decide (ln ≤ 3) = false by simp; omega, Bool.false_and])
    clear hs
    go_enter Try.func23, Try.ntmps23
    go_wp2
    go_ret
    exact ⟨ret_b HO.out, Below.refl _ _⟩
  have hd : decide ((3 : Int) < (ln : Int)) = false := by simp; omega
  obtain ⟨ad, cap, e, hs⟩ := hs
  obtain ⟨rfl, rfl⟩ : la = ad ∧ lc = cap := by simp at e; exact e
  clear e
  go_enter Try.func23, Try.ntmps23
  go_wp2
  go_loopw [14] (fun x wr => ∃ k : Nat, k ≤ ln ∧ x = .int .i64 k ∧ Hid (actsB C i f k = true) ∧ Below w.heap.size w wr) (fun x _ => ln - (intOf x).toNat)
  case atStart => exact ⟨0, Nat.zero_le _, rfl, hide rfl, Below.refl _ _⟩
  case round =>
    obtain ⟨k, hk, rfl, HA, hbk⟩ := hrel
    by_cases hlt : k < ln
    · obtain ⟨p, off, rfl, hc⟩ := hs (by omega)
      have q0 : wr.cell? ⟨p, off + k * 5, none⟩ = some (.int .i64 (f k 0)) := Below.keep hbk _ _ (hc k hlt 0 (by decide))
      have q1 : wr.cell? ⟨p, off + k * 5 + 1, none⟩ = some (.int .i64 (f k 1)) := Below.keep hbk _ _ (hc k hlt 1 (by decide))
      have q2 : wr.cell? ⟨p, off + k * 5 + 2, none⟩ = some (.int .i64 (f k 2)) := Below.keep hbk _ _ (hc k hlt 2 (by decide))
      have q3 : wr.cell? ⟨p, off + k * 5 + 3, none⟩ = some (.int .i64 (f k 3)) := Below.keep hbk _ _ (hc k hlt 3 (by decide))
      have q4 : wr.cell? ⟨p, off + k * 5 + 4, none⟩ = some (.int .i64 (f k 4)) := Below.keep hbk _ _ (hc k hlt 4 (by decide))
      have hrow : (wr.alloc (.cells (five (f k 0) (f k 1) (f k 2) (f k 3) (f k 4)) 51)).heap[wr.heap.size]? = some (.cells (five (f k 0) (f k 1) (f k 2) (f k 3) (f k 4)) 51 (0, 0)) := heap_alloc_new _ _
      have hbA : Below w.heap.size w (wr.alloc (.cells (five (f k 0) (f k 1) (f k 2) (f k 3) (f k 4)) 51)) := hbk.alloc hbk.size _
      have y0 := (cell_of_row _ _ 0 _ _ _ hrow).trans rfl
      have y1 := (cell_of_row _ _ 1 _ _ _ hrow).trans rfl
      have y2 := (cell_of_row _ _ 2 _ _ _ hrow).trans rfl
      have y3 := (cell_of_row _ _ 3 _ _ _ hrow).trans rfl
      have y4 := (cell_of_row _ _ 4 _ _ _ hrow).trans rfl
      clear hc hs hrow hbk
      by_cases k4 : f k 0 = 4
      · have hd4 : (f k 0 == 4) = true := by simpa using k4
        have HO : Hid (false = thrB C i ln f) := hide (thr_no (by simp [actB, k4]) hlt).symm
        clear k4
        go_wp2
        refine wp_region_held_drew (S := fun w' => Below (wr.alloc (.cells (five (f k 0) (f k 1) (f k 2) (f k 3) (f k 4)) 51)).heap.size (wr.alloc (.cells (five (f k 0) (f k 1) (f k 2) (f k 3) (f k 4)) 51)) w') (by kernel_rfl) ((Below.refl _ _).drew) (fun hHeld => ?_)
        refine wpAnyH_take (i := 0) (v := .pointer (some ⟨wr.heap.size, 0, none⟩)) rfl (by kernel_rfl) (by kernel_rfl) (by kernel_rfl) (fun _ _ _ h => h) (Or.inl ⟨by rfl, fun w' hSw => ?_⟩) (by assumption) ?_
        · (try dsimp only at hSw); go_simp
        try simp only [Act.put, List.getElem_toArray, List.getElem_cons_zero, List.getElem_cons_succ, List.setIfInBounds_toArray, List.set_cons_zero, List.set_cons_succ]
        refine wpAnyH_take (i := 1) (v := .int .i64 (f k 0)) rfl (by kernel_rfl) (by kernel_rfl) (by kernel_rfl) (fun _ _ _ h => h) (Or.inl ⟨by rfl, fun w' hSw => ?_⟩) (by assumption) ?_
        · (try dsimp only at hSw); have z0 := keepc hSw y0; have z1 := keepc hSw y1; have z2 := keepc hSw y2; have z3 := keepc hSw y3; have z4 := keepc hSw y4; go_simp
        try simp only [Act.put, List.getElem_toArray, List.getElem_cons_zero, List.getElem_cons_succ, List.setIfInBounds_toArray, List.set_cons_zero, List.set_cons_succ]
        refine wpAnyH_take (i := 2) (v := .bool true) rfl (by kernel_rfl) (by kernel_rfl) (by kernel_rfl) (fun _ _ _ h => h) (Or.inl ⟨by rfl, fun w' hSw => ?_⟩) (by assumption) ?_
        · (try dsimp only at hSw); go_simp
        try simp only [Act.put, List.getElem_toArray, List.getElem_cons_zero, List.getElem_cons_succ, List.setIfInBounds_toArray, List.set_cons_zero, List.set_cons_succ]
        refine wpAnyH_take (i := 3) (v := .bool true) rfl (by kernel_rfl) (by kernel_rfl) (by kernel_rfl) (fun _ _ _ h => h) (Or.inl ⟨by rfl, fun w' hSw => ?_⟩) (by assumption) ?_
        · (try dsimp only at hSw); go_simp
        try simp only [Act.put, List.getElem_toArray, List.getElem_cons_zero, List.getElem_cons_succ, List.setIfInBounds_toArray, List.set_cons_zero, List.set_cons_succ]
        refine wpAnyH_take (i := 4) (v := undef) rfl (by kernel_rfl) (by kernel_rfl) (by kernel_rfl) (fun _ _ _ h => h) (Or.inr ⟨by rfl, rfl⟩) (by assumption) ?_
        try simp only [Act.put, List.getElem_toArray, List.getElem_cons_zero, List.getElem_cons_succ, List.setIfInBounds_toArray, List.set_cons_zero, List.set_cons_succ]
        refine wpAnyH_take (i := 5) (v := undef) rfl (by kernel_rfl) (by kernel_rfl) (by kernel_rfl) (fun _ _ _ h => h) (Or.inr ⟨by rfl, rfl⟩) (by assumption) ?_
        try simp only [Act.put, List.getElem_toArray, List.getElem_cons_zero, List.getElem_cons_succ, List.setIfInBounds_toArray, List.set_cons_zero, List.set_cons_succ]
        refine wpAnyH_take (i := 6) (v := undef) rfl (by kernel_rfl) (by kernel_rfl) (by kernel_rfl) (fun _ _ _ h => h) (Or.inr ⟨by rfl, rfl⟩) (by assumption) ?_
        try simp only [Act.put, List.getElem_toArray, List.getElem_cons_zero, List.getElem_cons_succ, List.setIfInBounds_toArray, List.set_cons_zero, List.set_cons_succ]
        refine wpAnyH_take (i := 7) (v := undef) rfl (by kernel_rfl) (by kernel_rfl) (by kernel_rfl) (fun _ _ _ h => h) (Or.inr ⟨by rfl, rfl⟩) (by assumption) ?_
        try simp only [Act.put, List.getElem_toArray, List.getElem_cons_zero, List.getElem_cons_succ, List.setIfInBounds_toArray, List.set_cons_zero, List.set_cons_succ]
        refine wpAnyH_take (i := 8) (v := .bool true) rfl (by kernel_rfl) (by kernel_rfl) (by kernel_rfl) (fun _ _ _ h => h) (Or.inl ⟨by rfl, fun w' hSw => ?_⟩) (by assumption) ?_
        · (try dsimp only at hSw); go_simp
        try simp only [Act.put, List.getElem_toArray, List.getElem_cons_zero, List.getElem_cons_succ, List.setIfInBounds_toArray, List.set_cons_zero, List.set_cons_succ]
        refine wpAnyH_take (i := 9) (v := .bool true) rfl (by kernel_rfl) (by kernel_rfl) (by kernel_rfl) (fun _ _ _ h => h) (Or.inl ⟨by rfl, fun w' hSw => ?_⟩) (by assumption) ?_
        · (try dsimp only at hSw); go_simp
        try simp only [Act.put, List.getElem_toArray, List.getElem_cons_zero, List.getElem_cons_succ, List.setIfInBounds_toArray, List.set_cons_zero, List.set_cons_succ]
        refine wpAnyH_take (i := 10) (v := undef) rfl (by kernel_rfl) (by kernel_rfl) (by kernel_rfl) (fun _ _ _ h => h) (Or.inr ⟨by rfl, rfl⟩) (by assumption) ?_
        try simp only [Act.put, List.getElem_toArray, List.getElem_cons_zero, List.getElem_cons_succ, List.setIfInBounds_toArray, List.set_cons_zero, List.set_cons_succ]
        refine wpAnyH_take (i := 11) (v := undef) rfl (by kernel_rfl) (by kernel_rfl) (by kernel_rfl) (fun _ _ _ h => h) (Or.inr ⟨by rfl, rfl⟩) (by assumption) ?_
        try simp only [Act.put, List.getElem_toArray, List.getElem_cons_zero, List.getElem_cons_succ, List.setIfInBounds_toArray, List.set_cons_zero, List.set_cons_succ]
        refine wpAnyH_take (i := 12) (v := undef) rfl (by kernel_rfl) (by kernel_rfl) (by kernel_rfl) (fun _ _ _ h => h) (Or.inr ⟨by rfl, rfl⟩) (by assumption) ?_
        try simp only [Act.put, List.getElem_toArray, List.getElem_cons_zero, List.getElem_cons_succ, List.setIfInBounds_toArray, List.set_cons_zero, List.set_cons_succ]
        refine wpAnyH_take (i := 13) (v := undef) rfl (by kernel_rfl) (by kernel_rfl) (by kernel_rfl) (fun _ _ _ h => h) (Or.inr ⟨by rfl, rfl⟩) (by assumption) ?_
        try simp only [Act.put, List.getElem_toArray, List.getElem_cons_zero, List.getElem_cons_succ, List.setIfInBounds_toArray, List.set_cons_zero, List.set_cons_succ]
        refine wpAnyH_take (i := 14) (v := undef) rfl (by kernel_rfl) (by kernel_rfl) (by kernel_rfl) (fun _ _ _ h => h) (Or.inr ⟨by rfl, rfl⟩) (by assumption) ?_
        try simp only [Act.put, List.getElem_toArray, List.getElem_cons_zero, List.getElem_cons_succ, List.setIfInBounds_toArray, List.set_cons_zero, List.set_cons_succ]
        refine wpAnyH_take (i := 15) (v := undef) rfl (by kernel_rfl) (by kernel_rfl) (by kernel_rfl) (fun _ _ _ h => h) (Or.inr ⟨by rfl, rfl⟩) (by assumption) ?_
        try simp only [Act.put, List.getElem_toArray, List.getElem_cons_zero, List.getElem_cons_succ, List.setIfInBounds_toArray, List.set_cons_zero, List.set_cons_succ]
        refine wpAnyH_take (i := 16) (v := undef) rfl (by kernel_rfl) (by kernel_rfl) (by kernel_rfl) (fun _ _ _ h => h) (Or.inr ⟨by rfl, rfl⟩) (by assumption) ?_
        try simp only [Act.put, List.getElem_toArray, List.getElem_cons_zero, List.getElem_cons_succ, List.setIfInBounds_toArray, List.set_cons_zero, List.set_cons_succ]
        refine wpAnyH_take (i := 17) (v := .bool true) rfl (by kernel_rfl) (by kernel_rfl) (by kernel_rfl) (fun _ _ _ h => h) (Or.inl ⟨by rfl, fun w' hSw => ?_⟩) (by assumption) ?_
        · (try dsimp only at hSw); go_simp
        try simp only [Act.put, List.getElem_toArray, List.getElem_cons_zero, List.getElem_cons_succ, List.setIfInBounds_toArray, List.set_cons_zero, List.set_cons_succ]
        refine wpAnyH_done (by kernel_rfl) ?_ _
        have HB := hide (hbA.trans (hHeld.mono hbA.size))
        clear hHeld hbA y0 y1 y2 y3 y4
        go_wp2
        go_ret
        exact ⟨ret_b HO.out, HB.out⟩
      have hd4 : (f k 0 == 4) = false := by simpa using k4
      by_cases ki : f k 1 = i
      · have hdi : (f k 1 == i) = true := by simpa using ki
        have hdn : (f k 1 != i) = false := by simpa using ki
        obtain ⟨ka, kb, kc, fv, hk1, hk2⟩ := kindOf (f k 0)
        cases hf : fmB C (f k 0) (f k 1) (f k 2) (f k 3) (f k 4)
        · have HO : Hid (false = thrB C i ln f) := hide (thr_no (by simp [actB, hf]) hlt).symm
          clear k4 ki
          go_wp2
          refine wp_region_held_drew (S := fun w' => Below (wr.alloc (.cells (five (f k 0) (f k 1) (f k 2) (f k 3) (f k 4)) 51)).heap.size (wr.alloc (.cells (five (f k 0) (f k 1) (f k 2) (f k 3) (f k 4)) 51)) w') (by kernel_rfl) ((Below.refl _ _).drew) (fun hHeld => ?_)
          refine wpAnyH_take (i := 0) (v := .pointer (some ⟨wr.heap.size, 0, none⟩)) rfl (by kernel_rfl) (by kernel_rfl) (by kernel_rfl) (fun _ _ _ h => h) (Or.inl ⟨by rfl, fun w' hSw => ?_⟩) (by assumption) ?_
          · (try dsimp only at hSw); go_simp
          try simp only [Act.put, List.getElem_toArray, List.getElem_cons_zero, List.getElem_cons_succ, List.setIfInBounds_toArray, List.set_cons_zero, List.set_cons_succ]
          refine wpAnyH_take (i := 1) (v := .int .i64 (f k 0)) rfl (by kernel_rfl) (by kernel_rfl) (by kernel_rfl) (fun _ _ _ h => h) (Or.inl ⟨by rfl, fun w' hSw => ?_⟩) (by assumption) ?_
          · (try dsimp only at hSw); have z0 := keepc hSw y0; have z1 := keepc hSw y1; have z2 := keepc hSw y2; have z3 := keepc hSw y3; have z4 := keepc hSw y4; go_simp
          try simp only [Act.put, List.getElem_toArray, List.getElem_cons_zero, List.getElem_cons_succ, List.setIfInBounds_toArray, List.set_cons_zero, List.set_cons_succ]
          refine wpAnyH_take (i := 2) (v := .bool false) rfl (by kernel_rfl) (by kernel_rfl) (by kernel_rfl) (fun _ _ _ h => h) (Or.inl ⟨by rfl, fun w' hSw => ?_⟩) (by assumption) ?_
          · (try dsimp only at hSw); go_simp
          try simp only [Act.put, List.getElem_toArray, List.getElem_cons_zero, List.getElem_cons_succ, List.setIfInBounds_toArray, List.set_cons_zero, List.set_cons_succ]
          refine wpAnyH_take (i := 3) (v := .bool false) rfl (by kernel_rfl) (by kernel_rfl) (by kernel_rfl) (fun _ _ _ h => h) (Or.inl ⟨by rfl, fun w' hSw => ?_⟩) (by assumption) ?_
          · (try dsimp only at hSw); go_simp
          try simp only [Act.put, List.getElem_toArray, List.getElem_cons_zero, List.getElem_cons_succ, List.setIfInBounds_toArray, List.set_cons_zero, List.set_cons_succ]
          refine wpAnyH_take (i := 4) (v := .pointer (some ⟨wr.heap.size, 1, none⟩)) rfl (by kernel_rfl) (by kernel_rfl) (by kernel_rfl) (fun _ _ _ h => h) (Or.inl ⟨by rfl, fun w' hSw => ?_⟩) (by assumption) ?_
          · (try dsimp only at hSw); go_simp
          try simp only [Act.put, List.getElem_toArray, List.getElem_cons_zero, List.getElem_cons_succ, List.setIfInBounds_toArray, List.set_cons_zero, List.set_cons_succ]
          refine wpAnyH_take (i := 5) (v := .int .i64 (f k 1)) rfl (by kernel_rfl) (by kernel_rfl) (by kernel_rfl) (fun _ _ _ h => h) (Or.inl ⟨by rfl, fun w' hSw => ?_⟩) (by assumption) ?_
          · (try dsimp only at hSw); have z0 := keepc hSw y0; have z1 := keepc hSw y1; have z2 := keepc hSw y2; have z3 := keepc hSw y3; have z4 := keepc hSw y4; go_simp
          try simp only [Act.put, List.getElem_toArray, List.getElem_cons_zero, List.getElem_cons_succ, List.setIfInBounds_toArray, List.set_cons_zero, List.set_cons_succ]
          refine wpAnyH_take (i := 6) (v := .int .i64 i) rfl (by kernel_rfl) (by kernel_rfl) (by kernel_rfl) (fun _ _ _ h => h) (Or.inl ⟨by rfl, fun w' hSw => ?_⟩) (by assumption) ?_
          · (try dsimp only at hSw); go_simp
          try simp only [Act.put, List.getElem_toArray, List.getElem_cons_zero, List.getElem_cons_succ, List.setIfInBounds_toArray, List.set_cons_zero, List.set_cons_succ]
          refine wpAnyH_take (i := 7) (v := .bool false) rfl (by kernel_rfl) (by kernel_rfl) (by kernel_rfl) (fun _ _ _ h => h) (Or.inl ⟨by rfl, fun w' hSw => ?_⟩) (by assumption) ?_
          · (try dsimp only at hSw); go_simp
          try simp only [Act.put, List.getElem_toArray, List.getElem_cons_zero, List.getElem_cons_succ, List.setIfInBounds_toArray, List.set_cons_zero, List.set_cons_succ]
          refine wpAnyH_take (i := 8) (v := .bool false) rfl (by kernel_rfl) (by kernel_rfl) (by kernel_rfl) (fun _ _ _ h => h) (Or.inl ⟨by rfl, fun w' hSw => ?_⟩) (by assumption) ?_
          · (try dsimp only at hSw); go_simp
          try simp only [Act.put, List.getElem_toArray, List.getElem_cons_zero, List.getElem_cons_succ, List.setIfInBounds_toArray, List.set_cons_zero, List.set_cons_succ]
          refine wpAnyH_take (i := 9) (v := .bool false) rfl (by kernel_rfl) (by kernel_rfl) (by kernel_rfl) (fun _ _ _ h => h) (Or.inl ⟨by rfl, fun w' hSw => ?_⟩) (by assumption) ?_
          · (try dsimp only at hSw); go_simp
          try simp only [Act.put, List.getElem_toArray, List.getElem_cons_zero, List.getElem_cons_succ, List.setIfInBounds_toArray, List.set_cons_zero, List.set_cons_succ]
          refine wpAnyH_take (i := 10) (v := .pointer (some ⟨wr.heap.size, 0, none⟩)) rfl (by kernel_rfl) (by kernel_rfl) (by kernel_rfl) (fun _ _ _ h => h) (Or.inl ⟨by rfl, fun w' hSw => ?_⟩) (by assumption) ?_
          · (try dsimp only at hSw); go_simp
          try simp only [Act.put, List.getElem_toArray, List.getElem_cons_zero, List.getElem_cons_succ, List.setIfInBounds_toArray, List.set_cons_zero, List.set_cons_succ]
          refine wpAnyH_take (i := 11) (v := .int .i64 (f k 0)) rfl (by kernel_rfl) (by kernel_rfl) (by kernel_rfl) (fun _ _ _ h => h) (Or.inl ⟨by rfl, fun w' hSw => ?_⟩) (by assumption) ?_
          · (try dsimp only at hSw); have z0 := keepc hSw y0; have z1 := keepc hSw y1; have z2 := keepc hSw y2; have z3 := keepc hSw y3; have z4 := keepc hSw y4; go_simp
          try simp only [Act.put, List.getElem_toArray, List.getElem_cons_zero, List.getElem_cons_succ, List.setIfInBounds_toArray, List.set_cons_zero, List.set_cons_succ]
          refine wpAnyH_take (i := 13) (v := .agg (five (f k 0) (f k 1) (f k 2) (f k 3) (f k 4))) rfl (by kernel_rfl) (by kernel_rfl) (by kernel_rfl) (fun _ _ _ h => h) (Or.inl ⟨by rfl, fun w' hSw => ?_⟩) (by assumption) ?_
          · (try dsimp only at hSw); have z0 := keepc hSw y0; have z1 := keepc hSw y1; have z2 := keepc hSw y2; have z3 := keepc hSw y3; have z4 := keepc hSw y4; go_simp
          try simp only [Act.put, List.getElem_toArray, List.getElem_cons_zero, List.getElem_cons_succ, List.setIfInBounds_toArray, List.set_cons_zero, List.set_cons_succ]
          refine wpAnyH_take (i := 14) (v := .int .i64 C) rfl (by kernel_rfl) (by kernel_rfl) (by kernel_rfl) (fun _ _ _ h => h) (Or.inl ⟨by rfl, fun w' hSw => ?_⟩) (by assumption) ?_
          · (try dsimp only at hSw); go_simp
          try simp only [Act.put, List.getElem_toArray, List.getElem_cons_zero, List.getElem_cons_succ, List.setIfInBounds_toArray, List.set_cons_zero, List.set_cons_succ]
          refine wpAnyH_ready (rs := [12]) (by kernel_rfl) (by simp) ?_
          refine AllReadyH.cons rfl (fun K hK => ?_) AllReadyH.nil
          go_simp
          refine (hk1 _).mono ?_
          rintro e wc12 ⟨rfl, hbc⟩
          refine hK.out _ _ (hHeld.trans (hbc.mono hHeld.size)) (fun hHeld => ?_)
          clear hK K hbc
          try simp only [Act.put, List.getElem_toArray, List.getElem_cons_zero, List.getElem_cons_succ, List.setIfInBounds_toArray, List.set_cons_zero, List.set_cons_succ]
          refine wpAnyH_ready (rs := [15]) (by kernel_rfl) (by simp) ?_
          refine AllReadyH.cons rfl (fun K hK => ?_) AllReadyH.nil
          go_simp
          refine (hk2 C (f k 1) (f k 2) (f k 3) (f k 4) _).mono ?_
          rintro e wc15 ⟨rfl, hbc⟩
          rw [hf]
          refine hK.out _ _ (hHeld.trans (hbc.mono hHeld.size)) (fun hHeld => ?_)
          clear hK K hbc
          try simp only [Act.put, List.getElem_toArray, List.getElem_cons_zero, List.getElem_cons_succ, List.setIfInBounds_toArray, List.set_cons_zero, List.set_cons_succ]
          refine wpAnyH_take (i := 16) (v := .bool true) rfl (by kernel_rfl) (by kernel_rfl) (by kernel_rfl) (fun _ _ _ h => h) (Or.inl ⟨by rfl, fun w' hSw => ?_⟩) (by assumption) ?_
          · (try dsimp only at hSw); go_simp
          try simp only [Act.put, List.getElem_toArray, List.getElem_cons_zero, List.getElem_cons_succ, List.setIfInBounds_toArray, List.set_cons_zero, List.set_cons_succ]
          refine wpAnyH_take (i := 17) (v := .bool true) rfl (by kernel_rfl) (by kernel_rfl) (by kernel_rfl) (fun _ _ _ h => h) (Or.inl ⟨by rfl, fun w' hSw => ?_⟩) (by assumption) ?_
          · (try dsimp only at hSw); go_simp
          try simp only [Act.put, List.getElem_toArray, List.getElem_cons_zero, List.getElem_cons_succ, List.setIfInBounds_toArray, List.set_cons_zero, List.set_cons_succ]
          refine wpAnyH_done (by kernel_rfl) ?_ _
          have HB := hide (hbA.trans (hHeld.mono hbA.size))
          clear hHeld hbA y0 y1 y2 y3 y4
          go_wp2
          go_ret
          exact ⟨ret_b HO.out, HB.out⟩
        · have HA2 : Hid (actsB C i f (k + 1) = true) := hide (by rw [actsB, HA.out]; simp [actB, k4, ki]; rw [← ki]; simpa [ki] using hf)
          clear k4 ki
          go_wp2
          refine wp_region_held_drew (S := fun w' => Below (wr.alloc (.cells (five (f k 0) (f k 1) (f k 2) (f k 3) (f k 4)) 51)).heap.size (wr.alloc (.cells (five (f k 0) (f k 1) (f k 2) (f k 3) (f k 4)) 51)) w') (by kernel_rfl) ((Below.refl _ _).drew) (fun hHeld => ?_)
          refine wpAnyH_take (i := 0) (v := .pointer (some ⟨wr.heap.size, 0, none⟩)) rfl (by kernel_rfl) (by kernel_rfl) (by kernel_rfl) (fun _ _ _ h => h) (Or.inl ⟨by rfl, fun w' hSw => ?_⟩) (by assumption) ?_
          · (try dsimp only at hSw); go_simp
          try simp only [Act.put, List.getElem_toArray, List.getElem_cons_zero, List.getElem_cons_succ, List.setIfInBounds_toArray, List.set_cons_zero, List.set_cons_succ]
          refine wpAnyH_take (i := 1) (v := .int .i64 (f k 0)) rfl (by kernel_rfl) (by kernel_rfl) (by kernel_rfl) (fun _ _ _ h => h) (Or.inl ⟨by rfl, fun w' hSw => ?_⟩) (by assumption) ?_
          · (try dsimp only at hSw); have z0 := keepc hSw y0; have z1 := keepc hSw y1; have z2 := keepc hSw y2; have z3 := keepc hSw y3; have z4 := keepc hSw y4; go_simp
          try simp only [Act.put, List.getElem_toArray, List.getElem_cons_zero, List.getElem_cons_succ, List.setIfInBounds_toArray, List.set_cons_zero, List.set_cons_succ]
          refine wpAnyH_take (i := 2) (v := .bool false) rfl (by kernel_rfl) (by kernel_rfl) (by kernel_rfl) (fun _ _ _ h => h) (Or.inl ⟨by rfl, fun w' hSw => ?_⟩) (by assumption) ?_
          · (try dsimp only at hSw); go_simp
          try simp only [Act.put, List.getElem_toArray, List.getElem_cons_zero, List.getElem_cons_succ, List.setIfInBounds_toArray, List.set_cons_zero, List.set_cons_succ]
          refine wpAnyH_take (i := 3) (v := .bool false) rfl (by kernel_rfl) (by kernel_rfl) (by kernel_rfl) (fun _ _ _ h => h) (Or.inl ⟨by rfl, fun w' hSw => ?_⟩) (by assumption) ?_
          · (try dsimp only at hSw); go_simp
          try simp only [Act.put, List.getElem_toArray, List.getElem_cons_zero, List.getElem_cons_succ, List.setIfInBounds_toArray, List.set_cons_zero, List.set_cons_succ]
          refine wpAnyH_take (i := 4) (v := .pointer (some ⟨wr.heap.size, 1, none⟩)) rfl (by kernel_rfl) (by kernel_rfl) (by kernel_rfl) (fun _ _ _ h => h) (Or.inl ⟨by rfl, fun w' hSw => ?_⟩) (by assumption) ?_
          · (try dsimp only at hSw); go_simp
          try simp only [Act.put, List.getElem_toArray, List.getElem_cons_zero, List.getElem_cons_succ, List.setIfInBounds_toArray, List.set_cons_zero, List.set_cons_succ]
          refine wpAnyH_take (i := 5) (v := .int .i64 (f k 1)) rfl (by kernel_rfl) (by kernel_rfl) (by kernel_rfl) (fun _ _ _ h => h) (Or.inl ⟨by rfl, fun w' hSw => ?_⟩) (by assumption) ?_
          · (try dsimp only at hSw); have z0 := keepc hSw y0; have z1 := keepc hSw y1; have z2 := keepc hSw y2; have z3 := keepc hSw y3; have z4 := keepc hSw y4; go_simp
          try simp only [Act.put, List.getElem_toArray, List.getElem_cons_zero, List.getElem_cons_succ, List.setIfInBounds_toArray, List.set_cons_zero, List.set_cons_succ]
          refine wpAnyH_take (i := 6) (v := .int .i64 i) rfl (by kernel_rfl) (by kernel_rfl) (by kernel_rfl) (fun _ _ _ h => h) (Or.inl ⟨by rfl, fun w' hSw => ?_⟩) (by assumption) ?_
          · (try dsimp only at hSw); go_simp
          try simp only [Act.put, List.getElem_toArray, List.getElem_cons_zero, List.getElem_cons_succ, List.setIfInBounds_toArray, List.set_cons_zero, List.set_cons_succ]
          refine wpAnyH_take (i := 7) (v := .bool false) rfl (by kernel_rfl) (by kernel_rfl) (by kernel_rfl) (fun _ _ _ h => h) (Or.inl ⟨by rfl, fun w' hSw => ?_⟩) (by assumption) ?_
          · (try dsimp only at hSw); go_simp
          try simp only [Act.put, List.getElem_toArray, List.getElem_cons_zero, List.getElem_cons_succ, List.setIfInBounds_toArray, List.set_cons_zero, List.set_cons_succ]
          refine wpAnyH_take (i := 8) (v := .bool false) rfl (by kernel_rfl) (by kernel_rfl) (by kernel_rfl) (fun _ _ _ h => h) (Or.inl ⟨by rfl, fun w' hSw => ?_⟩) (by assumption) ?_
          · (try dsimp only at hSw); go_simp
          try simp only [Act.put, List.getElem_toArray, List.getElem_cons_zero, List.getElem_cons_succ, List.setIfInBounds_toArray, List.set_cons_zero, List.set_cons_succ]
          refine wpAnyH_take (i := 9) (v := .bool false) rfl (by kernel_rfl) (by kernel_rfl) (by kernel_rfl) (fun _ _ _ h => h) (Or.inl ⟨by rfl, fun w' hSw => ?_⟩) (by assumption) ?_
          · (try dsimp only at hSw); go_simp
          try simp only [Act.put, List.getElem_toArray, List.getElem_cons_zero, List.getElem_cons_succ, List.setIfInBounds_toArray, List.set_cons_zero, List.set_cons_succ]
          refine wpAnyH_take (i := 10) (v := .pointer (some ⟨wr.heap.size, 0, none⟩)) rfl (by kernel_rfl) (by kernel_rfl) (by kernel_rfl) (fun _ _ _ h => h) (Or.inl ⟨by rfl, fun w' hSw => ?_⟩) (by assumption) ?_
          · (try dsimp only at hSw); go_simp
          try simp only [Act.put, List.getElem_toArray, List.getElem_cons_zero, List.getElem_cons_succ, List.setIfInBounds_toArray, List.set_cons_zero, List.set_cons_succ]
          refine wpAnyH_take (i := 11) (v := .int .i64 (f k 0)) rfl (by kernel_rfl) (by kernel_rfl) (by kernel_rfl) (fun _ _ _ h => h) (Or.inl ⟨by rfl, fun w' hSw => ?_⟩) (by assumption) ?_
          · (try dsimp only at hSw); have z0 := keepc hSw y0; have z1 := keepc hSw y1; have z2 := keepc hSw y2; have z3 := keepc hSw y3; have z4 := keepc hSw y4; go_simp
          try simp only [Act.put, List.getElem_toArray, List.getElem_cons_zero, List.getElem_cons_succ, List.setIfInBounds_toArray, List.set_cons_zero, List.set_cons_succ]
          refine wpAnyH_take (i := 13) (v := .agg (five (f k 0) (f k 1) (f k 2) (f k 3) (f k 4))) rfl (by kernel_rfl) (by kernel_rfl) (by kernel_rfl) (fun _ _ _ h => h) (Or.inl ⟨by rfl, fun w' hSw => ?_⟩) (by assumption) ?_
          · (try dsimp only at hSw); have z0 := keepc hSw y0; have z1 := keepc hSw y1; have z2 := keepc hSw y2; have z3 := keepc hSw y3; have z4 := keepc hSw y4; go_simp
          try simp only [Act.put, List.getElem_toArray, List.getElem_cons_zero, List.getElem_cons_succ, List.setIfInBounds_toArray, List.set_cons_zero, List.set_cons_succ]
          refine wpAnyH_take (i := 14) (v := .int .i64 C) rfl (by kernel_rfl) (by kernel_rfl) (by kernel_rfl) (fun _ _ _ h => h) (Or.inl ⟨by rfl, fun w' hSw => ?_⟩) (by assumption) ?_
          · (try dsimp only at hSw); go_simp
          try simp only [Act.put, List.getElem_toArray, List.getElem_cons_zero, List.getElem_cons_succ, List.setIfInBounds_toArray, List.set_cons_zero, List.set_cons_succ]
          refine wpAnyH_ready (rs := [12]) (by kernel_rfl) (by simp) ?_
          refine AllReadyH.cons rfl (fun K hK => ?_) AllReadyH.nil
          go_simp
          refine (hk1 _).mono ?_
          rintro e wc12 ⟨rfl, hbc⟩
          refine hK.out _ _ (hHeld.trans (hbc.mono hHeld.size)) (fun hHeld => ?_)
          clear hK K hbc
          try simp only [Act.put, List.getElem_toArray, List.getElem_cons_zero, List.getElem_cons_succ, List.setIfInBounds_toArray, List.set_cons_zero, List.set_cons_succ]
          refine wpAnyH_ready (rs := [15]) (by kernel_rfl) (by simp) ?_
          refine AllReadyH.cons rfl (fun K hK => ?_) AllReadyH.nil
          go_simp
          refine (hk2 C (f k 1) (f k 2) (f k 3) (f k 4) _).mono ?_
          rintro e wc15 ⟨rfl, hbc⟩
          rw [hf]
          refine hK.out _ _ (hHeld.trans (hbc.mono hHeld.size)) (fun hHeld => ?_)
          clear hK K hbc
          try simp only [Act.put, List.getElem_toArray, List.getElem_cons_zero, List.getElem_cons_succ, List.setIfInBounds_toArray, List.set_cons_zero, List.set_cons_succ]
          refine wpAnyH_take (i := 16) (v := .bool false) rfl (by kernel_rfl) (by kernel_rfl) (by kernel_rfl) (fun _ _ _ h => h) (Or.inl ⟨by rfl, fun w' hSw => ?_⟩) (by assumption) ?_
          · (try dsimp only at hSw); go_simp
          try simp only [Act.put, List.getElem_toArray, List.getElem_cons_zero, List.getElem_cons_succ, List.setIfInBounds_toArray, List.set_cons_zero, List.set_cons_succ]
          refine wpAnyH_take (i := 17) (v := .bool false) rfl (by kernel_rfl) (by kernel_rfl) (by kernel_rfl) (fun _ _ _ h => h) (Or.inl ⟨by rfl, fun w' hSw => ?_⟩) (by assumption) ?_
          · (try dsimp only at hSw); go_simp
          try simp only [Act.put, List.getElem_toArray, List.getElem_cons_zero, List.getElem_cons_succ, List.setIfInBounds_toArray, List.set_cons_zero, List.set_cons_succ]
          refine wpAnyH_done (by kernel_rfl) ?_ _
          have HB := hide (hbA.trans (hHeld.mono hbA.size))
          clear hHeld hbA y0 y1 y2 y3 y4
          go_wp2
          go_roundw
          case rel => exact ⟨k + 1, by omega, by go_num, HA2, HB.out⟩
          case measure => simp [intOf]; omega
      · have hdi : (f k 1 == i) = false := by simpa using ki
        have hdn : (f k 1 != i) = true := by simpa using ki
        have HO : Hid (false = thrB C i ln f) := hide (thr_no (by simp [actB, ki]) hlt).symm
        clear k4 ki
        go_wp2
        refine wp_region_held_drew (S := fun w' => Below (wr.alloc (.cells (five (f k 0) (f k 1) (f k 2) (f k 3) (f k 4)) 51)).heap.size (wr.alloc (.cells (five (f k 0) (f k 1) (f k 2) (f k 3) (f k 4)) 51)) w') (by kernel_rfl) ((Below.refl _ _).drew) (fun hHeld => ?_)
        refine wpAnyH_take (i := 0) (v := .pointer (some ⟨wr.heap.size, 0, none⟩)) rfl (by kernel_rfl) (by kernel_rfl) (by kernel_rfl) (fun _ _ _ h => h) (Or.inl ⟨by rfl, fun w' hSw => ?_⟩) (by assumption) ?_
        · (try dsimp only at hSw); go_simp
        try simp only [Act.put, List.getElem_toArray, List.getElem_cons_zero, List.getElem_cons_succ, List.setIfInBounds_toArray, List.set_cons_zero, List.set_cons_succ]
        refine wpAnyH_take (i := 1) (v := .int .i64 (f k 0)) rfl (by kernel_rfl) (by kernel_rfl) (by kernel_rfl) (fun _ _ _ h => h) (Or.inl ⟨by rfl, fun w' hSw => ?_⟩) (by assumption) ?_
        · (try dsimp only at hSw); have z0 := keepc hSw y0; have z1 := keepc hSw y1; have z2 := keepc hSw y2; have z3 := keepc hSw y3; have z4 := keepc hSw y4; go_simp
        try simp only [Act.put, List.getElem_toArray, List.getElem_cons_zero, List.getElem_cons_succ, List.setIfInBounds_toArray, List.set_cons_zero, List.set_cons_succ]
        refine wpAnyH_take (i := 2) (v := .bool false) rfl (by kernel_rfl) (by kernel_rfl) (by kernel_rfl) (fun _ _ _ h => h) (Or.inl ⟨by rfl, fun w' hSw => ?_⟩) (by assumption) ?_
        · (try dsimp only at hSw); go_simp
        try simp only [Act.put, List.getElem_toArray, List.getElem_cons_zero, List.getElem_cons_succ, List.setIfInBounds_toArray, List.set_cons_zero, List.set_cons_succ]
        refine wpAnyH_take (i := 3) (v := .bool false) rfl (by kernel_rfl) (by kernel_rfl) (by kernel_rfl) (fun _ _ _ h => h) (Or.inl ⟨by rfl, fun w' hSw => ?_⟩) (by assumption) ?_
        · (try dsimp only at hSw); go_simp
        try simp only [Act.put, List.getElem_toArray, List.getElem_cons_zero, List.getElem_cons_succ, List.setIfInBounds_toArray, List.set_cons_zero, List.set_cons_succ]
        refine wpAnyH_take (i := 4) (v := .pointer (some ⟨wr.heap.size, 1, none⟩)) rfl (by kernel_rfl) (by kernel_rfl) (by kernel_rfl) (fun _ _ _ h => h) (Or.inl ⟨by rfl, fun w' hSw => ?_⟩) (by assumption) ?_
        · (try dsimp only at hSw); go_simp
        try simp only [Act.put, List.getElem_toArray, List.getElem_cons_zero, List.getElem_cons_succ, List.setIfInBounds_toArray, List.set_cons_zero, List.set_cons_succ]
        refine wpAnyH_take (i := 5) (v := .int .i64 (f k 1)) rfl (by kernel_rfl) (by kernel_rfl) (by kernel_rfl) (fun _ _ _ h => h) (Or.inl ⟨by rfl, fun w' hSw => ?_⟩) (by assumption) ?_
        · (try dsimp only at hSw); have z0 := keepc hSw y0; have z1 := keepc hSw y1; have z2 := keepc hSw y2; have z3 := keepc hSw y3; have z4 := keepc hSw y4; go_simp
        try simp only [Act.put, List.getElem_toArray, List.getElem_cons_zero, List.getElem_cons_succ, List.setIfInBounds_toArray, List.set_cons_zero, List.set_cons_succ]
        refine wpAnyH_take (i := 6) (v := .int .i64 i) rfl (by kernel_rfl) (by kernel_rfl) (by kernel_rfl) (fun _ _ _ h => h) (Or.inl ⟨by rfl, fun w' hSw => ?_⟩) (by assumption) ?_
        · (try dsimp only at hSw); go_simp
        try simp only [Act.put, List.getElem_toArray, List.getElem_cons_zero, List.getElem_cons_succ, List.setIfInBounds_toArray, List.set_cons_zero, List.set_cons_succ]
        refine wpAnyH_take (i := 7) (v := .bool true) rfl (by kernel_rfl) (by kernel_rfl) (by kernel_rfl) (fun _ _ _ h => h) (Or.inl ⟨by rfl, fun w' hSw => ?_⟩) (by assumption) ?_
        · (try dsimp only at hSw); go_simp
        try simp only [Act.put, List.getElem_toArray, List.getElem_cons_zero, List.getElem_cons_succ, List.setIfInBounds_toArray, List.set_cons_zero, List.set_cons_succ]
        refine wpAnyH_take (i := 8) (v := .bool true) rfl (by kernel_rfl) (by kernel_rfl) (by kernel_rfl) (fun _ _ _ h => h) (Or.inl ⟨by rfl, fun w' hSw => ?_⟩) (by assumption) ?_
        · (try dsimp only at hSw); go_simp
        try simp only [Act.put, List.getElem_toArray, List.getElem_cons_zero, List.getElem_cons_succ, List.setIfInBounds_toArray, List.set_cons_zero, List.set_cons_succ]
        refine wpAnyH_take (i := 9) (v := .bool true) rfl (by kernel_rfl) (by kernel_rfl) (by kernel_rfl) (fun _ _ _ h => h) (Or.inl ⟨by rfl, fun w' hSw => ?_⟩) (by assumption) ?_
        · (try dsimp only at hSw); go_simp
        try simp only [Act.put, List.getElem_toArray, List.getElem_cons_zero, List.getElem_cons_succ, List.setIfInBounds_toArray, List.set_cons_zero, List.set_cons_succ]
        refine wpAnyH_take (i := 10) (v := undef) rfl (by kernel_rfl) (by kernel_rfl) (by kernel_rfl) (fun _ _ _ h => h) (Or.inr ⟨by rfl, rfl⟩) (by assumption) ?_
        try simp only [Act.put, List.getElem_toArray, List.getElem_cons_zero, List.getElem_cons_succ, List.setIfInBounds_toArray, List.set_cons_zero, List.set_cons_succ]
        refine wpAnyH_take (i := 11) (v := undef) rfl (by kernel_rfl) (by kernel_rfl) (by kernel_rfl) (fun _ _ _ h => h) (Or.inr ⟨by rfl, rfl⟩) (by assumption) ?_
        try simp only [Act.put, List.getElem_toArray, List.getElem_cons_zero, List.getElem_cons_succ, List.setIfInBounds_toArray, List.set_cons_zero, List.set_cons_succ]
        refine wpAnyH_take (i := 12) (v := undef) rfl (by kernel_rfl) (by kernel_rfl) (by kernel_rfl) (fun _ _ _ h => h) (Or.inr ⟨by rfl, rfl⟩) (by assumption) ?_
        try simp only [Act.put, List.getElem_toArray, List.getElem_cons_zero, List.getElem_cons_succ, List.setIfInBounds_toArray, List.set_cons_zero, List.set_cons_succ]
        refine wpAnyH_take (i := 13) (v := undef) rfl (by kernel_rfl) (by kernel_rfl) (by kernel_rfl) (fun _ _ _ h => h) (Or.inr ⟨by rfl, rfl⟩) (by assumption) ?_
        try simp only [Act.put, List.getElem_toArray, List.getElem_cons_zero, List.getElem_cons_succ, List.setIfInBounds_toArray, List.set_cons_zero, List.set_cons_succ]
        refine wpAnyH_take (i := 14) (v := undef) rfl (by kernel_rfl) (by kernel_rfl) (by kernel_rfl) (fun _ _ _ h => h) (Or.inr ⟨by rfl, rfl⟩) (by assumption) ?_
        try simp only [Act.put, List.getElem_toArray, List.getElem_cons_zero, List.getElem_cons_succ, List.setIfInBounds_toArray, List.set_cons_zero, List.set_cons_succ]
        refine wpAnyH_take (i := 15) (v := undef) rfl (by kernel_rfl) (by kernel_rfl) (by kernel_rfl) (fun _ _ _ h => h) (Or.inr ⟨by rfl, rfl⟩) (by assumption) ?_
        try simp only [Act.put, List.getElem_toArray, List.getElem_cons_zero, List.getElem_cons_succ, List.setIfInBounds_toArray, List.set_cons_zero, List.set_cons_succ]
        refine wpAnyH_take (i := 16) (v := undef) rfl (by kernel_rfl) (by kernel_rfl) (by kernel_rfl) (fun _ _ _ h => h) (Or.inr ⟨by rfl, rfl⟩) (by assumption) ?_
        try simp only [Act.put, List.getElem_toArray, List.getElem_cons_zero, List.getElem_cons_succ, List.setIfInBounds_toArray, List.set_cons_zero, List.set_cons_succ]
        refine wpAnyH_take (i := 17) (v := .bool true) rfl (by kernel_rfl) (by kernel_rfl) (by kernel_rfl) (fun _ _ _ h => h) (Or.inl ⟨by rfl, fun w' hSw => ?_⟩) (by assumption) ?_
        · (try dsimp only at hSw); go_simp
        try simp only [Act.put, List.getElem_toArray, List.getElem_cons_zero, List.getElem_cons_succ, List.setIfInBounds_toArray, List.set_cons_zero, List.set_cons_succ]
        refine wpAnyH_done (by kernel_rfl) ?_ _
        have HB := hide (hbA.trans (hHeld.mono hbA.size))
        clear hHeld hbA y0 y1 y2 y3 y4
        go_wp2
        go_ret
        exact ⟨ret_b HO.out, HB.out⟩
    · have e : k = ln := by omega
      subst e
      have HO : Hid (true = thrB C i k f) := hide (by unfold thrB; rw [HA.out, show decide (k ≤ 3) = true by simp; omega]; rfl)
      clear hs
      go_wp2
      go_ret
      exact ⟨ret_b HO.out, hbk⟩

end Go.Proofs.Ytcocobmanlmjdaa

/- right litmus tests: LitmusOk, impl and spec -/
namespace Go.Proofs.Ytcocobmanlmjdaa
open Go.RowKit
set_option linter.unusedVariables false
set_option linter.unusedSimpArgs false

theorem heap_bl {w w' : World} {g : Nat} {x : Obj} (h : w.heap[g]? = some x) (hb : Below w.heap.size w w') : w'.heap[g]? = some x := (hb.block g (lt_of_block h)).trans h
theorem lit_no {C : Nat} {L : Nat → Nat} {F : Nat → Nat → Nat → Int} {c : Nat} (h : thrB C c (L c) (F c) = false) (hc : c < C) : litB C L F = false := by unfold litB; rw [ths_no h C hc, Bool.and_false]
theorem lit_yes {C : Nat} {L : Nat → Nat} {F : Nat → Nat → Nat → Int} (h : thsB C L F C = true) (h1 : 1 ≤ C ∧ C ≤ 2) : litB C L F = true := by unfold litB; rw [h, show decide (1 ≤ C ∧ C ≤ 2) = true by simpa using h1]; rfl
theorem lit_size {C : Nat} {L : Nat → Nat} {F : Nat → Nat → Nat → Int} (h1 : ¬ (1 ≤ C ∧ C ≤ 2)) : litB C L F = false := by unfold litB; rw [show decide (1 ≤ C ∧ C ≤ 2) = false by simpa using h1, Bool.false_and]

set_option maxHeartbeats 4000000 in
set_option maxRecDepth 20000 in
theorem implLitmusOk_any (v : Value) (C : Nat) (L : Nat → Nat) (F : Nat → Nat → Nat → Int) (w : World) (hs : Sa w v C L F) :
    Calls Try.prog 8 #[.agg #[v]] w fun e w' => e = .returned (.bool (litB C L F)) ∧ Below w.heap.size w w' := by
  have hB0 : Below w.heap.size w (w.alloc (.cells #[v] 29)) := (Below.refl _ _).alloc (Nat.le_refl _) _
  have k0 : (w.alloc (.cells #[v] 29)).cell? ⟨w.heap.size, 0, none⟩ = some v := (cell_of_row _ _ 0 _ _ _ (heap_alloc_new _ _)).trans rfl
  obtain ⟨ad, cap, rfl, hs⟩ := hs
  by_cases h1 : C < 1
  · have hd : decide ((C : Int) < 1) = true := by simp; omega
    have HO : Hid (false = litB C L F) := hide (lit_size (by omega)).symm
    clear hs
    go_enter Try.func8, Try.ntmps8
    go_wp2
    go_ret
    exact ⟨ret_b HO.out, hB0⟩
  have hd1 : decide ((C : Int) < 1) = false := by simp; omega
  by_cases h2 : 2 < C
  · have hd : decide ((2 : Int) < (C : Int)) = true := by simp; omega
    have HO : Hid (false = litB C L F) := hide (lit_size (by omega)).symm
    clear hs
    go_enter Try.func8, Try.ntmps8
    go_wp2
    go_ret
    exact ⟨ret_b HO.out, hB0⟩
  have hd2 : decide ((2 : Int) < (C : Int)) = false := by simp; omega
  go_enter Try.func8, Try.ntmps8
  go_wp2
  go_loopw [18] (fun x wr => ∃ c : Nat, c ≤ C ∧ x = .int .i64 c ∧ Hid (thsB C L F c = true) ∧ Hid (Below w.heap.size w wr ∧ wr.cell? ⟨w.heap.size, 0, none⟩ = some (.slice ad C cap))) (fun x _ => C - (intOf x).toNat)
  case atStart => exact ⟨0, Nat.zero_le _, rfl, hide rfl, hide ⟨hB0, k0⟩⟩
  case round =>
    clear k0 hB0
    obtain ⟨c, hc, rfl, HA, HB⟩ := hrel
    by_cases hlt : c < C
    · obtain ⟨b, off, rfl, hcc⟩ := hs (by omega)
      obtain ⟨ia, ic, q', hr⟩ := hcc c hlt
      obtain ⟨hbk, k0⟩ := HB.out
      have q0 : wr.cell? ⟨b, off + c, none⟩ = some (.slice ia (L c) ic) := Below.keep hbk _ _ q'
      have hX : ∀ o, Below w.heap.size w (wr.alloc o) := fun o => hbk.alloc hbk.size o
      have HR := hide hr
      clear hs hcc q' hr
      go_wp2_with (first | (go_at_call 24; go_in) | fail)
      refine (threadOk_any ia (L c) ic (F c) c C _ (Sr.below HR.out (hX _))).mono ?_
      rintro e w2 ⟨rfl, hb2⟩
      have hb3 := (hX (.cells #[.slice (some ⟨b, off, none⟩) C cap] 29)).trans (hb2.mono (hX (.cells #[.slice (some ⟨b, off, none⟩) C cap] 29)).size)
      have k2 := keepc hb2 (keepc ((Below.refl _ wr).alloc (Nat.le_refl _) _) k0)
      cases hth : thrB C c (L c) (F c)
      · have HO : Hid (false = litB C L F) := hide (lit_no hth hlt).symm
        clear hX hb2 k0 q0 hbk HR hth
        go_wp2
        go_ret
        exact ⟨ret_b HO.out, hb3⟩
      · have HA2 : Hid (thsB C L F (c + 1) = true) := hide (by rw [thsB, HA.out, hth]; rfl)
        clear hX hb2 k0 q0 hbk HR hth
        go_wp2
        go_roundw
        case rel => exact ⟨c + 1, by omega, by go_num, HA2, hide ⟨hb3, k2⟩⟩
        case measure => simp [intOf]; omega
    · have e : c = C := by omega
      subst e
      have HO : Hid (true = litB c L F) := hide (lit_yes HA.out (by omega)).symm
      clear hs
      go_wp2
      go_ret
      exact ⟨ret_b HO.out, HB.out.1⟩

set_option maxHeartbeats 4000000 in
set_option maxRecDepth 20000 in
theorem specLitmusOk_any (v : Value) (C : Nat) (L : Nat → Nat) (F : Nat → Nat → Nat → Int) (w : World) (hs : Sa w v C L F) (hC : C ≤ 1048576) (hL : ∀ c, c < C → L c ≤ 1048576) :
    Calls Try.prog 6 #[.agg #[v]] w fun e w' => e = .returned (.bool (litB C L F)) ∧ Below w.heap.size w w' := by
  have hB0 : Below w.heap.size w (w.alloc (.cells #[v] 29)) := (Below.refl _ _).alloc (Nat.le_refl _) _
  have k0 : (w.alloc (.cells #[v] 29)).cell? ⟨w.heap.size, 0, none⟩ = some v := (cell_of_row _ _ 0 _ _ _ (heap_alloc_new _ _)).trans rfl
  have hin := fun W => l1InB C 1 2 W
  obtain ⟨ad, cap, rfl, hs⟩ := hs
  by_cases h1 : ¬ (1 ≤ C ∧ C ≤ 2)
  · have HO : Hid (false = litB C L F) := hide (lit_size h1).symm
    rw [show inB (C : Int) 1 (2 + 1) = false by simp [inB]; omega] at hin
    clear hs
    go_enter Try.func6, Try.ntmps6
    go_wp2_with fail
    refine (hin _).mono ?_
    rintro e w1 ⟨rfl, hw1⟩
    subst hw1
    go_wp2
    go_ret
    exact ⟨ret_b HO.out, hB0⟩
  replace h1 : 1 ≤ C ∧ C ≤ 2 := Decidable.of_not_not h1
  rw [show inB (C : Int) 1 (2 + 1) = true by simp [inB]; omega] at hin
  go_enter Try.func6, Try.ntmps6
  go_wp2_with fail
  refine (hin _).mono ?_
  rintro e w1 ⟨rfl, hw1⟩
  subst hw1
  go_wp2
  go_loopw [4] (fun x wr => ∃ c : Nat, c ≤ C ∧ x = .int .i64 c ∧ Hid (thsB C L F c = true) ∧ Hid (Below w.heap.size w wr ∧ wr.cell? ⟨w.heap.size, 0, none⟩ = some (.slice ad C cap))) (fun x _ => C - (intOf x).toNat)
  case atStart => exact ⟨0, Nat.zero_le _, rfl, hide rfl, hide ⟨hB0, k0⟩⟩
  case round =>
    clear k0 hB0 hin
    obtain ⟨c, hc, rfl, HA, HB⟩ := hrel
    by_cases hlt : c < C
    · obtain ⟨b, off, rfl, hcc⟩ := hs (by omega)
      obtain ⟨ia, ic, q', hr⟩ := hcc c hlt
      obtain ⟨hbk, k0⟩ := HB.out
      have q0 : wr.cell? ⟨b, off + c, none⟩ = some (.slice ia (L c) ic) := Below.keep hbk _ _ q'
      have hc0 : (0 : Int) ≤ (c : Int) := by omega
      have hc1 : (c : Int) < (C : Int) := by omega
      have hLc := hL c hlt
      have HQ := hide (And.intro q' hr)
      clear hs hcc q' hr
      by_cases h3 : 3 < L c
      · have hd : decide ((3 : Int) < (L c : Int)) = true := by simp; omega
        have HO : Hid (false = litB C L F) := hide (lit_no (by unfold thrB; rw [show decide (L c ≤ 3) = false by simp; omega, Bool.false_and]) hlt).symm
        go_wp2
        go_ret
        exact ⟨ret_b HO.out, hbk⟩
      have hd : decide ((3 : Int) < (L c : Int)) = false := by simp; omega
      go_wp2
      go_loopw [5] (fun y wr' => ∃ j : Nat, j ≤ L c ∧ y = .int .i64 j ∧ Hid (actsB C c (F c) j = true) ∧ Hid (Below w.heap.size w wr' ∧ wr'.cell? ⟨w.heap.size, 0, none⟩ = some (.slice (some ⟨b, off, none⟩) C cap))) (fun y _ => L c - (intOf y).toNat)
      case atStart => exact ⟨0, Nat.zero_le _, rfl, hide rfl, HB⟩
      case round =>
        clear k0 q0 HB hbk
        obtain ⟨j, hj, rfl, HJ, HB⟩ := hrel
        obtain ⟨hbk, k0⟩ := HB.out
        have q0 : wr.cell? ⟨b, off + c, none⟩ = some (.slice ia (L c) ic) := Below.keep hbk _ _ HQ.out.1
        by_cases hlj : j < L c
        · obtain ⟨ad2, cap2, e, hs2⟩ := HQ.out.2
          obtain ⟨rfl, rfl⟩ : ia = ad2 ∧ ic = cap2 := by simp at e; exact e
          clear e
          obtain ⟨p, o, rfl, hcell⟩ := hs2 (by omega)
          have a0 : wr.cell? ⟨p, o + j * 5, none⟩ = some (.int .i64 (F c j 0)) := Below.keep hbk _ _ (hcell j hlj 0 (by decide))
          have a1 : wr.cell? ⟨p, o + j * 5 + 1, none⟩ = some (.int .i64 (F c j 1)) := Below.keep hbk _ _ (hcell j hlj 1 (by decide))
          have a2 : wr.cell? ⟨p, o + j * 5 + 2, none⟩ = some (.int .i64 (F c j 2)) := Below.keep hbk _ _ (hcell j hlj 2 (by decide))
          have a3 : wr.cell? ⟨p, o + j * 5 + 3, none⟩ = some (.int .i64 (F c j 3)) := Below.keep hbk _ _ (hcell j hlj 3 (by decide))
          have a4 : wr.cell? ⟨p, o + j * 5 + 4, none⟩ = some (.int .i64 (F c j 4)) := Below.keep hbk _ _ (hcell j hlj 4 (by decide))
          have hj0 : (0 : Int) ≤ (j : Int) := by omega
          have hj1 : (j : Int) < (L c : Int) := by omega
          have hA : Below wr.heap.size wr (wr.alloc (.cells (five (F c j 0) (F c j 1) (F c j 2) (F c j 3) (F c j 4)) 51)) := (Below.refl _ _).alloc (Nat.le_refl _) _
          have hbA := hbk.trans (hA.mono hbk.size)
          have kA := keepc hA k0
          have HAC : Hid (actsB C c (F c) (j + 1) = (actsB C c (F c) j && actB C c (F c j 0) (F c j 1) (F c j 2) (F c j 3) (F c j 4))) := hide rfl
          have HNO := hide (fun (h : actB C c (F c j 0) (F c j 1) (F c j 2) (F c j 3) (F c j 4) = false) => (lit_no (L := L) (F := F) (thr_no h hlj) hlt).symm)
          clear hs2 hcell hA
          generalize F c j 0 = x0 at *
          generalize F c j 1 = x1 at *
          generalize F c j 2 = x2 at *
          generalize F c j 3 = x3 at *
          generalize F c j 4 = x4 at *
          by_cases kc : x1 = (c : Int)
          · subst kc
            by_cases k4 : x0 = 4
            · subst k4
              have HO := hide (HNO.out (by simp [actB]))
              clear HNO HAC
              go_wp2
              go_ret
              exact ⟨ret_b HO.out, hbA⟩
            have hd4 : (x0 == 4) = false := by simpa using k4
            have hfo := fun W => l10Form_any x0 c x2 x3 x4 C W (by omega)
            cases hf : fmB C x0 c x2 x3 x4
            · have HO := hide (HNO.out (by simp [actB, hf]))
              rw [hf] at hfo
              clear HNO HAC k4 hf
              go_wp2_with fail
              refine (hfo _).mono ?_
              rintro e w2 ⟨rfl, hb2⟩
              have hb3 := hbA.trans (hb2.mono hbA.size)
              clear hb2 hbA
              go_wp2
              go_ret
              exact ⟨ret_b HO.out, hb3⟩
            · have HJ2 : Hid (actsB C c (F c) (j + 1) = true) := hide (by rw [HAC.out, HJ.out]; simp [actB, hf, k4])
              rw [hf] at hfo
              clear HNO HAC k4 hf
              go_wp2_with fail
              refine (hfo _).mono ?_
              rintro e w2 ⟨rfl, hb2⟩
              have hb3 := hbA.trans (hb2.mono hbA.size)
              have k3 := keepc hb2 kA
              clear hb2 hbA
              go_wp2
              go_roundw
              case rel => exact ⟨j + 1, by omega, by go_num, HJ2, hide ⟨hb3, k3⟩⟩
              case measure => simp [intOf]; omega
          · have hdc : (x1 == (c : Int)) = false := by simpa using kc
            have hdn : (x1 != (c : Int)) = true := by simpa using kc
            have HO := hide (HNO.out (by simp [actB, kc]))
            clear HNO HAC kc
            go_wp2
            go_ret
            exact ⟨ret_b HO.out, hbA⟩
        · have e : j = L c := by omega
          subst e
          have HA2 : Hid (thsB C L F (c + 1) = true) := hide (by rw [thsB, HA.out, thrB, HJ.out, show decide (L c ≤ 3) = true by simp; omega]; rfl)
          go_wp2
          go_roundw
          case rel => exact ⟨c + 1, by omega, by go_num, HA2, HB⟩
          case measure => simp [intOf]; omega
    · have e : c = C := by omega
      subst e
      have HO : Hid (true = litB c L F) := hide (lit_yes HA.out h1).symm
      clear hs
      go_wp2
      go_ret
      exact ⟨ret_b HO.out, HB.out.1⟩

end Go.Proofs.Ytcocobmanlmjdaa

/- a right test's acts -/
namespace Go.Proofs.Ytcocobmanlmjdaa
open Go.RowKit
set_option linter.unusedVariables false
set_option linter.unusedSimpArgs false

theorem acts_each {C i : Int} {f : Nat → Nat → Int} : ∀ n, actsB C i f n = true → ∀ j, j < n → actB C i (f j 0) (f j 1) (f j 2) (f j 3) (f j 4) = true
  | 0, _, j, hj => absurd hj (by omega)
  | n + 1, h, j, hj => by
    rw [actsB, Bool.and_eq_true] at h
    by_cases e : j = n
    · subst e; exact h.2
    · exact acts_each n h.1 j (by omega)
theorem ths_each {C : Int} {L : Nat → Nat} {F : Nat → Nat → Nat → Int} : ∀ n, thsB C L F n = true → ∀ c, c < n → thrB C c (L c) (F c) = true
  | 0, _, c, hc => absurd hc (by omega)
  | n + 1, h, c, hc => by
    rw [thsB, Bool.and_eq_true] at h
    by_cases e : c = n
    · subst e; exact h.2
    · exact ths_each n h.1 c (by omega)
theorem lit_rgt {C : Nat} {L : Nat → Nat} {F : Nat → Nat → Nat → Int} (h : litB C L F = true) : (1 ≤ C ∧ C ≤ 2) ∧ (∀ c, c < C → L c ≤ 3) ∧ Rgt C L F := by
  unfold litB at h
  simp only [Bool.and_eq_true, decide_eq_true_eq] at h
  have ht := fun c hc => ths_each C h.2 c hc
  refine ⟨h.1, fun c hc => ?_, fun c hc j hj => ?_⟩
  · have := ht c hc
    simp only [thrB, Bool.and_eq_true, decide_eq_true_eq] at this
    exact this.1
  · have := ht c hc
    simp only [thrB, Bool.and_eq_true, decide_eq_true_eq] at this
    have ha := acts_each (L c) this.2 j hj
    simp only [actB, Bool.and_eq_true, Bool.not_eq_true', decide_eq_true_eq, decide_eq_false_iff_not] at ha
    exact ⟨ha.1.1, ha.1.2, ha.2⟩

end Go.Proofs.Ytcocobmanlmjdaa

/- an act of a run: did -/
namespace Go.Proofs.Ytcocobmanlmjdaa
open Go.RowKit
set_option linter.unusedVariables false
set_option linter.unusedSimpArgs false

/-- a run's six cells: the threads, how many acts are done, the Tso -/
abbrev run6 (th : Value) (a0 a1 : Int) (m b r : Value) : Array Value := #[th, .int .i64 a0, .int .i64 a1, m, b, r]
theorem row6_facts {w : World} {B : Nat} {T : TypeId} {v0 v1 v2 v3 v4 v5 : Value} (h : w.heap[B]? = some (.cells #[v0, v1, v2, v3, v4, v5] T (0, 0))) : (∀ i, w.frozen? ⟨B, i, none⟩ = false) ∧ w.cell? ⟨B, 0, none⟩ = some v0 ∧ w.cell? ⟨B, 1, none⟩ = some v1 ∧ w.cell? ⟨B, 2, none⟩ = some v2 ∧ w.cell? ⟨B, 3, none⟩ = some v3 ∧ w.cell? ⟨B, 4, none⟩ = some v4 ∧ w.cell? ⟨B, 5, none⟩ = some v5 :=
  ⟨fun i => frozen_of_row _ _ i _ _ h, (cell_of_row _ _ 0 _ _ _ h).trans rfl, (cell_of_row _ _ 1 _ _ _ h).trans rfl, (cell_of_row _ _ 2 _ _ _ h).trans rfl, (cell_of_row _ _ 3 _ _ _ h).trans rfl, (cell_of_row _ _ 4 _ _ _ h).trans rfl, (cell_of_row _ _ 5 _ _ _ h).trans rfl⟩
theorem low_set {W : World} {base B i : Nat} {v : Value} {m b r : Value} {d : Td} {C : Nat} {vb vr : Nat → Value} {tag : Nat → Nat} (h : TaD W base m b r d C vb vr tag) (hB : B < base) : TaD (W.setCell ⟨B, i, none⟩ v) base m b r d C vb vr tag := Ta.grown h (grown_set W B i v) (fun g e => by simp only [Option.some.injEq] at e; omega)

set_option maxHeartbeats 4000000 in
set_option maxRecDepth 20000 in
theorem did_any (ta : Option Addr) (tn tc : Nat) (a0 a1 : Int) (mv bv rv : Value) (d : Td) (C : Nat) (k co va vl rg : Int) (w : World) (h : Tv w mv bv rv d.zs C d.L d.F C d.Z) (ht : tokD d C = true) :
    Calls Try.prog 55 #[.agg (run6 (.slice ta tn tc) a0 a1 mv bv rv), .agg (five k co va vl rg)] w fun e w' => Below w.heap.size w w' ∧ ((okc d C k co va vl rg ≠ 0 ∧ e = .returned (.tuple #[.agg (run6 (.slice ta tn tc) a0 a1 mv bv rv), .bool false])) ∨ (okc d C k co va vl rg = 0 ∧ ∃ m b r vb vr tag, e = .returned (.tuple #[.agg (run6 (.slice ta tn tc) a0 a1 m b r), .bool true]) ∧ TaD w' w.heap.size m b r (nxt d C k co va vl rg) C vb vr tag)) := by
  obtain ⟨⟨ma, mc, rfl⟩, ⟨ba, bc, rfl⟩, ⟨ra, rc, rfl⟩⟩ := three_of h
  have HT := hide h
  clear h
  obtain ⟨W, hW⟩ : ∃ W, ((w.alloc (.cells (run6 (.slice ta tn tc) a0 a1 (.slice ma d.zs.length mc) (.slice ba C bc) (.slice ra C rc)) 67)).alloc (.cells (five k co va vl rg) 51)).alloc (.cells #[nil3, .int .i64 0, .int .i64 0, nil3, nil3, nil3] 67) = W := ⟨_, rfl⟩
  have hWs : W.heap.size = w.heap.size + 1 + 1 + 1 := by rw [← hW]; simp
  have hB0 : Below w.heap.size w W := by rw [← hW]; exact (((Below.refl _ _).alloc (Nat.le_refl _) _).alloc (by simp) _).alloc (by simp; omega) _
  have g1 : W.heap[w.heap.size]? = some (.cells (run6 (.slice ta tn tc) a0 a1 (.slice ma d.zs.length mc) (.slice ba C bc) (.slice ra C rc)) 67 (0, 0)) := by rw [← hW, Below.heap_alloc _ _ _ (by simp; omega), Below.heap_alloc _ _ _ (by simp)]; exact heap_alloc_new _ _
  have g2 : W.heap[w.heap.size + 1]? = some (.cells (five k co va vl rg) 51 (0, 0)) := by
    rw [← hW, Below.heap_alloc _ _ _ (by simp)]
    have := heap_alloc_new (w.alloc (.cells (run6 (.slice ta tn tc) a0 a1 (.slice ma d.zs.length mc) (.slice ba C bc) (.slice ra C rc)) 67)) (.cells (five k co va vl rg) 51)
    simpa only [World.size_alloc] using this
  have g3 : W.heap[w.heap.size + 1 + 1]? = some (.cells #[nil3, .int .i64 0, .int .i64 0, nil3, nil3, nil3] 67 (0, 0)) := by
    rw [← hW]
    have := heap_alloc_new ((w.alloc (.cells (run6 (.slice ta tn tc) a0 a1 (.slice ma d.zs.length mc) (.slice ba C bc) (.slice ra C rc)) 67)).alloc (.cells (five k co va vl rg) 51)) (.cells #[nil3, .int .i64 0, .int .i64 0, nil3, nil3, nil3] 67)
    simpa only [World.size_alloc] using this
  have HE := hide (And.intro hWs (And.intro hB0 (And.intro g1 (And.intro g2 g3))))
  obtain ⟨_, x0, x1, x2, x3, x4, x5⟩ := row6_facts g1
  obtain ⟨y0, y1, y2, y3, y4⟩ := row5_facts g2
  have hdo := fun W h => implTsoDo_any (.slice ma d.zs.length mc) (.slice ba C bc) (.slice ra C rc) d C C k co va vl rg W h
  subst hW
  clear hWs hB0 g1 g2 g3
  go_enter Try.func55, Try.ntmps55
  go_wp2_with fail
  refine (hdo _ (HT.out.below HE.out.2.1)).mono ?_
  rintro e w1 (⟨q, _⟩ | ⟨_, m1, b1, r1, vb1, vr1, tag1, rfl, ta1, hb1⟩)
  · exact absurd (q.symm.trans ht) (by decide)
  obtain ⟨⟨ma1, mc1, rfl⟩, ⟨ba1, bc1, rfl⟩, ⟨ra1, rc1, rfl⟩⟩ := three_of (Ta.tv ta1)
  obtain ⟨e1, e2, e3, e4, e5⟩ := HE.out
  have hA1 : Below w1.heap.size w1 (w1.alloc (.cells #[.slice ma1 (nxt d C k co va vl rg).zs.length mc1, .slice ba1 C bc1, .slice ra1 C rc1] 37)) := (Below.refl _ _).alloc (Nat.le_refl _) _
  have hc1 := hb1.trans (hA1.mono hb1.size)
  have g1 := heap_b e3 hc1
  have g3 := heap_b e5 hc1
  have q1 : (w1.alloc (.cells #[.slice ma1 (nxt d C k co va vl rg).zs.length mc1, .slice ba1 C bc1, .slice ra1 C rc1] 37)).heap[w1.heap.size]? = some (.cells #[.slice ma1 (nxt d C k co va vl rg).zs.length mc1, .slice ba1 C bc1, .slice ra1 C rc1] 37 (0, 0)) := heap_alloc_new _ _
  have hB1 := e2.trans (hc1.mono e2.size)
  have ta2 := Ta.below ta1 hA1
  rw [e1] at ta2
  have hl1 := lt_of_block e3
  clear ta1 hb1 hA1 hc1 hdo HT HE e1 e2 e3 e4 e5 x0 x1 x2 x3 x4 x5 y0 y1 y2 y3 y4
  obtain ⟨f1, x0, x1, x2, x3, x4, x5⟩ := row6_facts g1
  obtain ⟨f3, z0, z1, z2, z3, z4, z5⟩ := row6_facts g3
  obtain ⟨_, c0, c1, c2⟩ := row3_facts q1
  generalize hnl : (nxt d C k co va vl rg).zs.length = nl at *
  by_cases h0 : okc d C k co va vl rg = 0
  · have HF : Hid (TaD ((((((((((w1.alloc (.cells #[.slice ma1 nl mc1, .slice ba1 C bc1, .slice ra1 C rc1] 37)).setCell ⟨w.heap.size, 3, none⟩ (.slice ma1 nl mc1)).setCell ⟨w.heap.size, 4, none⟩ (.slice ba1 C bc1)).setCell ⟨w.heap.size, 5, none⟩ (.slice ra1 C rc1)).setCell ⟨w.heap.size + 1 + 1, 0, none⟩ (.slice ta tn tc)).setCell ⟨w.heap.size + 1 + 1, 1, none⟩ (.int .i64 a0)).setCell ⟨w.heap.size + 1 + 1, 2, none⟩ (.int .i64 a1)).setCell ⟨w.heap.size + 1 + 1, 3, none⟩ (.slice ma1 nl mc1)).setCell ⟨w.heap.size + 1 + 1, 4, none⟩ (.slice ba1 C bc1)).setCell ⟨w.heap.size + 1 + 1, 5, none⟩ (.slice ra1 C rc1)) w.heap.size (.slice ma1 nl mc1) (.slice ba1 C bc1) (.slice ra1 C rc1) (nxt d C k co va vl rg) C vb1 vr1 tag1 ∧ Below w.heap.size w ((((((((((w1.alloc (.cells #[.slice ma1 nl mc1, .slice ba1 C bc1, .slice ra1 C rc1] 37)).setCell ⟨w.heap.size, 3, none⟩ (.slice ma1 nl mc1)).setCell ⟨w.heap.size, 4, none⟩ (.slice ba1 C bc1)).setCell ⟨w.heap.size, 5, none⟩ (.slice ra1 C rc1)).setCell ⟨w.heap.size + 1 + 1, 0, none⟩ (.slice ta tn tc)).setCell ⟨w.heap.size + 1 + 1, 1, none⟩ (.int .i64 a0)).setCell ⟨w.heap.size + 1 + 1, 2, none⟩ (.int .i64 a1)).setCell ⟨w.heap.size + 1 + 1, 3, none⟩ (.slice ma1 nl mc1)).setCell ⟨w.heap.size + 1 + 1, 4, none⟩ (.slice ba1 C bc1)).setCell ⟨w.heap.size + 1 + 1, 5, none⟩ (.slice ra1 C rc1))) := hide ⟨Ta.mono (low_set (low_set (low_set (low_set (low_set (low_set (low_set (low_set (low_set ta2 (by omega)) (by omega)) (by omega)) (by omega)) (by omega)) (by omega)) (by omega)) (by omega)) (by omega)) (by omega), (((((((((hB1.setCell (p := ⟨w.heap.size, 3, none⟩) (by show w.heap.size ≤ w.heap.size; omega) _).setCell (p := ⟨w.heap.size, 4, none⟩) (by show w.heap.size ≤ w.heap.size; omega) _).setCell (p := ⟨w.heap.size, 5, none⟩) (by show w.heap.size ≤ w.heap.size; omega) _).setCell (p := ⟨w.heap.size + 1 + 1, 0, none⟩) (by show w.heap.size ≤ w.heap.size + 1 + 1; omega) _).setCell (p := ⟨w.heap.size + 1 + 1, 1, none⟩) (by show w.heap.size ≤ w.heap.size + 1 + 1; omega) _).setCell (p := ⟨w.heap.size + 1 + 1, 2, none⟩) (by show w.heap.size ≤ w.heap.size + 1 + 1; omega) _).setCell (p := ⟨w.heap.size + 1 + 1, 3, none⟩) (by show w.heap.size ≤ w.heap.size + 1 + 1; omega) _).setCell (p := ⟨w.heap.size + 1 + 1, 4, none⟩) (by show w.heap.size ≤ w.heap.size + 1 + 1; omega) _).setCell (p := ⟨w.heap.size + 1 + 1, 5, none⟩) (by show w.heap.size ≤ w.heap.size + 1 + 1; omega) _)⟩
    have H0 := hide h0
    rw [h0]
    clear h0 hB1 ta2 g1 g3 q1
    go_wp2
    refine bodyPost_ret (v := .tuple #[.agg (run6 (.slice ta tn tc) a0 a1 (.slice ma1 nl mc1) (.slice ba1 C bc1) (.slice ra1 C rc1)), .bool true]) (by simp [results, Try.results55, go_sem, z0, z1, z2, z3, z4, z5]) rfl ⟨HF.out.2, .inr ⟨H0.out, _, _, _, _, _, _, rfl, HF.out.1⟩⟩
  · have HF : Hid (Below w.heap.size w (((((((w1.alloc (.cells #[.slice ma1 nl mc1, .slice ba1 C bc1, .slice ra1 C rc1] 37)).setCell ⟨w.heap.size + 1 + 1, 0, none⟩ (.slice ta tn tc)).setCell ⟨w.heap.size + 1 + 1, 1, none⟩ (.int .i64 a0)).setCell ⟨w.heap.size + 1 + 1, 2, none⟩ (.int .i64 a1)).setCell ⟨w.heap.size + 1 + 1, 3, none⟩ (.slice ma d.zs.length mc)).setCell ⟨w.heap.size + 1 + 1, 4, none⟩ (.slice ba C bc)).setCell ⟨w.heap.size + 1 + 1, 5, none⟩ (.slice ra C rc))) := hide ((((((hB1.setCell (p := ⟨w.heap.size + 1 + 1, 0, none⟩) (by show w.heap.size ≤ w.heap.size + 1 + 1; omega) _).setCell (p := ⟨w.heap.size + 1 + 1, 1, none⟩) (by show w.heap.size ≤ w.heap.size + 1 + 1; omega) _).setCell (p := ⟨w.heap.size + 1 + 1, 2, none⟩) (by show w.heap.size ≤ w.heap.size + 1 + 1; omega) _).setCell (p := ⟨w.heap.size + 1 + 1, 3, none⟩) (by show w.heap.size ≤ w.heap.size + 1 + 1; omega) _).setCell (p := ⟨w.heap.size + 1 + 1, 4, none⟩) (by show w.heap.size ≤ w.heap.size + 1 + 1; omega) _).setCell (p := ⟨w.heap.size + 1 + 1, 5, none⟩) (by show w.heap.size ≤ w.heap.size + 1 + 1; omega) _)
    have H0 := hide h0
    generalize hcd : okc d C k co va vl rg = code at h0
    have hd : (code == 0) = false := by simpa using h0
    have hdn : (code != 0) = true := by simpa using h0
    clear h0 hB1 ta2 g1 g3 q1 hcd
    go_wp2
    refine bodyPost_ret (v := .tuple #[.agg (run6 (.slice ta tn tc) a0 a1 (.slice ma d.zs.length mc) (.slice ba C bc) (.slice ra C rc)), .bool false]) (by simp [results, Try.results55, go_sem, z0, z1, z2, z3, z4, z5]) rfl ⟨HF.out, .inl ⟨H0.out, rfl⟩⟩

end Go.Proofs.Ytcocobmanlmjdaa

/- a run's drain, a thread's end -/
namespace Go.Proofs.Ytcocobmanlmjdaa
open Go.RowKit
set_option linter.unusedVariables false
set_option linter.unusedSimpArgs false

set_option maxHeartbeats 4000000 in
set_option maxRecDepth 20000 in
theorem drained_any (ta : Option Addr) (tn tc : Nat) (a0 a1 : Int) (mv bv rv : Value) (d : Td) (C : Nat) (co : Int) (w : World) (h : Tv w mv bv rv d.zs C d.L d.F C d.Z) (ht : tokD d C = true) :
    Calls Try.prog 53 #[.agg (run6 (.slice ta tn tc) a0 a1 mv bv rv), .int .i64 co] w fun e w' => Below w.heap.size w w' ∧ ((okc d C 4 co 0 0 0 ≠ 0 ∧ e = .returned (.tuple #[.agg (run6 (.slice ta tn tc) a0 a1 mv bv rv), .bool false])) ∨ (okc d C 4 co 0 0 0 = 0 ∧ ∃ m b r vb vr tag, e = .returned (.tuple #[.agg (run6 (.slice ta tn tc) a0 a1 m b r), .bool true]) ∧ TaD w' w.heap.size m b r (nxt d C 4 co 0 0 0) C vb vr tag)) := by
  obtain ⟨⟨ma, mc, rfl⟩, ⟨ba, bc, rfl⟩, ⟨ra, rc, rfl⟩⟩ := three_of h
  have HT := hide h
  clear h
  obtain ⟨W, hW⟩ : ∃ W, (w.alloc (.cells (run6 (.slice ta tn tc) a0 a1 (.slice ma d.zs.length mc) (.slice ba C bc) (.slice ra C rc)) 67)).alloc (.cells #[nil3, .int .i64 0, .int .i64 0, nil3, nil3, nil3] 67) = W := ⟨_, rfl⟩
  have hWs : W.heap.size = w.heap.size + 1 + 1 := by rw [← hW]; simp
  have hB0 : Below w.heap.size w W := by rw [← hW]; exact ((Below.refl _ _).alloc (Nat.le_refl _) _).alloc (by simp) _
  have g1 : W.heap[w.heap.size]? = some (.cells (run6 (.slice ta tn tc) a0 a1 (.slice ma d.zs.length mc) (.slice ba C bc) (.slice ra C rc)) 67 (0, 0)) := by rw [← hW, Below.heap_alloc _ _ _ (by simp)]; exact heap_alloc_new _ _
  have g3 : W.heap[w.heap.size + 1]? = some (.cells #[nil3, .int .i64 0, .int .i64 0, nil3, nil3, nil3] 67 (0, 0)) := by
    rw [← hW]
    have := heap_alloc_new (w.alloc (.cells (run6 (.slice ta tn tc) a0 a1 (.slice ma d.zs.length mc) (.slice ba C bc) (.slice ra C rc)) 67)) (.cells #[nil3, .int .i64 0, .int .i64 0, nil3, nil3, nil3] 67)
    simpa only [World.size_alloc] using this
  have HE := hide (And.intro hWs (And.intro hB0 g3))
  obtain ⟨_, x0, x1, x2, x3, x4, x5⟩ := row6_facts g1
  have hdo := fun W h => did_any ta tn tc a0 a1 (.slice ma d.zs.length mc) (.slice ba C bc) (.slice ra C rc) d C 4 co 0 0 0 W h ht
  subst hW
  clear hWs hB0 g1 g3
  go_enter Try.func53, Try.ntmps53
  go_wp2_with fail
  refine (hdo _ (HT.out.below HE.out.2.1)).mono ?_
  rintro e w1 ⟨hb1, hq⟩
  obtain ⟨e1, e2, e5⟩ := HE.out
  have g3 := heap_b e5 hb1
  have hB1 := e2.trans (hb1.mono e2.size)
  obtain ⟨f3, z0, z1, z2, z3, z4, z5⟩ := row6_facts g3
  rcases hq with ⟨h0, rfl⟩ | ⟨h0, m1, b1, r1, vb1, vr1, tag1, rfl, ta2⟩
  · have HF : Hid (Below w.heap.size w ((((((w1.setCell ⟨w.heap.size + 1, 0, none⟩ (.slice ta tn tc)).setCell ⟨w.heap.size + 1, 1, none⟩ (.int .i64 a0)).setCell ⟨w.heap.size + 1, 2, none⟩ (.int .i64 a1)).setCell ⟨w.heap.size + 1, 3, none⟩ (.slice ma d.zs.length mc)).setCell ⟨w.heap.size + 1, 4, none⟩ (.slice ba C bc)).setCell ⟨w.heap.size + 1, 5, none⟩ (.slice ra C rc))) := hide ((((((hB1.setCell (p := ⟨w.heap.size + 1, 0, none⟩) (by show w.heap.size ≤ w.heap.size + 1; omega) _).setCell (p := ⟨w.heap.size + 1, 1, none⟩) (by show w.heap.size ≤ w.heap.size + 1; omega) _).setCell (p := ⟨w.heap.size + 1, 2, none⟩) (by show w.heap.size ≤ w.heap.size + 1; omega) _).setCell (p := ⟨w.heap.size + 1, 3, none⟩) (by show w.heap.size ≤ w.heap.size + 1; omega) _).setCell (p := ⟨w.heap.size + 1, 4, none⟩) (by show w.heap.size ≤ w.heap.size + 1; omega) _).setCell (p := ⟨w.heap.size + 1, 5, none⟩) (by show w.heap.size ≤ w.heap.size + 1; omega) _)
    clear hB1 g3 e1 e2 e5 hb1 hdo HT HE x0 x1 x2 x3 x4 x5
    go_wp2
    refine bodyPost_ret (v := .tuple #[.agg (run6 (.slice ta tn tc) a0 a1 (.slice ma d.zs.length mc) (.slice ba C bc) (.slice ra C rc)), .bool false]) (by simp [results, Try.results53, go_sem, z0, z1, z2, z3, z4, z5]) rfl ⟨HF.out, .inl ⟨h0, rfl⟩⟩
  · obtain ⟨⟨ma1, mc1, rfl⟩, ⟨ba1, bc1, rfl⟩, ⟨ra1, rc1, rfl⟩⟩ := three_of (Ta.tv ta2)
    rw [e1] at ta2
    generalize hnl : (nxt d C 4 co 0 0 0).zs.length = nl at *
    have HF : Hid (TaD ((((((w1.setCell ⟨w.heap.size + 1, 0, none⟩ (.slice ta tn tc)).setCell ⟨w.heap.size + 1, 1, none⟩ (.int .i64 a0)).setCell ⟨w.heap.size + 1, 2, none⟩ (.int .i64 a1)).setCell ⟨w.heap.size + 1, 3, none⟩ (.slice ma1 nl mc1)).setCell ⟨w.heap.size + 1, 4, none⟩ (.slice ba1 C bc1)).setCell ⟨w.heap.size + 1, 5, none⟩ (.slice ra1 C rc1)) w.heap.size (.slice ma1 nl mc1) (.slice ba1 C bc1) (.slice ra1 C rc1) (nxt d C 4 co 0 0 0) C vb1 vr1 tag1 ∧ Below w.heap.size w ((((((w1.setCell ⟨w.heap.size + 1, 0, none⟩ (.slice ta tn tc)).setCell ⟨w.heap.size + 1, 1, none⟩ (.int .i64 a0)).setCell ⟨w.heap.size + 1, 2, none⟩ (.int .i64 a1)).setCell ⟨w.heap.size + 1, 3, none⟩ (.slice ma1 nl mc1)).setCell ⟨w.heap.size + 1, 4, none⟩ (.slice ba1 C bc1)).setCell ⟨w.heap.size + 1, 5, none⟩ (.slice ra1 C rc1))) := hide ⟨Ta.mono (low_set (low_set (low_set (low_set (low_set (low_set ta2 (by omega)) (by omega)) (by omega)) (by omega)) (by omega)) (by omega)) (by omega), ((((((hB1.setCell (p := ⟨w.heap.size + 1, 0, none⟩) (by show w.heap.size ≤ w.heap.size + 1; omega) _).setCell (p := ⟨w.heap.size + 1, 1, none⟩) (by show w.heap.size ≤ w.heap.size + 1; omega) _).setCell (p := ⟨w.heap.size + 1, 2, none⟩) (by show w.heap.size ≤ w.heap.size + 1; omega) _).setCell (p := ⟨w.heap.size + 1, 3, none⟩) (by show w.heap.size ≤ w.heap.size + 1; omega) _).setCell (p := ⟨w.heap.size + 1, 4, none⟩) (by show w.heap.size ≤ w.heap.size + 1; omega) _).setCell (p := ⟨w.heap.size + 1, 5, none⟩) (by show w.heap.size ≤ w.heap.size + 1; omega) _)⟩
    have H0 := hide h0
    clear hB1 g3 e1 e2 e5 hb1 hdo HT HE x0 x1 x2 x3 x4 x5 ta2 hnl h0
    go_wp2
    refine bodyPost_ret (v := .tuple #[.agg (run6 (.slice ta tn tc) a0 a1 (.slice ma1 nl mc1) (.slice ba1 C bc1) (.slice ra1 C rc1)), .bool true]) (by simp [results, Try.results53, go_sem, z0, z1, z2, z3, z4, z5]) rfl ⟨HF.out.2, .inr ⟨H0.out, _, _, _, _, _, _, rfl, HF.out.1⟩⟩

end Go.Proofs.Ytcocobmanlmjdaa

/- has a thread of a run ended? -/
namespace Go.Proofs.Ytcocobmanlmjdaa
open Go.RowKit
set_option linter.unusedVariables false
set_option linter.unusedSimpArgs false

def ac (a0 a1 : Int) (t : Nat) : Int := if t = 0 then a0 else a1
set_option maxHeartbeats 4000000 in
set_option maxRecDepth 20000 in
theorem hasEnded_any (ta : Option Addr) (tn tc : Nat) (L : Nat → Nat) (F : Nat → Nat → Nat → Int) (a0 a1 : Int) (ma ba ra : Option Addr) (mn mc bn bc rn rc : Nat) (t : Nat) (w : World) (hs : Sa w (.slice ta tn tc) tn L F) (ht : t < 2) (htn : t < tn) :
    Calls Try.prog 54 #[.agg (run6 (.slice ta tn tc) a0 a1 (.slice ma mn mc) (.slice ba bn bc) (.slice ra rn rc)), .int .i64 t] w fun e w' => e = .returned (.bool (decide (ac a0 a1 t = (L t : Int)))) ∧ Below w.heap.size w w' := by
  have hB : Below w.heap.size w (w.alloc (.cells (run6 (.slice ta tn tc) a0 a1 (.slice ma mn mc) (.slice ba bn bc) (.slice ra rn rc)) 67)) := (Below.refl _ _).alloc (Nat.le_refl _) _
  obtain ⟨_, x0, x1, x2, x3, x4, x5⟩ := row6_facts (heap_alloc_new w (.cells (run6 (.slice ta tn tc) a0 a1 (.slice ma mn mc) (.slice ba bn bc) (.slice ra rn rc)) 67))
  obtain ⟨ad, cap, e, hs⟩ := hs
  obtain ⟨rfl, rfl⟩ : ta = ad ∧ tc = cap := by simp at e; exact e
  clear e
  obtain ⟨b, off, rfl, hcc⟩ := hs (by omega)
  have htn1 : (0 : Int) < (tn : Int) := by omega
  rcases (show t = 0 ∨ t = 1 by omega) with rfl | rfl
  · obtain ⟨ia, ic, q', hr⟩ := hcc 0 htn
    have q0 := keepc hB q'
    try simp only [Nat.add_zero] at q0
    by_cases hx : a0 = (L 0 : Int)
    · have hd : (a0 == (L 0 : Int)) = true := by simpa using hx
      have HO : Hid (true = decide (ac a0 a1 0 = (L 0 : Int))) := hide (by simp [ac]; simpa using hx)
      clear hx hs hcc hr q'
      go_enter Try.func54, Try.ntmps54
      go_wp2
      go_quiet (fail)
      all_goals go_wp2
      all_goals go_ret
      all_goals exact ⟨ret_b HO.out, below_drewN hB _⟩
    · have hd : (a0 == (L 0 : Int)) = false := by simpa using hx
      have HO : Hid (false = decide (ac a0 a1 0 = (L 0 : Int))) := hide (by simp [ac]; simpa using hx)
      clear hx hs hcc hr q'
      go_enter Try.func54, Try.ntmps54
      go_wp2
      go_quiet (fail)
      all_goals go_wp2
      all_goals go_ret
      all_goals exact ⟨ret_b HO.out, below_drewN hB _⟩
  · obtain ⟨ia, ic, q', hr⟩ := hcc 1 htn
    have q0 := keepc hB q'
    have htn2 : (1 : Int) < (tn : Int) := by omega
    try simp only [Nat.add_zero] at q0
    by_cases hx : a1 = (L 1 : Int)
    · have hd : (a1 == (L 1 : Int)) = true := by simpa using hx
      have HO : Hid (true = decide (ac a0 a1 1 = (L 1 : Int))) := hide (by simp [ac]; simpa using hx)
      clear hx hs hcc hr q'
      go_enter Try.func54, Try.ntmps54
      go_wp2
      go_quiet (fail)
      all_goals go_wp2
      all_goals go_ret
      all_goals exact ⟨ret_b HO.out, below_drewN hB _⟩
    · have hd : (a1 == (L 1 : Int)) = false := by simpa using hx
      have HO : Hid (false = decide (ac a0 a1 1 = (L 1 : Int))) := hide (by simp [ac]; simpa using hx)
      clear hx hs hcc hr q'
      go_enter Try.func54, Try.ntmps54
      go_wp2
      go_quiet (fail)
      all_goals go_wp2
      all_goals go_ret
      all_goals exact ⟨ret_b HO.out, below_drewN hB _⟩

end Go.Proofs.Ytcocobmanlmjdaa

/- an act of a run and a run's drain, told alike; the threads of a test -/
namespace Go.Proofs.Ytcocobmanlmjdaa
open Go.RowKit
set_option linter.unusedVariables false
set_option linter.unusedSimpArgs false

/-- a Tso in blocks of its own, lo .. hi -/
def Fr (w : World) (lo hi : Nat) (m b r : Value) (d : Td) (C : Nat) : Prop := ∃ vb vr tag, TaD w lo m b r d C vb vr tag ∧ ∀ g, hi ≤ g → tag g = 100000
theorem Fr.tv {w : World} {lo hi : Nat} {m b r : Value} {d : Td} {C : Nat} (h : Fr w lo hi m b r d C) : Tv w m b r d.zs C d.L d.F C d.Z := by
  obtain ⟨_, _, _, h, _⟩ := h
  exact Ta.tv h
theorem Fr.of {w : World} {lo : Nat} {m b r : Value} {d : Td} {C : Nat} {vb vr : Nat → Value} {tag : Nat → Nat} (h : TaD w lo m b r d C vb vr tag) : Fr w lo w.heap.size m b r d C := by
  obtain ⟨tag', h1, h2⟩ := Ta.tagOff h
  exact ⟨_, _, _, h1, h2⟩
theorem Fr.set {w : World} {lo hi : Nat} {m b r : Value} {d : Td} {C : Nat} (h : Fr w lo hi m b r d C) (hC : C ≤ 40) {B i : Nat} {v : Value} (hB : B < lo ∨ hi ≤ B) : Fr (w.setCell ⟨B, i, none⟩ v) lo hi m b r d C := by
  obtain ⟨vb, vr, tag, h1, h2⟩ := h
  refine ⟨vb, vr, tag, Ta.off (S := fun b => b = B) h1 ((Chg.refl (fun b => b = B) _).set (B := B) rfl v) (fun b e => ?_) hC hC, h2⟩
  have e' : b = B := e
  subst e'
  rcases hB with q | q
  · exact .inl q
  · exact .inr (h2 _ q)
theorem Fr.below {w w' : World} {lo hi : Nat} {m b r : Value} {d : Td} {C : Nat} (h : Fr w lo hi m b r d C) (hb : Below w.heap.size w w') : Fr w' lo hi m b r d C := by
  obtain ⟨vb, vr, tag, h1, h2⟩ := h
  exact ⟨vb, vr, tag, Ta.below h1 hb, h2⟩
theorem Fr.mono {w : World} {lo hi lo' hi' : Nat} {m b r : Value} {d : Td} {C : Nat} (h : Fr w lo hi m b r d C) (h1 : lo' ≤ lo) (h2 : hi ≤ hi') : Fr w lo' hi' m b r d C := by
  obtain ⟨vb, vr, tag, q1, q2⟩ := h
  exact ⟨vb, vr, tag, Ta.mono q1 h1, fun g hg => q2 g (by omega)⟩

/-- what an act hands back: a Tso of its own, or what was handed in -/
def DidP (w' : World) (lo hi : Nat) (mv bv rv : Value) (d' : Td) (C : Nat) (ok : Bool) (m b r : Value) : Prop := (ok = true ∧ Fr w' lo hi m b r d' C) ∨ (ok = false ∧ m = mv ∧ b = bv ∧ r = rv)
theorem DidP.set {w : World} {lo hi : Nat} {mv bv rv m b r : Value} {d : Td} {C : Nat} {ok : Bool} (h : DidP w lo hi mv bv rv d C ok m b r) (hC : C ≤ 40) {B i : Nat} {v : Value} (hB : B < lo ∨ hi ≤ B) : DidP (w.setCell ⟨B, i, none⟩ v) lo hi mv bv rv d C ok m b r := by
  rcases h with ⟨h1, h2⟩ | h
  · exact .inl ⟨h1, h2.set hC hB⟩
  · exact .inr h
theorem DidP.below {w w' : World} {lo hi : Nat} {mv bv rv m b r : Value} {d : Td} {C : Nat} {ok : Bool} (h : DidP w lo hi mv bv rv d C ok m b r) (hb : Below w.heap.size w w') : DidP w' lo hi mv bv rv d C ok m b r := by
  rcases h with ⟨h1, h2⟩ | h
  · exact .inl ⟨h1, h2.below hb⟩
  · exact .inr h
theorem DidP.mono {w : World} {lo hi lo' hi' : Nat} {mv bv rv m b r : Value} {d : Td} {C : Nat} {ok : Bool} (h : DidP w lo hi mv bv rv d C ok m b r) (q1 : lo' ≤ lo) (q2 : hi ≤ hi') : DidP w lo' hi' mv bv rv d C ok m b r := by
  rcases h with ⟨h1, h2⟩ | h
  · exact .inl ⟨h1, h2.mono q1 q2⟩
  · exact .inr h

/-- an act's answer -/
abbrev DidQ (w : World) (th : Value) (a0 a1 : Int) (mv bv rv : Value) (d' : Td) (C : Nat) (ok : Bool) (e : Ending) (w' : World) : Prop := ∃ ma mn mc ba bc ra rc, e = .returned (.tuple #[.agg (run6 th a0 a1 (.slice ma mn mc) (.slice ba C bc) (.slice ra C rc)), .bool ok]) ∧ Below w.heap.size w w' ∧ DidP w' w.heap.size w'.heap.size mv bv rv d' C ok (.slice ma mn mc) (.slice ba C bc) (.slice ra C rc)
theorem did_u (ta : Option Addr) (tn tc : Nat) (a0 a1 : Int) (mv bv rv : Value) (d : Td) (C : Nat) (k co va vl rg : Int) (w : World) (h : Tv w mv bv rv d.zs C d.L d.F C d.Z) (ht : tokD d C = true) :
    Calls Try.prog 55 #[.agg (run6 (.slice ta tn tc) a0 a1 mv bv rv), .agg (five k co va vl rg)] w (DidQ w (.slice ta tn tc) a0 a1 mv bv rv (nxt d C k co va vl rg) C (decide (okc d C k co va vl rg = 0))) := by
  obtain ⟨⟨ma, mc, e1⟩, ⟨ba, bc, e2⟩, ⟨ra, rc, e3⟩⟩ := three_of h
  refine (did_any ta tn tc a0 a1 mv bv rv d C k co va vl rg w h ht).mono ?_
  rintro e w' ⟨hb, ⟨h0, rfl⟩ | ⟨h0, m, b, r, vb, vr, tag, rfl, hta⟩⟩
  · subst e1; subst e2; subst e3
    exact ⟨_, _, _, _, _, _, _, by rw [decide_eq_false h0], hb, .inr ⟨decide_eq_false h0, rfl, rfl, rfl⟩⟩
  · obtain ⟨⟨ma1, mc1, rfl⟩, ⟨ba1, bc1, rfl⟩, ⟨ra1, rc1, rfl⟩⟩ := three_of (Ta.tv hta)
    exact ⟨_, _, _, _, _, _, _, by rw [decide_eq_true h0], hb, .inl ⟨decide_eq_true h0, Fr.of hta⟩⟩
theorem drained_u (ta : Option Addr) (tn tc : Nat) (a0 a1 : Int) (mv bv rv : Value) (d : Td) (C : Nat) (co : Int) (w : World) (h : Tv w mv bv rv d.zs C d.L d.F C d.Z) (ht : tokD d C = true) :
    Calls Try.prog 53 #[.agg (run6 (.slice ta tn tc) a0 a1 mv bv rv), .int .i64 co] w (DidQ w (.slice ta tn tc) a0 a1 mv bv rv (nxt d C 4 co 0 0 0) C (decide (okc d C 4 co 0 0 0 = 0))) := by
  obtain ⟨⟨ma, mc, e1⟩, ⟨ba, bc, e2⟩, ⟨ra, rc, e3⟩⟩ := three_of h
  refine (drained_any ta tn tc a0 a1 mv bv rv d C co w h ht).mono ?_
  rintro e w' ⟨hb, ⟨h0, rfl⟩ | ⟨h0, m, b, r, vb, vr, tag, rfl, hta⟩⟩
  · subst e1; subst e2; subst e3
    exact ⟨_, _, _, _, _, _, _, by rw [decide_eq_false h0], hb, .inr ⟨decide_eq_false h0, rfl, rfl, rfl⟩⟩
  · obtain ⟨⟨ma1, mc1, rfl⟩, ⟨ba1, bc1, rfl⟩, ⟨ra1, rc1, rfl⟩⟩ := three_of (Ta.tv hta)
    exact ⟨_, _, _, _, _, _, _, by rw [decide_eq_true h0], hb, .inl ⟨decide_eq_true h0, Fr.of hta⟩⟩

theorem threads_any (ta : Option Addr) (tn tc : Nat) (w : World) : Calls Try.prog 24 #[.agg #[.slice ta tn tc]] w fun e w' => e = .returned (.int .i64 tn) ∧ Below w.heap.size w w' := by
  have hB : Below w.heap.size w (w.alloc (.cells #[.slice ta tn tc] 29)) := (Below.refl _ _).alloc (Nat.le_refl _) _
  have x0 : (w.alloc (.cells #[.slice ta tn tc] 29)).cell? ⟨w.heap.size, 0, none⟩ = some (.slice ta tn tc) := (cell_of_row _ _ 0 _ _ _ (heap_alloc_new _ _)).trans rfl
  go_enter Try.func24, Try.ntmps24
  go_wp2
  go_ret
  exact ⟨rfl, hB⟩

end Go.Proofs.Ytcocobmanlmjdaa

/- a pick: a drain, a thread that has ended -/
namespace Go.Proofs.Ytcocobmanlmjdaa
open Go.RowKit
set_option linter.unusedVariables false
set_option linter.unusedSimpArgs false

/-- a run's box and its answer's box in a call of picked -/
structure Pbx (w V : World) (c : Array Value) : Prop where
  bel : Below w.heap.size w V
  box : V.heap[w.heap.size]? = some (.cells c 67 (0, 0))
  ans : V.heap[w.heap.size + 1]? = some (.cells #[nil3, .int .i64 0, .int .i64 0, nil3, nil3, nil3] 67 (0, 0))
theorem Pbx.next {w V V' : World} {c : Array Value} (h : Pbx w V c) (hb : Below V.heap.size V V') : Pbx w V' c := ⟨h.bel.trans (hb.mono h.bel.size), heap_b h.box hb, heap_b h.ans hb⟩
theorem Pbx.start (w : World) (c : Array Value) : Pbx w ((w.alloc (.cells c 67)).alloc (.cells #[nil3, .int .i64 0, .int .i64 0, nil3, nil3, nil3] 67)) c := by
  refine ⟨((Below.refl _ _).alloc (Nat.le_refl _) _).alloc (by simp) _, ?_, ?_⟩
  · rw [Below.heap_alloc _ _ _ (by simp)]; exact heap_alloc_new _ _
  · have := heap_alloc_new (w.alloc (.cells c 67)) (.cells #[nil3, .int .i64 0, .int .i64 0, nil3, nil3, nil3] 67)
    simpa only [World.size_alloc] using this
theorem Pbx.size {w V : World} {c : Array Value} (h : Pbx w V c) : w.heap.size + 1 + 1 ≤ V.heap.size := by
  have := lt_of_block h.ans
  omega
theorem six_far {V : World} {B c i : Nat} {x v0 v1 v2 v3 v4 v5 : Value} (h : V.cell? ⟨c, i, none⟩ = some x) (hne : c ≠ B) : ((((((V.setCell ⟨B, 0, none⟩ (v0)).setCell ⟨B, 1, none⟩ (v1)).setCell ⟨B, 2, none⟩ (v2)).setCell ⟨B, 3, none⟩ (v3)).setCell ⟨B, 4, none⟩ (v4)).setCell ⟨B, 5, none⟩ (v5)).cell? ⟨c, i, none⟩ = some x :=
  (other_set (by omega)).trans ((other_set (by omega)).trans ((other_set (by omega)).trans ((other_set (by omega)).trans ((other_set (by omega)).trans ((other_set (by omega)).trans h)))))
theorem six_below {w V : World} {B : Nat} {v0 v1 v2 v3 v4 v5 : Value} (h : Below w.heap.size w V) (hB : w.heap.size ≤ B) : Below w.heap.size w ((((((V.setCell ⟨B, 0, none⟩ (v0)).setCell ⟨B, 1, none⟩ (v1)).setCell ⟨B, 2, none⟩ (v2)).setCell ⟨B, 3, none⟩ (v3)).setCell ⟨B, 4, none⟩ (v4)).setCell ⟨B, 5, none⟩ (v5)) :=
  (((((h.setCell (p := ⟨B, 0, none⟩) hB _).setCell (p := ⟨B, 1, none⟩) hB _).setCell (p := ⟨B, 2, none⟩) hB _).setCell (p := ⟨B, 3, none⟩) hB _).setCell (p := ⟨B, 4, none⟩) hB _).setCell (p := ⟨B, 5, none⟩) hB _
theorem DidP.six {V : World} {lo hi : Nat} {mv bv rv m b r : Value} {d : Td} {C : Nat} {ok : Bool} {B : Nat} {v0 v1 v2 v3 v4 v5 : Value} (h : DidP V lo hi mv bv rv d C ok m b r) (hC : C ≤ 40) (hB : B < lo ∨ hi ≤ B) : DidP ((((((V.setCell ⟨B, 0, none⟩ (v0)).setCell ⟨B, 1, none⟩ (v1)).setCell ⟨B, 2, none⟩ (v2)).setCell ⟨B, 3, none⟩ (v3)).setCell ⟨B, 4, none⟩ (v4)).setCell ⟨B, 5, none⟩ (v5)) lo hi mv bv rv d C ok m b r :=
  (((((h.set hC hB).set hC hB).set hC hB).set hC hB).set hC hB).set hC hB
theorem six_size {V : World} {B : Nat} {v0 v1 v2 v3 v4 v5 : Value} : ((((((V.setCell ⟨B, 0, none⟩ (v0)).setCell ⟨B, 1, none⟩ (v1)).setCell ⟨B, 2, none⟩ (v2)).setCell ⟨B, 3, none⟩ (v3)).setCell ⟨B, 4, none⟩ (v4)).setCell ⟨B, 5, none⟩ (v5)).heap.size = V.heap.size := by simp

set_option maxHeartbeats 4000000 in
set_option maxRecDepth 20000 in
theorem picked_drain (ta : Option Addr) (tn tc : Nat) (a0 a1 : Int) (mv bv rv : Value) (d : Td) (p : Nat) (w : World) (h : Tv w mv bv rv d.zs tn d.L d.F tn d.Z) (ht : tokD d tn = true) (hp : tn ≤ p) (hp2 : p < 100) (htn : tn ≤ 2) :
    Calls Try.prog 32 #[.agg (run6 (.slice ta tn tc) a0 a1 mv bv rv), .int .i64 p] w (DidQ w (.slice ta tn tc) a0 a1 mv bv rv (nxt d tn 4 ((p : Int) - (tn : Int)) 0 0 0) tn (decide (okc d tn 4 ((p : Int) - (tn : Int)) 0 0 0 = 0))) := by
  obtain ⟨⟨ma, mc, rfl⟩, ⟨ba, bc, rfl⟩, ⟨ra, rc, rfl⟩⟩ := three_of h
  have HT := hide h
  clear h
  have HX := hide (Pbx.start w (run6 (.slice ta tn tc) a0 a1 (.slice ma d.zs.length mc) (.slice ba tn bc) (.slice ra tn rc)))
  obtain ⟨_, x0, x1, x2, x3, x4, x5⟩ := row6_facts HX.out.box
  have hth := fun W => threads_any ta tn tc W
  have hdr := fun W h => drained_u ta tn tc a0 a1 (.slice ma d.zs.length mc) (.slice ba tn bc) (.slice ra tn rc) d tn ((p : Int) - (tn : Int)) W h ht
  have hge : decide ((tn : Int) ≤ (p : Int)) = true := by simp; omega
  have hw1 : wrap64 ((p : Int) - (tn : Int)) = (p : Int) - (tn : Int) := Go.IntWalk.wrap64_in _ (by omega)
  have hw2 : IntKind.i64.wrap ((p : Int) - (tn : Int)) = (p : Int) - (tn : Int) := (Go.IntWalk.i64_left _).trans hw1
  generalize hok : decide (okc d tn 4 ((p : Int) - (tn : Int)) 0 0 0 = 0) = ok at *
  generalize hnx : nxt d tn 4 ((p : Int) - (tn : Int)) 0 0 0 = d' at *
  go_enter Try.func32, Try.ntmps32
  go_wp2_with fail
  refine (hth _).mono ?_
  rintro e w1 ⟨rfl, hb1⟩
  have HX1 := hide (HX.out.next hb1)
  clear x0 x1 x2 x3 x4 x5 hb1 HX
  obtain ⟨_, x0, x1, x2, x3, x4, x5⟩ := row6_facts HX1.out.box
  have hD : Below w1.heap.size w1 w1.drew := (Below.refl _ _).drew
  obtain ⟨_, y0, y1, y2, y3, y4, y5⟩ := row6_facts (HX1.out.next hD).box
  go_wp2
  go_region_held3 (fun w' => w'.cell? ⟨w.heap.size, 0, none⟩ = some (.slice ta tn tc) ∧ w'.cell? ⟨w.heap.size, 1, none⟩ = some (.int .i64 a0) ∧ w'.cell? ⟨w.heap.size, 2, none⟩ = some (.int .i64 a1) ∧ w'.cell? ⟨w.heap.size, 3, none⟩ = some (.slice ma d.zs.length mc) ∧ w'.cell? ⟨w.heap.size, 4, none⟩ = some (.slice ba tn bc) ∧ w'.cell? ⟨w.heap.size, 5, none⟩ = some (.slice ra tn rc)) (first | with_reducible exact ⟨y0, y1, y2, y3, y4, y5⟩ | with_reducible exact ⟨keepc hb2 y0, keepc hb2 y1, keepc hb2 y2, keepc hb2 y3, keepc hb2 y4, keepc hb2 y5⟩ | with_reducible exact ⟨keepc hb3 (keepc hb2 y0), keepc hb3 (keepc hb2 y1), keepc hb3 (keepc hb2 y2), keepc hb3 (keepc hb2 y3), keepc hb3 (keepc hb2 y4), keepc hb3 (keepc hb2 y5)⟩ | with_reducible exact ⟨six_far (keepc hb3 (keepc hb2 y0)) (by omega), six_far (keepc hb3 (keepc hb2 y1)) (by omega), six_far (keepc hb3 (keepc hb2 y2)) (by omega), six_far (keepc hb3 (keepc hb2 y3)) (by omega), six_far (keepc hb3 (keepc hb2 y4)) (by omega), six_far (keepc hb3 (keepc hb2 y5)) (by omega)⟩) (first | (go_at_call 24; refine (hth _).mono ?_; rintro e w2 ⟨rfl, hb2⟩) | (go_at_call 53; refine (hdr _ (HT.out.below ((HX1.out.next hD).next hb2).bel)).mono ?_; rintro e w3 ⟨ma1, mn1, mc1, ba1, bc1, ra1, rc1, rfl, hb3, hp3⟩; have HX3 := hide (((HX1.out.next hD).next hb2).next hb3); have HP3 := hide (And.intro hp3 ((HX1.out.next hD).next hb2).size); obtain ⟨f3, z0, z1, z2, z3, z4, z5⟩ := row6_facts HX3.out.ans))
  all_goals go_wp2
  all_goals refine bodyPost_ret (v := .tuple #[.agg (run6 (.slice ta tn tc) a0 a1 (.slice ma1 mn1 mc1) (.slice ba1 tn bc1) (.slice ra1 tn rc1)), .bool ok]) (by simp [results, Try.results32, go_sem, z0, z1, z2, z3, z4, z5]) rfl ?_
  all_goals exact ⟨_, _, _, _, _, _, _, rfl, six_below HX3.out.bel (by omega), by rw [six_size]; exact (HP3.out.1.six (by omega) (.inl (by have := HP3.out.2; omega))).mono (by have := HP3.out.2; omega) (Nat.le_refl _)⟩

set_option maxHeartbeats 4000000 in
set_option maxRecDepth 20000 in
theorem picked_end (ta : Option Addr) (tn tc : Nat) (L : Nat → Nat) (F : Nat → Nat → Nat → Int) (a0 a1 : Int) (ma ba ra : Option Addr) (mn mc bc rc : Nat) (p : Nat) (w : World) (hs : Sa w (.slice ta tn tc) tn L F) (hp : p < tn) (htn : tn ≤ 2) (he : ac a0 a1 p = (L p : Int)) :
    Calls Try.prog 32 #[.agg (run6 (.slice ta tn tc) a0 a1 (.slice ma mn mc) (.slice ba tn bc) (.slice ra tn rc)), .int .i64 p] w fun e w' => e = .returned (.tuple #[.agg (run6 (.slice ta tn tc) a0 a1 (.slice ma mn mc) (.slice ba tn bc) (.slice ra tn rc)), .bool false]) ∧ Below w.heap.size w w' := by
  have HS := hide hs
  clear hs
  have HX := hide (Pbx.start w (run6 (.slice ta tn tc) a0 a1 (.slice ma mn mc) (.slice ba tn bc) (.slice ra tn rc)))
  obtain ⟨_, x0, x1, x2, x3, x4, x5⟩ := row6_facts HX.out.box
  have hth := fun W => threads_any ta tn tc W
  have hen := fun W h => hasEnded_any ta tn tc L F a0 a1 ma ba ra mn mc tn bc tn rc p W h (by omega) hp
  rw [decide_eq_true he] at hen
  have hge : decide ((tn : Int) ≤ (p : Int)) = false := by simp; omega
  go_enter Try.func32, Try.ntmps32
  go_wp2_with fail
  refine (hth _).mono ?_
  rintro e w1 ⟨rfl, hb1⟩
  have HX1 := hide (HX.out.next hb1)
  clear x0 x1 x2 x3 x4 x5 hb1 HX
  obtain ⟨_, x0, x1, x2, x3, x4, x5⟩ := row6_facts HX1.out.box
  go_wp2_with fail
  refine (hen _ (HS.out.below HX1.out.bel)).mono ?_
  rintro e w2 ⟨rfl, hb2⟩
  have HX2 := hide (HX1.out.next hb2)
  clear x0 x1 x2 x3 x4 x5 hb2 HX1
  obtain ⟨_, x0, x1, x2, x3, x4, x5⟩ := row6_facts HX2.out.box
  obtain ⟨f3, z0, z1, z2, z3, z4, z5⟩ := row6_facts HX2.out.ans
  go_wp2
  refine bodyPost_ret (v := .tuple #[.agg (run6 (.slice ta tn tc) a0 a1 (.slice ma mn mc) (.slice ba tn bc) (.slice ra tn rc)), .bool false]) (by simp [results, Try.results32, go_sem, z0, z1, z2, z3, z4, z5]) rfl ⟨rfl, six_below HX2.out.bel (by omega)⟩

end Go.Proofs.Ytcocobmanlmjdaa
