/- LnkA -/
import Derived.Test.YtnkocikbapbbmaaYnkPlay0
import Derived.Test.YtnkocikbapbbmaaChecked
import Derived.WalkSmall
import Derived.BigQuiet
import Derived.Deep.QuietTactic
import Derived.Deep.RegionHeld
import Derived.Deep.RegionHeld3
/- rows of texts and of wires: read, copied, compared, not too large -/
namespace Go.Proofs.Ytnkocikbapbbmaa
open Go.RowKit
set_option linter.unusedVariables false
set_option linter.unusedSimpArgs false

theorem k6H {w w' : World} (hb : Below w.heap.size w w') {p0 p1 p2 p3 p4 p5 : Addr} {x0 x1 x2 x3 x4 x5 : Value} (h0 : w.cell? p0 = some x0) (h1 : w.cell? p1 = some x1) (h2 : w.cell? p2 = some x2) (h3 : w.cell? p3 = some x3) (h4 : w.cell? p4 = some x4) (h5 : w.cell? p5 = some x5) : w'.cell? p0 = some x0 ∧ w'.cell? p1 = some x1 ∧ w'.cell? p2 = some x2 ∧ w'.cell? p3 = some x3 ∧ w'.cell? p4 = some x4 ∧ w'.cell? p5 = some x5 := ⟨keepc hb h0, keepc hb h1, keepc hb h2, keepc hb h3, keepc hb h4, keepc hb h5⟩
section
variable {P : Program} {ops : Array Oper} {Q : Exit → Act → World → Prop} {md : Region.Mode} {S : World → Prop} {n : Nat} {o : Oper} {done : Array Bool} {a a' : Act} {w : World}
/-- in a region that draws: an operation that only reads, taken first; one that is passed over -/
theorem th (i : Nat) (v : Value) (hi : ops[i]? = some o) (h : ∀ w', S w' → (execOp a.eval o).run P w' = .ok (.value v) w') (k : True → wpAnyH P md ops Q S n (done.setIfInBounds i true) a' w) (hs : Region.noSelect ops = true := by kernel_rfl) (hf : Region.free md ops done i = true := by kernel_rfl) (hr : (Region.ready md ops done).contains i = true := by kernel_rfl) (hQ : ∀ c u w, Q (.panic c) (u.put o.dst v) w → Q (.panic c) u w := by intro _ _ _ h; exact h) (hw : Region.wanted o (yielded ops a.tmps) = true := by rfl) (hS : S w := by assumption)
    (hp : a.put o.dst v = a' := by simp only [Act.put, List.getElem_toArray, List.getElem_cons_zero, List.getElem_cons_succ, List.setIfInBounds_toArray, List.set_cons_zero, List.set_cons_succ]; rfl) : wpAnyH P md ops Q S (n + 1) done a w := by
  subst hp; exact wpAnyH_take hi hs hf hr hQ (.inl ⟨hw, h⟩) hS (k trivial)
theorem th0 (i : Nat) (v : Value) (hi : ops[i]? = some o) (k : True → wpAnyH P md ops Q S n (done.setIfInBounds i true) a' w) (h : ∀ w', S w' → (execOp a.eval o).run P w' = .ok (.value v) w' := by intro w' hSw; go_simp) (hs : Region.noSelect ops = true := by kernel_rfl) (hf : Region.free md ops done i = true := by kernel_rfl) (hr : (Region.ready md ops done).contains i = true := by kernel_rfl) (hQ : ∀ c u w, Q (.panic c) (u.put o.dst v) w → Q (.panic c) u w := by intro _ _ _ h; exact h) (hw : Region.wanted o (yielded ops a.tmps) = true := by rfl) (hS : S w := by assumption)
    (hp : a.put o.dst v = a' := by simp only [Act.put, List.getElem_toArray, List.getElem_cons_zero, List.getElem_cons_succ, List.setIfInBounds_toArray, List.set_cons_zero, List.set_cons_succ]; rfl) : wpAnyH P md ops Q S (n + 1) done a w := by
  subst hp; exact wpAnyH_take hi hs hf hr hQ (.inl ⟨hw, h⟩) hS (k trivial)
theorem thu (i : Nat) (hi : ops[i]? = some o) (k : True → wpAnyH P md ops Q S n (done.setIfInBounds i true) a' w) (hs : Region.noSelect ops = true := by kernel_rfl) (hf : Region.free md ops done i = true := by kernel_rfl) (hr : (Region.ready md ops done).contains i = true := by kernel_rfl) (hQ : ∀ c u w, Q (.panic c) (u.put o.dst undef) w → Q (.panic c) u w := by intro _ _ _ h; exact h) (hw : Region.wanted o (yielded ops a.tmps) = false := by kernel_rfl) (hS : S w := by assumption)
    (hp : a.put o.dst undef = a' := by simp only [Act.put, List.getElem_toArray, List.getElem_cons_zero, List.getElem_cons_succ, List.setIfInBounds_toArray, List.set_cons_zero, List.set_cons_succ]; rfl) : wpAnyH P md ops Q S (n + 1) done a w := by
  subst hp; exact wpAnyH_take hi hs hf hr hQ (.inr ⟨hw, rfl⟩) hS (k trivial)
end

/-- a row of n structs of m cells -/
def Sg (w : World) (v : Value) (m n : Nat) (f : Nat → Nat → Value) : Prop :=
  ∃ ad cap, v = .slice ad n cap ∧ (0 < n → ∃ b off, ad = some ⟨b, off, none⟩ ∧ ∀ j, j < n → ∀ i, i < m → w.cell? ⟨b, off + j * m + i, none⟩ = some (f j i))
theorem Sg.below {w w' : World} {v : Value} {m n : Nat} {f : Nat → Nat → Value} (h : Sg w v m n f) (hb : Below w.heap.size w w') : Sg w' v m n f := by
  obtain ⟨ad, cap, rfl, h⟩ := h
  refine ⟨ad, cap, rfl, fun hp => ?_⟩
  obtain ⟨b, off, rfl, hc⟩ := h hp
  exact ⟨b, off, rfl, fun j hj i hi => keepc hb (hc j hj i hi)⟩
/-- a copy, filled up to k -/
def Cr (w : World) (g : Nat) (T : TypeId) (m n k : Nat) (f : Nat → Nat → Value) : Prop :=
  ∃ cur : Array Value, w.heap[g]? = some (.cells cur T (0, 0)) ∧ cur.size = n * m ∧ ∀ j, j < k → ∀ i, i < m → cur[j * m + i]? = some (f j i)
theorem Cr.below {w w' : World} {g : Nat} {T : TypeId} {m n k : Nat} {f : Nat → Nat → Value} (h : Cr w g T m n k f) (hb : Below w.heap.size w w') : Cr w' g T m n k f := by
  obtain ⟨cur, h1, h2, h3⟩ := h
  exact ⟨cur, (hb.block g (lt_of_block h1)).trans h1, h2, h3⟩
theorem Cr.sg {w : World} {g : Nat} {T : TypeId} {m n : Nat} {f : Nat → Nat → Value} (h : Cr w g T m n n f) : Sg w (.slice (some ⟨g, 0, none⟩) n n) m n f := by
  obtain ⟨cur, h1, h2, h3⟩ := h
  refine ⟨_, n, rfl, fun _ => ⟨g, 0, rfl, fun j hj i hi => ?_⟩⟩
  rw [Nat.zero_add, cell_of_row _ _ _ _ _ _ h1]
  exact h3 j hj i hi
theorem Cr.other {w : World} {g B i : Nat} {T : TypeId} {m n k : Nat} {f : Nat → Nat → Value} {v : Value} (h : Cr w g T m n k f) (hB : g ≠ B) : Cr (w.setCell ⟨B, i, none⟩ v) g T m n k f := by
  obtain ⟨cur, h1, h2, h3⟩ := h
  exact ⟨cur, (heap_setCell_other _ _ _ _ hB).trans h1, h2, h3⟩
theorem Cr.facts {w : World} {g : Nat} {T : TypeId} {m n k : Nat} {f : Nat → Nat → Value} (h : Cr w g T m n k f) : (∀ i, w.frozen? ⟨g, i, none⟩ = false) ∧ ∀ x, x < n * m → ∃ o, w.cell? ⟨g, x, none⟩ = some o := by
  obtain ⟨cur, h1, h2, h3⟩ := h
  refine ⟨fun i => frozen_of_row _ _ i _ _ h1, fun x hx => ⟨cur[x], ?_⟩⟩
  rw [cell_of_row _ _ _ _ _ _ h1]
  exact Array.getElem?_eq_getElem (by omega)
theorem Cr.put1 {w : World} {g : Nat} {T : TypeId} {n k : Nat} {f : Nat → Nat → Value} (h : Cr w g T 1 n k f) (hk : k < n) : Cr (w.setCell ⟨g, k, none⟩ (f k 0)) g T 1 n (k + 1) f := by
  obtain ⟨cur, h1, h2, h3⟩ := h
  refine ⟨cur.setIfInBounds k (f k 0), heap_setCell_same w g k _ _ _ h1, by simpa using h2, fun j hj i hi => ?_⟩
  obtain rfl : i = 0 := by omega
  by_cases e : j = k
  · subst e
    rw [Nat.mul_one, Nat.add_zero, Array.getElem?_setIfInBounds_self_of_lt (by omega)]
  · rw [Array.getElem?_setIfInBounds_ne (by omega)]
    exact h3 j (by omega) 0 (by omega)
theorem Cr.put2 {w : World} {g : Nat} {T : TypeId} {n k : Nat} {f : Nat → Nat → Value} (h : Cr w g T 2 n k f) (hk : k < n) : Cr ((w.setCell ⟨g, k * 2, none⟩ (f k 0)).setCell ⟨g, k * 2 + 1, none⟩ (f k 1)) g T 2 n (k + 1) f := by
  obtain ⟨cur, h1, h2, h3⟩ := h
  refine ⟨(cur.setIfInBounds (k * 2) (f k 0)).setIfInBounds (k * 2 + 1) (f k 1), heap_setCell_same _ g _ _ _ _ (heap_setCell_same w g (k * 2) _ _ _ h1), by simpa using h2, fun j hj i hi => ?_⟩
  by_cases e : j = k
  · subst e
    match i, hi with
    | 0, _ =>
      rw [Array.getElem?_setIfInBounds_ne (by omega), Nat.add_zero, Array.getElem?_setIfInBounds_self_of_lt (by omega)]
    | 1, _ => rw [Array.getElem?_setIfInBounds_self_of_lt (by simp; omega)]
  · rw [Array.getElem?_setIfInBounds_ne (by omega), Array.getElem?_setIfInBounds_ne (by omega)]
    exact h3 j (by omega) i hi
theorem cr_start {w1 : World} {base g n m : Nat} {T : TypeId} {xs : List Value} {f : Nat → Nat → Value} (h : w1.ownsRow base T m (.slice (some ⟨g, 0, none⟩) n n) n xs) : Cr w1 g T m n 0 f := by
  rcases h.2 with ⟨h', _⟩ | ⟨g', cap', cur, h', _, hg, _, _, hcs, _⟩
  · simp at h'
  · simp only [Value.slice.injEq, Option.some.injEq, Addr.mk.injEq, and_true, true_and] at h'
    obtain ⟨rfl, rfl⟩ := h'
    exact ⟨cur, hg, by omega, fun c hc => by omega⟩

/-- the cells of texts, of wires -/
abbrev tF (s : Nat → ByteArray) : Nat → Nat → Value := fun j _ => .string (s j)
def wF (t : Nat → ByteArray) (h : Nat → Bool) : Nat → Nat → Value := fun j i => match i with
  | 0 => .string (t j)
  | _ => .bool (h j)
theorem infoStr : (Try.prog.info? 9).map (fun i => (i.zero, i.size, i.bytes)) = some (some (.string ⟨#[]⟩), 1, 16) := by kernel_rfl
theorem infoWi : (Try.prog.info? 73).map (fun i => (i.zero, i.size, i.bytes)) = some (some (.agg #[.string ⟨#[]⟩, .bool false]), 2, 24) := by kernel_rfl

set_option maxHeartbeats 2000000 in
theorem toTexts_any (v : Value) (n : Nat) (s : Nat → ByteArray) (w : World) (hs : Sg w v 1 n (tF s)) (hb : n ≤ 1048576) :
    Calls Try.prog 33 #[v] w fun e w' => ∃ g, e = .returned (.slice (some ⟨g, 0, none⟩) n n) ∧ w.heap.size ≤ g ∧ Cr w' g 9 1 n n (tF s) ∧ Below w.heap.size w w' := by
  obtain ⟨ad, cap, rfl, hs⟩ := hs
  obtain ⟨i0, hi, hz0, hz1, hz2⟩ := info_parts infoStr
  go_enter Try.func33, Try.ntmps33
  go_wp2_with (at_make; refine wpList_make_full _ rfl _ _ 22 rfl w.heap.size 9 i0 (.string ⟨#[]⟩) 1 Try.underlying22 hi hz0 hz1 .i64 .i64 n n n rfl rfl rfl rfl (by rw [hz2]; omega) (by unfold maxLen; omega) (Nat.le_refl _) ?_; intro w1 ho1 hg1)
  have ho : Cr w1 w.heap.size 9 1 n 0 (tF s) := cr_start ho1
  have hb1 : Below w.heap.size w w1 := (Below.refl _ _).grown hg1 (Nat.le_refl _) (fun k hk => by cases hk)
  clear ho1 hg1
  go_loopw [4] (fun i wr => ∃ k : Nat, k ≤ n ∧ i = .int .i64 k ∧ Hid (Cr wr w.heap.size 9 1 n k (tF s)) ∧ Hid (Below w.heap.size w wr)) (fun i _ => n - (intOf i).toNat)
  case atStart => exact ⟨0, Nat.zero_le _, rfl, hide ho, hide hb1⟩
  case round =>
    obtain ⟨k, hk, rfl, HO, HB⟩ := hrel
    clear ho hb1
    by_cases hlt : k < n
    · obtain ⟨b, off, rfl, hc⟩ := hs (by omega)
      have q0 : wr.cell? ⟨b, off + k, none⟩ = some (.string (s k)) := by
        have := Below.keep HB.out _ _ (hc k hlt 0 (by omega))
        rwa [Nat.mul_one, Nat.add_zero] at this
      obtain ⟨fr, hx⟩ := HO.out.facts
      obtain ⟨o, ho⟩ := hx k (by omega)
      have HO2 := hide (HO.out.put1 hlt)
      have HB2 : Hid (Below w.heap.size w (wr.setCell ⟨w.heap.size, k, none⟩ (.string (s k)))) := hide (HB.out.setCell (Nat.le_refl _) _)
      clear hs hc hx
      go_wp2
      go_roundw
      case rel => exact ⟨k + 1, by omega, by go_num, HO2, HB2⟩
      case measure => simp [intOf]; omega
    · go_wp2
      go_ret
      have e : k = n := by omega
      subst e
      exact ⟨_, rfl, Nat.le_refl _, HO.out, HB.out⟩

set_option maxHeartbeats 1000000 in
theorem toWire_any (t : ByteArray) (h : Bool) (w : World) :
    Calls Try.prog 53 #[.agg #[.string t, .bool h]] w fun e w' => e = .returned (.agg #[.string t, .bool h]) ∧ Below w.heap.size w w' := by
  go_enter Try.func53, Try.ntmps53
  go_wp2
  refine bodyPost_ret (v := .agg #[.string t, .bool h]) (by simp [results, Try.results53, go_sem]) rfl ⟨rfl, ?_⟩
  repeat' (first | exact Below.refl _ _ | refine Below.setCell ?_ (by simp <;> omega) _ | refine Below.alloc ?_ (by simp <;> omega) _)

set_option maxHeartbeats 2000000 in
theorem toWires_any (v : Value) (n : Nat) (t : Nat → ByteArray) (h : Nat → Bool) (w : World) (hs : Sg w v 2 n (wF t h)) (hb : n ≤ 1048576) :
    Calls Try.prog 34 #[v] w fun e w' => ∃ g, e = .returned (.slice (some ⟨g, 0, none⟩) n n) ∧ w.heap.size ≤ g ∧ Cr w' g 73 2 n n (wF t h) ∧ Below w.heap.size w w' := by
  obtain ⟨ad, cap, rfl, hs⟩ := hs
  obtain ⟨i0, hi, hz0, hz1, hz2⟩ := info_parts infoWi
  go_enter Try.func34, Try.ntmps34
  go_wp2_with (at_make; refine wpList_make_full _ rfl _ _ 28 rfl w.heap.size 73 i0 (.agg #[.string ⟨#[]⟩, .bool false]) 2 Try.underlying28 hi hz0 hz1 .i64 .i64 n n n rfl rfl rfl rfl (by rw [hz2]; omega) (by unfold maxLen; omega) (Nat.le_refl _) ?_; intro w1 ho1 hg1)
  have ho : Cr w1 w.heap.size 73 2 n 0 (wF t h) := cr_start ho1
  have hb1 : Below w.heap.size w w1 := (Below.refl _ _).grown hg1 (Nat.le_refl _) (fun k hk => by cases hk)
  clear ho1 hg1
  go_loopw [4] (fun i wr => ∃ k : Nat, k ≤ n ∧ i = .int .i64 k ∧ Hid (Cr wr w.heap.size 73 2 n k (wF t h)) ∧ Hid (Below w.heap.size w wr)) (fun i _ => n - (intOf i).toNat)
  case atStart => exact ⟨0, Nat.zero_le _, rfl, hide ho, hide hb1⟩
  case round =>
    obtain ⟨k, hk, rfl, HO, HB⟩ := hrel
    clear ho hb1
    by_cases hlt : k < n
    · obtain ⟨b, off, rfl, hc⟩ := hs (by omega)
      have q0 : wr.cell? ⟨b, off + k * 2, none⟩ = some (.string (t k)) := Below.keep HB.out _ _ (hc k hlt 0 (by omega))
      have q1 : wr.cell? ⟨b, off + k * 2 + 1, none⟩ = some (.bool (h k)) := Below.keep HB.out _ _ (hc k hlt 1 (by omega))
      clear hs hc
      go_wp2_with fail
      refine (toWire_any _ _ _).mono ?_
      rintro e w2 ⟨rfl, hb2⟩
      have HO2 := hide (HO.out.below hb2)
      have HB2 := hide (HB.out.trans (hb2.mono HB.out.size))
      obtain ⟨fr, hx⟩ := HO2.out.facts
      obtain ⟨o0, ho0⟩ := hx (k * 2) (by omega)
      obtain ⟨o1, ho1⟩ := hx (k * 2 + 1) (by omega)
      have HO3 : Hid (Cr ((w2.setCell ⟨w.heap.size, k * 2, none⟩ (.string (t k))).setCell ⟨w.heap.size, k * 2 + 1, none⟩ (.bool (h k))) w.heap.size 73 2 n (k + 1) (wF t h)) := hide (HO2.out.put2 hlt)
      have HB3 : Hid (Below w.heap.size w ((w2.setCell ⟨w.heap.size, k * 2, none⟩ (.string (t k))).setCell ⟨w.heap.size, k * 2 + 1, none⟩ (.bool (h k)))) := hide ((HB2.out.setCell (Nat.le_refl _) _).setCell (Nat.le_refl _) _)
      clear hx hb2 q0 q1
      go_wp2
      go_roundw
      case rel => exact ⟨k + 1, by omega, by go_num, HO3, HB3⟩
      case measure => simp [intOf]; omega
    · go_wp2
      go_ret
      have e : k = n := by omega
      subst e
      exact ⟨_, rfl, Nat.le_refl _, HO.out, HB.out⟩

theorem str_self (b : ByteArray) : (b.toList == b.toList) = true := by simp

set_option maxHeartbeats 2000000 in
theorem eqTexts_same (a b : Value) (n : Nat) (s : Nat → ByteArray) (w : World) (ha : Sg w a 1 n (tF s)) (hb : Sg w b 1 n (tF s)) (hl : n ≤ 1048576) :
    Calls Try.prog 38 #[a, b] w fun e w' => e = .returned (.bool true) ∧ Below w.heap.size w w' := by
  obtain ⟨ad, cap, rfl, ha⟩ := ha
  obtain ⟨bd, cbp, rfl, hb⟩ := hb
  go_enter Try.func38, Try.ntmps38
  go_wp2
  go_loopw [5] (fun i wr => ∃ k : Nat, k ≤ n ∧ i = .int .i64 k ∧ Below w.heap.size w wr) (fun i _ => n - (intOf i).toNat)
  case atStart => exact ⟨0, Nat.zero_le _, rfl, Below.refl _ _⟩
  case round =>
    obtain ⟨k, hk, rfl, hbk⟩ := hrel
    by_cases hlt : k < n
    · obtain ⟨p, off, rfl, hc⟩ := ha (by omega)
      obtain ⟨q, off', rfl, hd⟩ := hb (by omega)
      have hck : wr.cell? ⟨p, off + k, none⟩ = some (.string (s k)) := by
        have := Below.keep hbk _ _ (hc k hlt 0 (by omega))
        rwa [Nat.mul_one, Nat.add_zero] at this
      have hdk : wr.cell? ⟨q, off' + k, none⟩ = some (.string (s k)) := by
        have := Below.keep hbk _ _ (hd k hlt 0 (by omega))
        rwa [Nat.mul_one, Nat.add_zero] at this
      have hss := str_self (s k)
      generalize s k = z at hck hdk hss
      clear hc hd ha hb
      go_wp2
      go_quiet (fail)
      all_goals go_wp2
      all_goals go_roundw
      case rel => exact ⟨k + 1, by omega, by go_num, below_drewN hbk _⟩
      case measure => simp [intOf]; omega
    · go_wp2
      go_ret
      exact ⟨rfl, hbk⟩

set_option maxHeartbeats 1000000 in
theorem eqWire_same (t : ByteArray) (h : Bool) (w : World) : Calls Try.prog 56 #[.agg #[.string t, .bool h], .agg #[.string t, .bool h]] w fun e w' => e = .returned (.bool true) ∧ Below w.heap.size w w' := by
  have hss := str_self t
  cases h
  all_goals
    go_enter Try.func56, Try.ntmps56
    go_wp2
    go_ret
    exact ⟨rfl, ((Below.refl _ _).alloc (Nat.le_refl _) _).alloc (by simp) _⟩

theorem keep4 {w W W' : World} {p0 p1 p2 p3 : Addr} {x0 x1 x2 x3 : Value} (h : Below w.heap.size w W ∧ W.cell? p0 = some x0 ∧ W.cell? p1 = some x1 ∧ W.cell? p2 = some x2 ∧ W.cell? p3 = some x3) (hb : Below W.heap.size W W') : Below w.heap.size w W' ∧ W'.cell? p0 = some x0 ∧ W'.cell? p1 = some x1 ∧ W'.cell? p2 = some x2 ∧ W'.cell? p3 = some x3 := ⟨h.1.trans (hb.mono h.1.size), keepc hb h.2.1, keepc hb h.2.2.1, keepc hb h.2.2.2.1, keepc hb h.2.2.2.2⟩

set_option maxHeartbeats 2000000 in
theorem eqWires_same (a b : Value) (n : Nat) (t : Nat → ByteArray) (h : Nat → Bool) (w : World) (ha : Sg w a 2 n (wF t h)) (hb : Sg w b 2 n (wF t h)) (hl : n ≤ 1048576) :
    Calls Try.prog 39 #[a, b] w fun e w' => e = .returned (.bool true) ∧ Below w.heap.size w w' := by
  obtain ⟨ad, cap, rfl, ha⟩ := ha
  obtain ⟨bd, cbp, rfl, hb⟩ := hb
  go_enter Try.func39, Try.ntmps39
  go_wp2
  go_loopw [5] (fun i wr => ∃ k : Nat, k ≤ n ∧ i = .int .i64 k ∧ Below w.heap.size w wr) (fun i _ => n - (intOf i).toNat)
  case atStart => exact ⟨0, Nat.zero_le _, rfl, Below.refl _ _⟩
  case round =>
    obtain ⟨k, hk, rfl, hbk⟩ := hrel
    by_cases hlt : k < n
    · obtain ⟨p, off, rfl, hc⟩ := ha (by omega)
      obtain ⟨q, off', rfl, hd⟩ := hb (by omega)
      have c0 : wr.cell? ⟨p, off + k * 2, none⟩ = some (.string (t k)) := Below.keep hbk _ _ (hc k hlt 0 (by decide))
      have c1 : wr.cell? ⟨p, off + k * 2 + 1, none⟩ = some (.bool (h k)) := Below.keep hbk _ _ (hc k hlt 1 (by decide))
      have d0 : wr.cell? ⟨q, off' + k * 2, none⟩ = some (.string (t k)) := Below.keep hbk _ _ (hd k hlt 0 (by decide))
      have d1 : wr.cell? ⟨q, off' + k * 2 + 1, none⟩ = some (.bool (h k)) := Below.keep hbk _ _ (hd k hlt 1 (by decide))
      generalize t k = tk at c0 d0
      generalize h k = hk' at c1 d1
      clear hc hd ha hb
      have hk0 : (0 : Int) ≤ (k : Int) := by omega
      have hk1 : (k : Int) < (n : Int) := by omega
      go_wp2
      go_region_held3 (fun w' => Below w.heap.size w w' ∧ w'.cell? ⟨p, off + k * 2, none⟩ = some (.string tk) ∧ w'.cell? ⟨p, off + k * 2 + 1, none⟩ = some (.bool hk') ∧ w'.cell? ⟨q, off' + k * 2, none⟩ = some (.string tk) ∧ w'.cell? ⟨q, off' + k * 2 + 1, none⟩ = some (.bool hk')) (first | exact ⟨hbk.drew, c0, c1, d0, d1⟩ | exact keep4 (by assumption) hbc) (first | (go_at_call 56; refine (eqWire_same _ _ _).mono ?_; rintro e w2 ⟨rfl, hbc⟩))
      all_goals go_wp2
      all_goals rename_i hS
      all_goals go_roundw
      case rel => exact ⟨k + 1, by omega, by go_num, hS.1⟩
      case measure => simp [intOf]; omega
    · go_wp2
      go_ret
      exact ⟨rfl, hbk⟩

end Go.Proofs.Ytnkocikbapbbmaa
