/- LyA -/
import Derived.Test.YtnkocikbapbbmaaYnkPlay50
import Derived.Test.YtnkocikbapbbmaaYnkPlay52
/- rows of acts of a link: not too large, copied, compared, marked; codes compared, marked, found; opened -/
namespace Go.Proofs.Ytnkocikbapbbmaa
open Go.RowKit
open Go.ChangeShapes Go.WideShapes Go.ChangeAt Go.WideMaps Go.WideElems
set_option linter.unusedVariables false
set_option linter.unusedSimpArgs false

set_option maxHeartbeats 1000000 in
theorem szLAct_lt (k z bit : Int) (t : ByteArray) (left : Int) (w : World) (h0 : 0 ≤ left) (hm : left ≤ 1048576) (hl : (t.size : Int) ≤ 9223372036854775807) :
    Calls Try.prog 12 #[.agg (a4 k z bit t), .int .i64 left] w fun e w' => e = .returned (.int .i64 (if left < t.size then -1 else left - t.size)) ∧ Below w.heap.size w w' := by
  have hw : wrap64 (left - (t.size : Int)) = left - t.size := Go.IntWalk.wrap64_in _ (by omega)
  by_cases hx : left < t.size
  · have hd : decide (left - (t.size : Int) < 0) = true := by simp; omega
    rw [if_pos hx]
    go_enter Try.func12, Try.ntmps12
    go_wp2
    go_ret
    exact ⟨rfl, (Below.refl _ _).alloc (Nat.le_refl _) _⟩
  · have hd : decide (left - (t.size : Int) < 0) = false := by simp; omega
    rw [if_neg hx]
    go_enter Try.func12, Try.ntmps12
    go_wp2
    go_ret
    exact ⟨rfl, (Below.refl _ _).alloc (Nat.le_refl _) _⟩
theorem act4 {w : World} {b off : Nat} {s : Nat → Ac4} {k : Nat} (h : ∀ i, i < 4 → w.cell? ⟨b, off + k * 4 + i, none⟩ = some (aF s k i)) : w.cell? ⟨b, off + k * 4, none⟩ = some (.int .i64 (s k).k) ∧ w.cell? ⟨b, off + k * 4 + 1, none⟩ = some (.int .i64 (s k).z) ∧ w.cell? ⟨b, off + k * 4 + 2, none⟩ = some (.int .i64 (s k).b) ∧ w.cell? ⟨b, off + k * 4 + 3, none⟩ = some (.string (s k).d) :=
  ⟨h 0 (by decide), h 1 (by decide), h 2 (by decide), h 3 (by decide)⟩

set_option maxHeartbeats 2000000 in
theorem szLActs_any (v : Value) (n : Nat) (s : Nat → Ac4) (left : Int) (w : World) (h0 : 0 ≤ left) (hm : left ≤ 1048576) (hs : Sg w v 4 n (aF s)) (hn : (n : Int) ≤ 9223372036854775807) (hl : ∀ j, j < n → ((s j).d.size : Int) ≤ 9223372036854775807) :
    Calls Try.prog 18 #[v, .int .i64 left] w fun e w' => ∃ r : Int, e = .returned (.int .i64 r) ∧ (-1 ≤ r ∧ r ≤ left) ∧ (0 ≤ r → n ≤ 1048576) ∧ Below w.heap.size w w' := by
  obtain ⟨ad, cap, rfl, hs⟩ := hs
  have hw : wrap64 (left - (n : Int)) = left - n := Go.IntWalk.wrap64_in _ (by omega)
  by_cases h : left < n
  · have hd : decide (left - (n : Int) < 0) = true := by simp; omega
    clear hs hl
    go_enter Try.func18, Try.ntmps18
    go_wp2
    go_ret
    exact ⟨-1, rfl, by omega, fun h => by omega, Below.refl _ _⟩
  · have hd : decide (left - (n : Int) < 0) = false := by simp; omega
    go_enter Try.func18, Try.ntmps18
    go_wp2
    clear hw hd
    go_loopw [1, 5] (fun l i wr => ∃ (k : Nat) (r : Int), k ≤ n ∧ i = .int .i64 k ∧ l = .int .i64 r ∧ 0 ≤ r ∧ r ≤ left ∧ Hid (Below w.heap.size w wr)) (fun _ i _ => n - (intOf i).toNat)
    case atStart => exact ⟨0, left - n, Nat.zero_le _, rfl, rfl, by omega, by omega, hide (Below.refl _ _)⟩
    case round =>
      obtain ⟨k, r, hk, rfl, rfl, hr0, hrl, HB⟩ := hrel
      by_cases hlt : k < n
      · obtain ⟨p, off, rfl, hc⟩ := hs (by omega)
        obtain ⟨q0, q1, q2, q3⟩ := act4 (fun i hi => keepc HB.out (hc k hlt i hi))
        have hLk := hl k hlt
        have hk0 : (0 : Int) ≤ (k : Int) := by omega
        have hk1 : (k : Int) < (n : Int) := by omega
        clear hs hc hl
        generalize (s k).k = ak at q0
        generalize (s k).z = az at q1
        generalize (s k).b = ab at q2
        generalize (s k).d = tk at q3 hLk
        go_wp2_with fail
        refine (szLAct_lt ak az ab tk r _ hr0 (by omega) hLk).mono ?_
        rintro e w2 ⟨rfl, hb2⟩
        have HB2 := hide (HB.out.trans (hb2.mono HB.out.size))
        clear hb2 q0 q1 q2 q3
        by_cases hx : r < tk.size
        · rw [if_pos hx]
          go_wp2
          go_ret
          exact ⟨-1, rfl, by omega, fun h => by omega, HB2.out⟩
        · rw [if_neg hx]
          have hd : decide (r - (tk.size : Int) < 0) = false := by simp; omega
          go_wp2
          go_roundw
          case rel => exact ⟨k + 1, r - tk.size, by omega, by go_num, rfl, by omega, by omega, HB2⟩
          case measure => simp [intOf]; omega
      · clear hs
        go_wp2
        go_ret
        exact ⟨r, rfl, by omega, fun _ => by omega, HB.out⟩

theorem Cr.put4 {w : World} {g : Nat} {T : TypeId} {n k : Nat} {f : Nat → Nat → Value} (h : Cr w g T 4 n k f) (hk : k < n) : Cr ((((w.setCell ⟨g, k * 4, none⟩ (f k 0)).setCell ⟨g, k * 4 + 1, none⟩ (f k 1)).setCell ⟨g, k * 4 + 2, none⟩ (f k 2)).setCell ⟨g, k * 4 + 3, none⟩ (f k 3)) g T 4 n (k + 1) f := by
  obtain ⟨cur, h1, h2, h3⟩ := h
  refine ⟨(((cur.setIfInBounds (k * 4) (f k 0)).setIfInBounds (k * 4 + 1) (f k 1)).setIfInBounds (k * 4 + 2) (f k 2)).setIfInBounds (k * 4 + 3) (f k 3), heap_setCell_same _ g _ _ _ _ (heap_setCell_same _ g _ _ _ _ (heap_setCell_same _ g _ _ _ _ (heap_setCell_same w g (k * 4) _ _ _ h1))), by simpa using h2, fun j hj i hi => ?_⟩
  by_cases e : j = k
  · subst e
    match i, hi with
    | 0, _ =>
      rw [Array.getElem?_setIfInBounds_ne (by omega), Array.getElem?_setIfInBounds_ne (by omega), Array.getElem?_setIfInBounds_ne (by omega), Nat.add_zero, Array.getElem?_setIfInBounds_self_of_lt (by omega)]
    | 1, _ => rw [Array.getElem?_setIfInBounds_ne (by omega), Array.getElem?_setIfInBounds_ne (by omega), Array.getElem?_setIfInBounds_self_of_lt (by simp; omega)]
    | 2, _ => rw [Array.getElem?_setIfInBounds_ne (by omega), Array.getElem?_setIfInBounds_self_of_lt (by simp; omega)]
    | 3, _ => rw [Array.getElem?_setIfInBounds_self_of_lt (by simp; omega)]
  · rw [Array.getElem?_setIfInBounds_ne (by omega), Array.getElem?_setIfInBounds_ne (by omega), Array.getElem?_setIfInBounds_ne (by omega), Array.getElem?_setIfInBounds_ne (by omega)]
    exact h3 j (by omega) i hi
theorem infoActA : (Try.prog.info? 39).map (fun i => (i.zero, i.size, i.bytes)) = some (some (.agg #[.int .i64 0, .int .i64 0, .int .i64 0, .string ⟨#[]⟩]), 4, 40) := by kernel_rfl

set_option maxHeartbeats 4000000 in
theorem toLActs_any (v : Value) (n : Nat) (s : Nat → Ac4) (w : World) (hs : Sg w v 4 n (aF s)) (hb : n ≤ 1048576) :
    Calls Try.prog 20 #[v] w fun e w' => ∃ g, e = .returned (.slice (some ⟨g, 0, none⟩) n n) ∧ w.heap.size ≤ g ∧ Cr w' g 39 4 n n (aF s) ∧ Below w.heap.size w w' := by
  obtain ⟨ad, cap, rfl, hs⟩ := hs
  obtain ⟨i0, hi, hz0, hz1, hz2⟩ := info_parts infoActA
  go_enter Try.func20, Try.ntmps20
  go_wp2_with (at_make; refine wpList_make_full _ rfl _ _ 48 rfl w.heap.size 39 i0 (.agg #[.int .i64 0, .int .i64 0, .int .i64 0, .string ⟨#[]⟩]) 4 Try.underlying48 hi hz0 hz1 .i64 .i64 n n n rfl rfl rfl rfl (by rw [hz2]; omega) (by unfold maxLen; omega) (Nat.le_refl _) ?_; intro w1 ho1 hg1)
  have ho : Cr w1 w.heap.size 39 4 n 0 (aF s) := cr_start ho1
  have hb1 : Below w.heap.size w w1 := (Below.refl _ _).grown hg1 (Nat.le_refl _) (fun k hk => by cases hk)
  clear ho1 hg1
  go_loopw [4] (fun i wr => ∃ k : Nat, k ≤ n ∧ i = .int .i64 k ∧ Hid (Cr wr w.heap.size 39 4 n k (aF s)) ∧ Hid (Below w.heap.size w wr)) (fun i _ => n - (intOf i).toNat)
  case atStart => exact ⟨0, Nat.zero_le _, rfl, hide ho, hide hb1⟩
  case round =>
    obtain ⟨k, hk, rfl, HO, HB⟩ := hrel
    clear ho hb1
    by_cases hlt : k < n
    · obtain ⟨b, off, rfl, hc⟩ := hs (by omega)
      obtain ⟨q0, q1, q2, q3⟩ := act4 (fun i hi => Below.keep HB.out _ _ (hc k hlt i hi))
      clear hs hc
      go_wp2_with fail
      refine (toLAct_any _ _ _ _ _).mono ?_
      rintro e w2 ⟨rfl, hb2⟩
      have HO2 := hide (HO.out.below hb2)
      have HB2 := hide (HB.out.trans (hb2.mono HB.out.size))
      obtain ⟨fr, hx⟩ := HO2.out.facts
      obtain ⟨o0, ho0⟩ := hx (k * 4) (by omega)
      obtain ⟨o1, ho1⟩ := hx (k * 4 + 1) (by omega)
      obtain ⟨o2, ho2⟩ := hx (k * 4 + 2) (by omega)
      obtain ⟨o3, ho3⟩ := hx (k * 4 + 3) (by omega)
      have HO3 : Hid (Cr ((((w2.setCell ⟨w.heap.size, k * 4, none⟩ (.int .i64 (s k).k)).setCell ⟨w.heap.size, k * 4 + 1, none⟩ (.int .i64 (s k).z)).setCell ⟨w.heap.size, k * 4 + 2, none⟩ (.int .i64 (s k).b)).setCell ⟨w.heap.size, k * 4 + 3, none⟩ (.string (s k).d)) w.heap.size 39 4 n (k + 1) (aF s)) := hide (HO2.out.put4 hlt)
      have HB3 : Hid (Below w.heap.size w ((((w2.setCell ⟨w.heap.size, k * 4, none⟩ (.int .i64 (s k).k)).setCell ⟨w.heap.size, k * 4 + 1, none⟩ (.int .i64 (s k).z)).setCell ⟨w.heap.size, k * 4 + 2, none⟩ (.int .i64 (s k).b)).setCell ⟨w.heap.size, k * 4 + 3, none⟩ (.string (s k).d))) := hide ((((HB2.out.setCell (Nat.le_refl _) _).setCell (Nat.le_refl _) _).setCell (Nat.le_refl _) _).setCell (Nat.le_refl _) _)
      clear hx hb2 q0 q1 q2 q3
      go_wp2
      go_roundw
      case rel => exact ⟨k + 1, by omega, by go_num, HO3, HB3⟩
      case measure => simp [intOf]; omega
    · go_wp2
      go_ret
      have e : k = n := by omega
      subst e
      exact ⟨_, rfl, Nat.le_refl _, HO.out, HB.out⟩

set_option maxHeartbeats 1000000 in
theorem eqLAct_same (k z b : Int) (t : ByteArray) (w : World) : Calls Try.prog 48 #[.agg (a4 k z b t), .agg (a4 k z b t)] w fun e w' => e = .returned (.bool true) ∧ Below w.heap.size w w' := by
  have hss := str_self t
  go_enter Try.func48, Try.ntmps48
  go_wp2
  go_ret
  exact ⟨rfl, ((Below.refl _ _).alloc (Nat.le_refl _) _).alloc (by simp) _⟩
theorem keep8 {w W W' : World} {p0 p1 p2 p3 p4 p5 p6 p7 : Addr} {x0 x1 x2 x3 x4 x5 x6 x7 : Value} (h : Below w.heap.size w W ∧ W.cell? p0 = some x0 ∧ W.cell? p1 = some x1 ∧ W.cell? p2 = some x2 ∧ W.cell? p3 = some x3 ∧ W.cell? p4 = some x4 ∧ W.cell? p5 = some x5 ∧ W.cell? p6 = some x6 ∧ W.cell? p7 = some x7) (hb : Below W.heap.size W W') : Below w.heap.size w W' ∧ W'.cell? p0 = some x0 ∧ W'.cell? p1 = some x1 ∧ W'.cell? p2 = some x2 ∧ W'.cell? p3 = some x3 ∧ W'.cell? p4 = some x4 ∧ W'.cell? p5 = some x5 ∧ W'.cell? p6 = some x6 ∧ W'.cell? p7 = some x7 :=
  ⟨h.1.trans (hb.mono h.1.size), keepc hb h.2.1, keepc hb h.2.2.1, keepc hb h.2.2.2.1, keepc hb h.2.2.2.2.1, keepc hb h.2.2.2.2.2.1, keepc hb h.2.2.2.2.2.2.1, keepc hb h.2.2.2.2.2.2.2.1, keepc hb h.2.2.2.2.2.2.2.2⟩

set_option maxHeartbeats 4000000 in
theorem eqLActs_same (a b : Value) (n : Nat) (s : Nat → Ac4) (w : World) (ha : Sg w a 4 n (aF s)) (hb : Sg w b 4 n (aF s)) (hl : n ≤ 1048576) :
    Calls Try.prog 23 #[a, b] w fun e w' => e = .returned (.bool true) ∧ Below w.heap.size w w' := by
  obtain ⟨ad, cap, rfl, ha⟩ := ha
  obtain ⟨bd, cbp, rfl, hb⟩ := hb
  go_enter Try.func23, Try.ntmps23
  go_wp2
  go_loopw [5] (fun i wr => ∃ k : Nat, k ≤ n ∧ i = .int .i64 k ∧ Below w.heap.size w wr) (fun i _ => n - (intOf i).toNat)
  case atStart => exact ⟨0, Nat.zero_le _, rfl, Below.refl _ _⟩
  case round =>
    obtain ⟨k, hk, rfl, hbk⟩ := hrel
    by_cases hlt : k < n
    · obtain ⟨p, off, rfl, hc⟩ := ha (by omega)
      obtain ⟨q, off', rfl, hd⟩ := hb (by omega)
      obtain ⟨c0, c1, c2, c3⟩ := act4 (fun i hi => Below.keep hbk _ _ (hc k hlt i hi))
      obtain ⟨d0, d1, d2, d3⟩ := act4 (fun i hi => Below.keep hbk _ _ (hd k hlt i hi))
      generalize (s k).k = ak at c0 d0
      generalize (s k).z = az at c1 d1
      generalize (s k).b = ab at c2 d2
      generalize (s k).d = tk at c3 d3
      clear hc hd ha hb
      have hk0 : (0 : Int) ≤ (k : Int) := by omega
      have hk1 : (k : Int) < (n : Int) := by omega
      go_wp2
      go_region_held3 (fun w' => Below w.heap.size w w' ∧ w'.cell? ⟨p, off + k * 4, none⟩ = some (.int .i64 ak) ∧ w'.cell? ⟨p, off + k * 4 + 1, none⟩ = some (.int .i64 az) ∧ w'.cell? ⟨p, off + k * 4 + 2, none⟩ = some (.int .i64 ab) ∧ w'.cell? ⟨p, off + k * 4 + 3, none⟩ = some (.string tk) ∧ w'.cell? ⟨q, off' + k * 4, none⟩ = some (.int .i64 ak) ∧ w'.cell? ⟨q, off' + k * 4 + 1, none⟩ = some (.int .i64 az) ∧ w'.cell? ⟨q, off' + k * 4 + 2, none⟩ = some (.int .i64 ab) ∧ w'.cell? ⟨q, off' + k * 4 + 3, none⟩ = some (.string tk)) (first | exact ⟨hbk.drew, c0, c1, c2, c3, d0, d1, d2, d3⟩ | exact keep8 (by assumption) hbc) (first | (go_at_call 48; refine (eqLAct_same _ _ _ _ _).mono ?_; rintro e w2 ⟨rfl, hbc⟩))
      all_goals go_wp2
      all_goals rename_i hS
      all_goals go_roundw
      case rel => exact ⟨k + 1, by omega, by go_num, hS.1⟩
      case measure => simp [intOf]; omega
    · go_wp2
      go_ret
      exact ⟨rfl, hbk⟩

set_option maxHeartbeats 2000000 in
theorem eqInts_same (a b : Value) (n : Nat) (c : Nat → Int) (w : World) (ha : Sg w a 1 n (iF c)) (hb : Sg w b 1 n (iF c)) (hl : n ≤ 1048576) :
    Calls Try.prog 22 #[a, b] w fun e w' => e = .returned (.bool true) ∧ Below w.heap.size w w' := by
  obtain ⟨ad, cap, rfl, ha⟩ := ha
  obtain ⟨bd, cbp, rfl, hb⟩ := hb
  go_enter Try.func22, Try.ntmps22
  go_wp2
  go_loopw [5] (fun i wr => ∃ k : Nat, k ≤ n ∧ i = .int .i64 k ∧ Below w.heap.size w wr) (fun i _ => n - (intOf i).toNat)
  case atStart => exact ⟨0, Nat.zero_le _, rfl, Below.refl _ _⟩
  case round =>
    obtain ⟨k, hk, rfl, hbk⟩ := hrel
    by_cases hlt : k < n
    · obtain ⟨p, off, rfl, hc⟩ := ha (by omega)
      obtain ⟨q, off', rfl, hd⟩ := hb (by omega)
      have hck : wr.cell? ⟨p, off + k, none⟩ = some (.int .i64 (c k)) := by
        have := Below.keep hbk _ _ (hc k hlt 0 (by omega))
        rwa [Nat.mul_one, Nat.add_zero] at this
      have hdk : wr.cell? ⟨q, off' + k, none⟩ = some (.int .i64 (c k)) := by
        have := Below.keep hbk _ _ (hd k hlt 0 (by omega))
        rwa [Nat.mul_one, Nat.add_zero] at this
      generalize c k = z at hck hdk
      clear hc hd ha hb
      go_wp2
      go_quiet (fail)
      all_goals go_wp2
      all_goals go_roundw
      case rel => exact ⟨k + 1, by omega, by go_num, below_drewN hbk _⟩
      case measure => simp [intOf]; omega
    · go_wp2
      go_ret
      exact ⟨rfl, hbk⟩

set_option maxHeartbeats 4000000 in
theorem markLActs_w (g n : Nat) (k0 : Int) (w : World) (hw : Wc w g (n * 4)) (hn : n ≤ 1048576) (h0 : 0 < k0) (h1 : k0 ≤ 5000000) :
    Calls Try.prog 24 #[sln g n, .int .i64 k0] w fun e w' => e = .returned (.int .i64 (k0 + 4 * n)) ∧ Mv (fun x => x = g) w w' := by
  go_enter Try.func24, Try.ntmps24
  go_wp2
  go_loopw [1, 5] (fun t i wr => ∃ j : Nat, j ≤ n ∧ i = .int .i64 j ∧ t = .int .i64 (k0 + 4 * j) ∧ Hid (Mv (fun x => x = g) w wr ∧ Wc wr g (n * 4))) (fun _ i _ => n - (intOf i).toNat)
  case atStart => exact ⟨0, Nat.zero_le _, rfl, by simp, hide ⟨Mv.refl _ _, hw⟩⟩
  case round =>
    clear hw
    obtain ⟨j, hj, rfl, rfl, HI⟩ := hrel
    by_cases hlt : j < n
    · obtain ⟨fr, hx⟩ := HI.out.2.facts
      have hgl := HI.out.2.lt
      obtain ⟨o0, ho0⟩ := hx (j * 4) (by omega)
      obtain ⟨o1, ho1⟩ := hx (j * 4 + 1) (by omega)
      obtain ⟨o2, ho2⟩ := hx (j * 4 + 2) (by omega)
      obtain ⟨o3, ho3⟩ := hx (j * 4 + 3) (by omega)
      have HT := hide (fun W => markText_any (k0 + 4 * j + 1 + 1 + 1) W (by omega) (by omega))
      generalize mT (k0 + 4 * j + 1 + 1 + 1) = tx at HT
      have HN : Hid (∀ x y z u W2, Below (((wr.setCell ⟨g, j * 4, none⟩ x).setCell ⟨g, j * 4 + 1, none⟩ y).setCell ⟨g, j * 4 + 2, none⟩ z).heap.size (((wr.setCell ⟨g, j * 4, none⟩ x).setCell ⟨g, j * 4 + 1, none⟩ y).setCell ⟨g, j * 4 + 2, none⟩ z) W2 → W2.frozen? ⟨g, j * 4 + 3, none⟩ = false ∧ (∃ o, W2.cell? ⟨g, j * 4 + 3, none⟩ = some o) ∧ Mv (fun x => x = g) w (W2.setCell ⟨g, j * 4 + 3, none⟩ u) ∧ Wc (W2.setCell ⟨g, j * 4 + 3, none⟩ u) g (n * 4)) := hide (fun x y z u W2 hb => by
        have hm := ((HI.out.1.set (j * 4) x).set (j * 4 + 1) y).set (j * 4 + 2) z
        have hq := (((HI.out.2.set (i := j * 4) x).set (i := j * 4 + 1) y).set (i := j * 4 + 2) z).below hb
        exact ⟨hq.facts.1 _, hq.facts.2 _ (by omega), (hm.step (Mv.of_below hb) (fun _ _ h => h.elim)).set _ _, hq.set _⟩)
      clear HI hx
      have hj0 : (0 : Int) ≤ (j : Int) := by omega
      have hjn : (j : Int) < (n : Int) := by omega
      go_wp2_with fail
      refine (HT.out _).mono ?_
      rintro e W2 ⟨rfl, hb⟩
      obtain ⟨f3, ⟨o4, c4⟩, n1, n2⟩ := HN.out _ _ _ (.string tx) W2 hb
      have HI := hide (And.intro n1 n2)
      clear HN HT fr ho0 ho1 ho2 ho3 hb n1 n2
      go_wp2
      go_roundw
      case rel => exact ⟨j + 1, by omega, by go_num, by go_num, HI⟩
      case measure => simp [intOf]; omega
    · have e : j = n := by omega
      subst e
      go_wp2
      go_ret
      exact ⟨rfl, HI.out.1⟩

end Go.Proofs.Ytnkocikbapbbmaa
