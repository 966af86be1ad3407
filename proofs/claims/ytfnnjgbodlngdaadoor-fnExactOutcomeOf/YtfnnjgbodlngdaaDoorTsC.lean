/- buffers: sizes; compared (written by mkTsC.py) -/
import Derived.Test.YtfnnjgbodlngdaaDoorTsB
namespace Go.Proofs.YtfnnjgbodlngdaaDoor
open Go.RowKit
set_option linter.unusedVariables false
set_option linter.unusedSimpArgs false

set_option maxHeartbeats 400000 in
theorem szI_no (sa : Option Addr) (sn sc : Nat) (left : Int) (w : World) (h0 : 0 ≤ left) (hm : left ≤ 1048576) (hL : (sn : Int) ≤ 9223372036854775807) (h : left < sn) :
    Calls Tryd.prog 28 #[.slice sa sn sc, .int .i64 left] w fun e w' => e = .returned (.int .i64 (-1)) ∧ w' = w := by
  have hw : wrap64 (left - (sn : Int)) = left - sn := Go.IntWalk.wrap64_in _ (by omega)
  have hd : decide (left - (sn : Int) < 0) = true := by simp; omega
  go_enter Tryd.func28, Tryd.ntmps28
  go_wp2
  go_ret
  exact ⟨rfl, rfl⟩
set_option maxHeartbeats 400000 in
theorem szI_yes (sa : Option Addr) (sn sc : Nat) (left : Int) (w : World) (h0 : 0 ≤ left) (hm : left ≤ 1048576) (h : (sn : Int) ≤ left) :
    Calls Tryd.prog 28 #[.slice sa sn sc, .int .i64 left] w fun e w' => e = .returned (.int .i64 (left - sn)) ∧ w' = w := by
  have hw : wrap64 (left - (sn : Int)) = left - sn := Go.IntWalk.wrap64_in _ (by omega)
  have hd : decide (left - (sn : Int) < 0) = false := by simp; omega
  go_enter Tryd.func28, Tryd.ntmps28
  go_wp2
  go_ret
  exact ⟨rfl, rfl⟩
set_option maxHeartbeats 400000 in
theorem szS_no (sa : Option Addr) (sn sc : Nat) (left : Int) (w : World) (h0 : 0 ≤ left) (hm : left ≤ 1048576) (hL : (sn : Int) ≤ 9223372036854775807) (h : left < sn) :
    Calls Tryd.prog 59 #[.slice sa sn sc, .int .i64 left] w fun e w' => e = .returned (.int .i64 (-1)) ∧ w' = w := by
  have hw : wrap64 (left - (sn : Int)) = left - sn := Go.IntWalk.wrap64_in _ (by omega)
  have hd : decide (left - (sn : Int) < 0) = true := by simp; omega
  go_enter Tryd.func59, Tryd.ntmps59
  go_wp2
  go_ret
  exact ⟨rfl, rfl⟩
set_option maxHeartbeats 400000 in
theorem szS_yes (sa : Option Addr) (sn sc : Nat) (left : Int) (w : World) (h0 : 0 ≤ left) (hm : left ≤ 1048576) (h : (sn : Int) ≤ left) :
    Calls Tryd.prog 59 #[.slice sa sn sc, .int .i64 left] w fun e w' => e = .returned (.int .i64 (left - sn)) ∧ w' = w := by
  have hw : wrap64 (left - (sn : Int)) = left - sn := Go.IntWalk.wrap64_in _ (by omega)
  have hd : decide (left - (sn : Int) < 0) = false := by simp; omega
  go_enter Tryd.func59, Tryd.ntmps59
  go_wp2
  go_ret
  exact ⟨rfl, rfl⟩

-- what is not too much is small; below 0: too much
set_option maxHeartbeats 2000000 in
theorem szStoreSS_any (v : Value) (C : Nat) (L : Nat → Nat) (F : Nat → Nat → Nat → Int) (left : Int) (w : World) (h0 : 0 ≤ left) (hm : left ≤ 1048576) (hs : Ss w v C L F) (hC : (C : Int) ≤ 9223372036854775807) (hL : ∀ c, c < C → (L c : Int) ≤ 9223372036854775807) :
    Calls Tryd.prog 29 #[v, .int .i64 left] w fun e w' => ∃ r : Int, e = .returned (.int .i64 r) ∧ (-1 ≤ r ∧ r ≤ left) ∧ (0 ≤ r → C ≤ 1048576 ∧ ∀ c, c < C → L c ≤ 1048576) ∧ Below w.heap.size w w' := by
  obtain ⟨ad, cap, rfl, hs⟩ := hs
  have hw : wrap64 (left - (C : Int)) = left - C := Go.IntWalk.wrap64_in _ (by omega)
  by_cases h : left < C
  · have hd : decide (left - (C : Int) < 0) = true := by simp; omega
    clear hs
    go_enter Tryd.func29, Tryd.ntmps29
    go_wp2
    go_ret
    exact ⟨-1, rfl, by omega, fun h => by omega, Below.refl _ _⟩
  · have hd : decide (left - (C : Int) < 0) = false := by simp; omega
    go_enter Tryd.func29, Tryd.ntmps29
    go_wp2
    clear hw hd
    go_loopw [1, 5] (fun l i wr => ∃ (k : Nat) (r : Int), k ≤ C ∧ i = .int .i64 k ∧ l = .int .i64 r ∧ 0 ≤ r ∧ r ≤ left ∧ Below w.heap.size w wr ∧ Hid (∀ c, c < k → L c ≤ 1048576)) (fun _ i _ => C - (intOf i).toNat)
    case atStart => exact ⟨0, left - C, Nat.zero_le _, rfl, rfl, by omega, by omega, Below.refl _ _, hide fun c hc => by omega⟩
    case round =>
      obtain ⟨k, r, hk, rfl, rfl, hr0, hrl, hbk, HK⟩ := hrel
      by_cases hlt : k < C
      · obtain ⟨p, off, rfl, hc⟩ := hs (by omega)
        obtain ⟨ia, ic, q0', hr⟩ := hc k hlt
        have q0 : wr.cell? ⟨p, off + k, none⟩ = some (.slice ia (L k) ic) := Below.keep hbk _ _ q0'
        have hLk := hL k hlt
        have hk0 : (0 : Int) ≤ (k : Int) := by omega
        have hk1 : (k : Int) < (C : Int) := by omega
        clear hs hc q0' hr
        by_cases hx : r < L k
        · go_wp2_with fail
          refine (szS_no ia (L k) ic r _ hr0 (by omega) hLk hx).mono ?_
          rintro e w2 ⟨rfl, rfl⟩
          go_wp2
          go_ret
          exact ⟨-1, rfl, by omega, fun h => by omega, hbk⟩
        · have hd : decide (r - (L k : Int) < 0) = false := by simp; omega
          have HK2 : Hid (∀ c, c < k + 1 → L c ≤ 1048576) := hide (fun c hc => by
            by_cases e : c = k
            · subst e; omega
            · exact HK.out c (by omega))
          go_wp2_with fail
          refine (szS_yes ia (L k) ic r _ hr0 (by omega) (by omega)).mono ?_
          rintro e w2 ⟨rfl, rfl⟩
          go_wp2
          go_roundw
          case rel => exact ⟨k + 1, r - L k, by omega, by go_num, rfl, by omega, by omega, hbk, HK2⟩
          case measure => simp [intOf]; omega
      · clear hs
        go_wp2
        go_ret
        exact ⟨r, rfl, by omega, fun _ => ⟨by omega, fun c hc => HK.out c (by omega)⟩, hbk⟩

-- what is not too much is small; below 0: too much
set_option maxHeartbeats 2000000 in
theorem szInt64SS_any (v : Value) (C : Nat) (Z : Nat → List Int) (left : Int) (w : World) (h0 : 0 ≤ left) (hm : left ≤ 1048576) (hs : Si w v C Z) (hC : (C : Int) ≤ 9223372036854775807) (hL : ∀ c, c < C → ((Z c).length : Int) ≤ 9223372036854775807) :
    Calls Tryd.prog 30 #[v, .int .i64 left] w fun e w' => ∃ r : Int, e = .returned (.int .i64 r) ∧ (-1 ≤ r ∧ r ≤ left) ∧ (0 ≤ r → C ≤ 1048576 ∧ ∀ c, c < C → (Z c).length ≤ 1048576) ∧ Below w.heap.size w w' := by
  obtain ⟨ad, cap, rfl, hs⟩ := hs
  have hw : wrap64 (left - (C : Int)) = left - C := Go.IntWalk.wrap64_in _ (by omega)
  by_cases h : left < C
  · have hd : decide (left - (C : Int) < 0) = true := by simp; omega
    clear hs
    go_enter Tryd.func30, Tryd.ntmps30
    go_wp2
    go_ret
    exact ⟨-1, rfl, by omega, fun h => by omega, Below.refl _ _⟩
  · have hd : decide (left - (C : Int) < 0) = false := by simp; omega
    go_enter Tryd.func30, Tryd.ntmps30
    go_wp2
    clear hw hd
    go_loopw [1, 5] (fun l i wr => ∃ (k : Nat) (r : Int), k ≤ C ∧ i = .int .i64 k ∧ l = .int .i64 r ∧ 0 ≤ r ∧ r ≤ left ∧ Below w.heap.size w wr ∧ Hid (∀ c, c < k → (Z c).length ≤ 1048576)) (fun _ i _ => C - (intOf i).toNat)
    case atStart => exact ⟨0, left - C, Nat.zero_le _, rfl, rfl, by omega, by omega, Below.refl _ _, hide fun c hc => by omega⟩
    case round =>
      obtain ⟨k, r, hk, rfl, rfl, hr0, hrl, hbk, HK⟩ := hrel
      by_cases hlt : k < C
      · obtain ⟨p, off, rfl, hc⟩ := hs (by omega)
        obtain ⟨ia, ic, q0', hr⟩ := hc k hlt
        have q0 : wr.cell? ⟨p, off + k, none⟩ = some (.slice ia ((Z k).length) ic) := Below.keep hbk _ _ q0'
        have hLk := hL k hlt
        have hk0 : (0 : Int) ≤ (k : Int) := by omega
        have hk1 : (k : Int) < (C : Int) := by omega
        clear hs hc q0' hr
        by_cases hx : r < (Z k).length
        · go_wp2_with fail
          refine (szI_no ia ((Z k).length) ic r _ hr0 (by omega) hLk hx).mono ?_
          rintro e w2 ⟨rfl, rfl⟩
          go_wp2
          go_ret
          exact ⟨-1, rfl, by omega, fun h => by omega, hbk⟩
        · have hd : decide (r - ((Z k).length : Int) < 0) = false := by simp; omega
          have HK2 : Hid (∀ c, c < k + 1 → (Z c).length ≤ 1048576) := hide (fun c hc => by
            by_cases e : c = k
            · subst e; omega
            · exact HK.out c (by omega))
          go_wp2_with fail
          refine (szI_yes ia ((Z k).length) ic r _ hr0 (by omega) (by omega)).mono ?_
          rintro e w2 ⟨rfl, rfl⟩
          go_wp2
          go_roundw
          case rel => exact ⟨k + 1, r - (Z k).length, by omega, by go_num, rfl, by omega, by omega, hbk, HK2⟩
          case measure => simp [intOf]; omega
      · clear hs
        go_wp2
        go_ret
        exact ⟨r, rfl, by omega, fun _ => ⟨by omega, fun c hc => HK.out c (by omega)⟩, hbk⟩

/-- a Tso, read: memory zs, C buffers, R rows of registers -/
structure Tv (w : World) (mv bv rv : Value) (zs : List Int) (C : Nat) (L : Nat → Nat) (F : Nat → Nat → Nat → Int) (R : Nat) (Z : Nat → List Int) : Prop where
  mem : Sl w mv zs
  buf : Ss w bv C L F
  reg : Si w rv R Z
theorem Tv.below {w w' : World} {mv bv rv : Value} {zs : List Int} {C : Nat} {L : Nat → Nat} {F : Nat → Nat → Nat → Int} {R : Nat} {Z : Nat → List Int} (h : Tv w mv bv rv zs C L F R Z) (hb : Below w.heap.size w w') : Tv w' mv bv rv zs C L F R Z := ⟨h.mem.below hb, h.buf.below hb, h.reg.below hb⟩
/-- not too large -/
structure Tl (zs : List Int) (C : Nat) (L : Nat → Nat) (R : Nat) (Z : Nat → List Int) : Prop where
  mem : zs.length ≤ 1048576
  buf : C ≤ 1048576 ∧ ∀ c, c < C → L c ≤ 1048576
  reg : R ≤ 1048576 ∧ ∀ c, c < R → (Z c).length ≤ 1048576

theorem box3 (w : World) (a b c : Value) (T : TypeId) : (w.alloc (.cells #[a, b, c] T)).cell? ⟨w.heap.size, 0, none⟩ = some a ∧ (w.alloc (.cells #[a, b, c] T)).cell? ⟨w.heap.size, 1, none⟩ = some b ∧ (w.alloc (.cells #[a, b, c] T)).cell? ⟨w.heap.size, 2, none⟩ = some c := by
  have h := heap_alloc_new w (.cells #[a, b, c] T)
  exact ⟨(cell_of_row _ _ 0 _ _ _ h).trans rfl, (cell_of_row _ _ 1 _ _ _ h).trans rfl, (cell_of_row _ _ 2 _ _ _ h).trans rfl⟩

set_option maxHeartbeats 2000000 in
theorem szTso_any (mv bv rv : Value) (zs : List Int) (C : Nat) (L : Nat → Nat) (F : Nat → Nat → Nat → Int) (R : Nat) (Z : Nat → List Int) (w : World) (h : Tv w mv bv rv zs C L F R Z) (hm : (zs.length : Int) ≤ 9223372036854775807) (hC : (C : Int) ≤ 9223372036854775807) (hL : ∀ c, c < C → (L c : Int) ≤ 9223372036854775807) (hR : (R : Int) ≤ 9223372036854775807) (hZ : ∀ c, c < R → ((Z c).length : Int) ≤ 9223372036854775807) :
    Calls Tryd.prog 11 #[.agg #[mv, bv, rv], .int .i64 1048576] w fun e w' => ∃ r : Int, e = .returned (.int .i64 r) ∧ (0 ≤ r → Tl zs C L R Z) ∧ Below w.heap.size w w' := by
  have hB0 : Below w.heap.size w (w.alloc (.cells #[mv, bv, rv] 37)) := (Below.refl _ _).alloc (Nat.le_refl _) _
  obtain ⟨c0, c1, c2⟩ := box3 w mv bv rv 37
  have HT := hide (h.below hB0)
  obtain ⟨⟨ma, mc, rfl, _⟩, ⟨ba, bc, rfl, _⟩, ⟨ra, rc, rfl, _⟩⟩ := h
  by_cases hs : (zs.length : Int) ≤ 1048576
  case neg =>
    go_enter Tryd.func11, Tryd.ntmps11
    go_wp2_with fail
    refine (szI_no ma zs.length mc 1048576 _ (by decide) (by decide) hm (by omega)).mono ?_
    rintro e w1 ⟨rfl, rfl⟩
    clear HT
    go_wp2
    go_ret
    exact ⟨-1, rfl, fun h => absurd h (by decide), hB0⟩
  go_enter Tryd.func11, Tryd.ntmps11
  go_wp2_with fail
  refine (szI_yes ma zs.length mc 1048576 _ (by decide) (by decide) hs).mono ?_
  rintro e w1 ⟨rfl, rfl⟩
  obtain ⟨l1, hl1⟩ : ∃ l1 : Int, 1048576 - (zs.length : Int) = l1 := ⟨_, rfl⟩
  rw [hl1]
  have hd1 : decide (l1 < 0) = false := by simp; omega
  go_wp2_with fail
  refine (szStoreSS_any _ C L F l1 _ (by omega) (by omega) HT.out.buf hC hL).mono ?_
  rintro e w2 ⟨r2, rfl, hr2, hp2, hb2⟩
  have hB2 := hB0.trans (hb2.mono hB0.size)
  have d2 := keepc hb2 c2
  have HT2 := hide (HT.out.below hb2)
  clear c0 c1 c2 hB0 hb2 HT hd1
  by_cases h2 : r2 < 0
  · clear HT2 hp2
    go_wp2
    go_ret
    exact ⟨-1, rfl, fun h => absurd h (by decide), hB2⟩
  have hd2 : decide (r2 < 0) = false := by simp; omega
  go_wp2_with fail
  refine (szInt64SS_any _ R Z r2 _ (by omega) (by omega) HT2.out.reg hR hZ).mono ?_
  rintro e w3 ⟨r3, rfl, hr3, hp3, hb3⟩
  have hB3 := hB2.trans (hb3.mono hB2.size)
  clear HT2 hb3 hB2 d2 hd2
  by_cases h3 : r3 < 0
  · clear hp3 hp2
    go_wp2
    go_ret
    exact ⟨-1, rfl, fun h => absurd h (by decide), hB3⟩
  have hd3 : decide (r3 < 0) = false := by simp; omega
  have HP := hide (show Tl zs C L R Z from ⟨by omega, hp2 (by omega), hp3 (by omega)⟩)
  clear hp2 hp3
  go_wp2
  go_ret
  exact ⟨r3, rfl, fun _ => HP.out, hB3⟩

set_option maxHeartbeats 2000000 in
theorem eqTso_same (mv bv rv mv' bv' rv' : Value) (zs : List Int) (C : Nat) (L : Nat → Nat) (F : Nat → Nat → Nat → Int) (R : Nat) (Z : Nat → List Int) (w : World) (h : Tv w mv bv rv zs C L F R Z) (h' : Tv w mv' bv' rv' zs C L F R Z) (hl : Tl zs C L R Z) :
    Calls Tryd.prog 15 #[.agg #[mv, bv, rv], .agg #[mv', bv', rv']] w fun e w' => e = .returned (.bool true) ∧ Below w.heap.size w w' := by
  have hA : Below w.heap.size w (w.alloc (.cells #[mv, bv, rv] 42)) := (Below.refl _ _).alloc (Nat.le_refl _) _
  have hA2 : Below (w.alloc (.cells #[mv, bv, rv] 42)).heap.size (w.alloc (.cells #[mv, bv, rv] 42)) ((w.alloc (.cells #[mv, bv, rv] 42)).alloc (.cells #[mv', bv', rv'] 42)) := (Below.refl _ _).alloc (Nat.le_refl _) _
  obtain ⟨a0, a1, a2⟩ := box3 w mv bv rv 42
  obtain ⟨b0, b1, b2⟩ := box3 (w.alloc (.cells #[mv, bv, rv] 42)) mv' bv' rv' 42
  have c0 := keepc hA2 a0
  have c1 := keepc hA2 a1
  have c2 := keepc hA2 a2
  have hB := hA.trans (hA2.mono hA.size)
  have HT := hide (h.below hB)
  have HT' := hide (h'.below hB)
  obtain ⟨⟨ma, mc, rfl, _⟩, ⟨ba, bc, rfl, _⟩, ⟨ra, rc, rfl, _⟩⟩ := h
  obtain ⟨⟨ma', mc', rfl, _⟩, ⟨ba', bc', rfl, _⟩, ⟨ra', rc', rfl, _⟩⟩ := h'
  simp only [World.size_alloc] at b0 b1 b2
  clear a0 a1 a2 hA hA2
  generalize hW : ((w.alloc (.cells #[.slice ma zs.length mc, .slice ba C bc, .slice ra R rc] 42)).alloc (.cells #[.slice ma' zs.length mc', .slice ba' C bc', .slice ra' R rc'] 42)) = W at *
  go_enter Tryd.func15, Tryd.ntmps15
  go_wp2_with fail
  refine (eq_same _ _ zs _ HT.out.mem HT'.out.mem hl.mem).mono ?_
  rintro e w1 ⟨rfl, hb1⟩
  have hB1 := hB.trans (hb1.mono hB.size)
  have e1 := keepc hb1 c1
  have e2 := keepc hb1 c2
  have f1 := keepc hb1 b1
  have f2 := keepc hb1 b2
  have HT1 := hide (HT.out.below hb1)
  have HT1' := hide (HT'.out.below hb1)
  clear c0 c1 c2 b0 b1 b2 hb1 hB HT HT' hW
  go_wp2_with fail
  refine (eqStoreSS_same _ _ C L F _ HT1.out.buf HT1'.out.buf hl.buf.1 hl.buf.2).mono ?_
  rintro e w2 ⟨rfl, hb2⟩
  have hB2 := hB1.trans (hb2.mono hB1.size)
  have g2 := keepc hb2 e2
  have k2 := keepc hb2 f2
  have HT2 := hide (HT1.out.below hb2)
  have HT2' := hide (HT1'.out.below hb2)
  clear e1 e2 f1 f2 hb2 hB1 HT1 HT1'
  go_wp2_with fail
  refine (eqInt64SS_same _ _ R Z _ HT2.out.reg HT2'.out.reg hl.reg.1 hl.reg.2).mono ?_
  rintro e w3 ⟨rfl, hb3⟩
  have HB := hide (hB2.trans (hb3.mono hB2.size))
  clear g2 k2 hb3 hB2 HT2 HT2'
  go_wp2
  go_ret
  exact ⟨rfl, HB.out⟩

end Go.Proofs.YtfnnjgbodlngdaaDoor
