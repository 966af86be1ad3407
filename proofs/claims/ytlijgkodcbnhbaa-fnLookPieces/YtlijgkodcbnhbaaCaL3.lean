/- spec.l9Looked -/
import Derived.Test.YtlijgkodcbnhbaaCaL2
import Derived.Test.YtlijgkodcbnhbaaCaC2
namespace Go.Proofs.Ytlijgkodcbnhbaa
open Go.RowKit
set_option linter.unusedVariables false
set_option linter.unusedSimpArgs false

theorem wy_nat {s : Sm} {x : Int} (h : inR s.b 7 = true) : ∃ k : Nat, k < 4 ∧ Ca.wy s x = k := by
  rcases Ca.wy_range (x := x) h with h | h | h | h
  · exact ⟨0, by omega, h⟩
  · exact ⟨1, by omega, h⟩
  · exact ⟨2, by omega, h⟩
  · exact ⟨3, by omega, h⟩
theorem bits_nat {b : Int} (h : inR b 7 = true) : ∃ n : Nat, n < 8 ∧ b = n := by
  obtain ⟨h0, h1⟩ := (inR_cases h).1 rfl
  obtain ⟨n, rfl⟩ := Int.eq_ofNat_of_zero_le h0
  exact ⟨n, by omega, rfl⟩

/-- what is known once the way is chosen: w: ahead of the call; W: now; cb: 'out'; B9: the set's own variable -/
structure Lq (w W : World) (D : Nat → Sm) (G c : Nat) (ib : Nat → Nat) (cb B9 i : Nat) (sb : Int) (ic : Nat) : Prop where
  bel : Below w.heap.size w W
  cg : Cg W (w.heap.size + 1 + 1) (sl G 2 c) 2 (fun _ => 4) D G ib
  out : W.heap[cb]? = some (.cells #[sl G 2 c] 26 (0, 0))
  set : W.heap[B9]? = some (.cells #[.int .i64 sb, .slice (some ⟨ib i, 0, none⟩) 4 ic] 58 (0, 0))
  res : W.heap[w.heap.size + 1]? = some (.cells #[.slice none 0 0] 26 (0, 0))
  ne : cb ≠ B9 ∧ cb ≠ G ∧ B9 ≠ G ∧ (∀ c, c < 2 → ib c ≠ cb ∧ ib c ≠ B9) ∧ w.heap.size + 1 < cb ∧ w.heap.size + 1 < B9
theorem Lq.below {w W W' : World} {D : Nat → Sm} {G c : Nat} {ib : Nat → Nat} {cb B9 i : Nat} {sb : Int} {ic : Nat} (h : Lq w W D G c ib cb B9 i sb ic) (hb : Below W.heap.size W W') : Lq w W' D G c ib cb B9 i sb ic :=
  ⟨h.bel.trans (hb.mono h.bel.size), h.cg.below hb, heap_b h.out hb, heap_b h.set hb, heap_b h.res hb, h.ne⟩
theorem Lq.cells {w W : World} {D : Nat → Sm} {G c : Nat} {ib : Nat → Nat} {cb B9 i : Nat} {sb : Int} {ic : Nat} (h : Lq w W D G c ib cb B9 i sb ic) : W.cell? ⟨cb, 0, none⟩ = some (sl G 2 c) ∧ W.cell? ⟨B9, 0, none⟩ = some (.int .i64 sb) ∧ W.cell? ⟨B9, 1, none⟩ = some (.slice (some ⟨ib i, 0, none⟩) 4 ic) ∧ (∀ j, W.frozen? ⟨B9, j, none⟩ = false) :=
  ⟨cell_of_row _ _ 0 _ _ _ h.out, cell_of_row _ _ 0 _ _ _ h.set, cell_of_row _ _ 1 _ _ _ h.set, fun j => frozen_of_row _ _ j _ _ h.set⟩
theorem Lq.putWay {w W : World} {D D' : Nat → Sm} {G c : Nat} {ib : Nat → Nat} {cb B9 i k : Nat} {sb x : Int} {ic : Nat} (h : Lq w W D G c ib cb B9 i sb ic) (hi : i < 2) (hk : k < 4) (h1 : ∀ c', c' ≠ i → D' c' = D c') (h2 : (D' i).b = (D i).b) (h3 : ∀ j, (D' i).u j = if j = k then true else (D i).u j) (h4 : ∀ j, (D' i).a j = if j = k then x else (D i).a j) :
    Lq w ((W.setCell ⟨ib i, k * 2, none⟩ (.bool true)).setCell ⟨ib i, k * 2 + 1, none⟩ (.int .i64 x)) D' G c ib cb B9 i sb ic := by
  obtain ⟨n1, n2, n3, n4, n5, n6⟩ := h.ne
  have hlo := h.cg.lo.2 i hi
  have f : ∀ g, g ≠ ib i → ((W.setCell ⟨ib i, k * 2, none⟩ (.bool true)).setCell ⟨ib i, k * 2 + 1, none⟩ (.int .i64 x)).heap[g]? = W.heap[g]? := fun g hg => by rw [heap_setCell_other _ _ _ _ hg, heap_setCell_other _ _ _ _ hg]
  refine ⟨(h.bel.setCell (show w.heap.size ≤ ib i by omega) _).setCell (show w.heap.size ≤ ib i by omega) _, h.cg.putWay hi hk h1 h2 h3 h4, ?_, ?_, ?_, h.ne⟩
  · rw [f cb (fun e => (n4 i hi).1 e.symm)]; exact h.out
  · rw [f B9 (fun e => (n4 i hi).2 e.symm)]; exact h.set
  · rw [f _ (by omega)]; exact h.res
theorem Lq.putBits {w W : World} {D : Nat → Sm} {G c : Nat} {ib : Nat → Nat} {cb B9 i : Nat} {sb b : Int} {ic : Nat} (h : Lq w W D G c ib cb B9 i sb ic) : Lq w (W.setCell ⟨B9, 0, none⟩ (.int .i64 b)) D G c ib cb B9 i b ic := by
  obtain ⟨n1, n2, n3, n4, n5, n6⟩ := h.ne
  refine ⟨h.bel.setCell (show w.heap.size ≤ B9 by omega) _, h.cg.chg (S := fun j => j = B9) ((Chg.refl (fun j => j = B9) W).set (show B9 = B9 from rfl) _) (fun e => n3 e.symm) (fun c hc e => (n4 c hc).2 e), ?_, ?_, ?_, h.ne⟩
  · rw [heap_setCell_other _ _ _ _ n1]; exact h.out
  · exact heap_setCell_same _ _ 0 _ _ _ h.set
  · rw [heap_setCell_other _ _ _ _ (show w.heap.size + 1 ≠ B9 by omega)]; exact h.res

theorem Cg.congr {w : World} {B : Nat} {v : Value} {n : Nat} {L : Nat → Nat} {D D' : Nat → Sm} {G : Nat} {ib : Nat → Nat} (h : Cg w B v n L D G ib) (e : ∀ c, c < n → D' c = D c) : Cg w B v n L D' G ib :=
  ⟨h.val, h.lo, h.wcG, h.wcI, h.ne, h.inj, fun c hc => by rw [e c hc]; exact h.at_ c hc, fun c hc j hj => by rw [e c hc]; exact h.way c hc j hj⟩
theorem lk_two (s t : Sm) (x : Int) (i : Nat) (hi : i < 2) (hp : x % 2 = i) : (∀ c, c < 2 → two (Ca.lk2 s t x).1 (Ca.lk2 s t x).2 c = if c = i then Ca.lk (two s t i) x else two s t c) ∧ Ca.at2 s t x = two s t i := by
  have : i = 0 ∨ i = 1 := by omega
  rcases this with rfl | rfl
  · have h0 : x % 2 = 0 := by omega
    refine ⟨fun c hc => ?_, by unfold Ca.at2; rw [if_pos h0]; rfl⟩
    have : c = 0 ∨ c = 1 := by omega
    rcases this with rfl | rfl <;> simp [two, Ca.lk2, h0]
  · have h0 : ¬ x % 2 = 0 := by omega
    refine ⟨fun c hc => ?_, by unfold Ca.at2; rw [if_neg h0]; rfl⟩
    have : c = 0 ∨ c = 1 := by omega
    rcases this with rfl | rfl <;> simp [two, Ca.lk2, h0]

/-- the way that is chosen so far -/
def Pk (r : Sm) (x y z : Int) (j : Nat) : Prop :=
  (¬ y = -1 ∧ z = y ∧ j = 0) ∨ (y = -1 ∧ z = -1 ∧ ∀ m, m < j → r.u m = true) ∨ (y = -1 ∧ ∃ m, j = m + 1 ∧ m < 4 ∧ z = (m : Int) ∧ r.u m = false ∧ ∀ m', m' < m → r.u m' = true)

set_option maxHeartbeats 1500000 in
set_option maxRecDepth 20000 in
theorem l9Looked_any (v : Value) (s t : Sm) (x : Int) (w : World) (hv : Cv w v 2 (fun _ => 4) (two s t)) (hx0 : 0 ≤ x) (hx1 : x ≤ 1000) (hrs : Ca.rightB s 0 = true) (hrt : Ca.rightB t 1 = true) :
    Calls Try.prog 20 #[.agg #[v], .int .i64 x] w fun e w' => ∃ G c ib, e = .returned (.tuple #[.agg #[sl G 2 c], .bool (Ca.hd (Ca.at2 s t x) x), .int .i64 (Ca.gn (Ca.at2 s t x) x)]) ∧ Cg w' w.heap.size (sl G 2 c) 2 (fun _ => 4) (two (Ca.lk2 s t x).1 (Ca.lk2 s t x).2) G ib ∧ Below w.heap.size w w' := by
  obtain ⟨i, hi, hp⟩ : ∃ i : Nat, i < 2 ∧ x % 2 = (i : Int) := ⟨(x % 2).toNat, by omega, by omega⟩
  obtain ⟨htw, hat⟩ := lk_two s t x i hi hp
  have hrr : Ca.rightB (two s t i) i = true := by
    have : i = 0 ∨ i = 1 := by omega
    rcases this with rfl | rfl
    · exact hrs
    · exact hrt
  rw [hat]
  have HTW := hide htw
  clear htw hat hrs hrt
  obtain ⟨r, hr⟩ : ∃ r, two s t i = r := ⟨_, rfl⟩
  rw [hr] at hrr HTW
  rw [hr]
  have HRR := hide hrr
  have hbr : inR r.b 7 = true := by simp only [Ca.rightB, Bool.and_eq_true] at hrr; exact hrr.2
  obtain ⟨kk, hkk, hwy⟩ := wy_nat (x := x) hbr
  obtain ⟨bn, hbn, hbe⟩ := bits_nat hbr
  have HR := hide hr
  have HBR := hide hbr
  have HWY := hide hwy
  have hi0 : (0 : Int) ≤ (i : Int) := by omega
  have hi2 : (i : Int) < 2 := by omega
  have HBE := hide hbe
  clear hrr hr hbr hwy hbe
  obtain ⟨W0, hW0⟩ : ∃ W0, (w.alloc (.cells #[v] 26)).alloc (.cells #[.slice none 0 0] 26) = W0 := ⟨_, rfl⟩
  have hB0 : Below w.heap.size w W0 := by rw [← hW0]; exact ((Below.refl _ _).alloc (Nat.le_refl _) _).alloc (by simp) _
  have hr0 : W0.heap[w.heap.size + 1]? = some (.cells #[.slice none 0 0] 26 (0, 0)) := by
    rw [← hW0]
    have := heap_alloc_new (w.alloc (.cells #[v] 26)) (.cells #[.slice none 0 0] 26)
    simpa only [World.size_alloc] using this
  have hc0 : W0.cell? ⟨w.heap.size, 0, none⟩ = some v := by
    rw [← hW0]
    have h0 : (w.alloc (.cells #[v] 26)).cell? ⟨w.heap.size, 0, none⟩ = some v := cell_of_row _ _ 0 _ _ _ (heap_alloc_new _ _)
    exact allocc h0 _
  have hws0 : W0.heap.size = w.heap.size + 1 + 1 := by rw [← hW0]; simp
  have HV := hide (hv.below hB0)
  obtain ⟨ad, cap, rfl, _⟩ := hv
  go_enter Try.func20, Try.ntmps20
  go_wp2_with fail
  refine (copy9_any _ s t _ HV.out).mono ?_
  rintro e w1 ⟨G, c, ib, rfl, hcg1, hb1⟩
  have hB1 := hB0.trans (hb1.mono hB0.size)
  have hr1 := heap_b hr0 hb1
  have hw1 := hb1.size
  rw [hws0] at hw1 hcg1
  clear hb1 hB0 hr0 hc0 hW0 HV hws0
  obtain ⟨W1, hW1⟩ : ∃ W1, w1.alloc (.cells #[sl G 2 c] 26) = W1 := ⟨_, rfl⟩
  have hA1 : Below w1.heap.size w1 W1 := by rw [← hW1]; exact (Below.refl _ _).alloc (Nat.le_refl _) _
  have hcb1 : W1.heap[w1.heap.size]? = some (.cells #[sl G 2 c] 26 (0, 0)) := by rw [← hW1]; exact heap_alloc_new _ _
  have hws1 : W1.heap.size = w1.heap.size + 1 := by rw [← hW1]; simp
  obtain ⟨q0, ic, q1⟩ := (hcg1.below hA1).at_ i hi
  rw [HR.out] at q0
  have x1 : W1.cell? ⟨w1.heap.size, 0, none⟩ = some (sl G 2 c) := cell_of_row _ _ 0 _ _ _ hcb1
  obtain ⟨W2, hW2⟩ : ∃ W2, W1.alloc (.cells #[.int .i64 r.b, .slice (some ⟨ib i, 0, none⟩) 4 ic] 58) = W2 := ⟨_, rfl⟩
  have hA2 : Below W1.heap.size W1 W2 := by rw [← hW2]; exact (Below.refl _ _).alloc (Nat.le_refl _) _
  have l1 : G < w1.heap.size ∧ ∀ c, c < 2 → ib c < w1.heap.size := ⟨hcg1.wcG.lt, fun c hc => (hcg1.wcI c hc).lt⟩
  have hset2 : W2.heap[w1.heap.size + 1]? = some (.cells #[.int .i64 r.b, .slice (some ⟨ib i, 0, none⟩) 4 ic] 58 (0, 0)) := by rw [← hW2, ← hws1]; exact heap_alloc_new _ _
  have lq2 : Lq w W2 (two s t) G c ib w1.heap.size (w1.heap.size + 1) i r.b ic := by
    refine ⟨(hB1.trans (hA1.mono hB1.size)).trans (hA2.mono (hB1.trans (hA1.mono hB1.size)).size), (hcg1.below hA1).below hA2, heap_b hcb1 hA2, hset2, heap_b (heap_b hr1 hA1) hA2, by omega, by omega, by omega, fun c hc => by have := l1.2 c hc; omega, by omega, by omega⟩
  obtain ⟨_, z0, z1, zf⟩ := lq2.cells
  have hws2 : Ws W2 (.slice (some ⟨ib i, 0, none⟩) 4 ic) 4 r := by
    refine ⟨_, ic, rfl, fun _ => ⟨ib i, 0, rfl, fun j hj => ?_⟩⟩
    rw [Nat.zero_add, ← HR.out]
    exact lq2.cg.way i hi j hj
  have HL2 := hide lq2
  have hyr := Ca.fst_range r true x
  have hf := fun w h => l9Way_any r (some ⟨ib i, 0, none⟩) ic x w h
  obtain ⟨y, hy⟩ : ∃ y, Ca.fst r true x = y := ⟨_, rfl⟩
  rw [hy] at hyr hf
  have HY := hide hy
  clear hy lq2 hA1 hA2 hcb1 hcg1 hr1 hB1 hset2
  go_wp2_with fail
  refine (hf _ hws2).mono ?_
  rintro e w3 ⟨rfl, hb3⟩
  have HL3 := hide (HL2.out.below hb3)
  clear hb3 HL2 hws2 hf q0 q1 x1 z0 z1 zf hW1 hW2
  obtain ⟨cb, hcb⟩ : ∃ cb, w1.heap.size = cb := ⟨_, rfl⟩
  rw [hcb] at HL3 ⊢
  go_wp2
  clear hcb hws1 hw1 l1
  go_loopw [10, 13] (fun a b wr => ∃ (j : Nat) (z : Int), j ≤ 4 ∧ b = .int .i64 j ∧ a = .int .i64 z ∧ Hid (Lq w wr (two s t) G c ib cb (cb + 1) i r.b ic) ∧ Hid (Pk r x y z j)) (fun _ b _ => 4 - (intOf b).toNat)
  case atStart =>
    refine ⟨0, y, by omega, rfl, rfl, HL3, hide ?_⟩
    by_cases hy1 : y = -1
    · exact .inr (.inl ⟨hy1, hy1, fun m hm => by omega⟩)
    · exact .inl ⟨hy1, rfl, rfl⟩
  case round =>
    clear HL3
    obtain ⟨j, z, hj, rfl, rfl, HL, HP⟩ := hrel
    obtain ⟨x0, z0, z1, zf⟩ := HL.out.cells
    rcases HP.out with ⟨hy1, hzy, hj0⟩ | ⟨hy1, hz, hall⟩ | ⟨hy1, m, hjm, hm4, hz, hum, hall⟩
    · obtain ⟨hw1, hh1, hg1⟩ := Ca.wy_hit (s := r) (x := x) (by rw [HY.out]; exact hy1)
      have HHG := hide (And.intro hh1 hg1)
      have hyk : y = (kk : Int) := by rw [← HWY.out, hw1, HY.out]
      subst hzy hj0 hyk
      have HLT := hide HL.out
      have hge : decide ((0 : Int) ≤ (kk : Int)) = true := by simp
      clear hw1 hh1 hg1 hyr hy1 HP HL
      obtain ⟨W4, hW4⟩ : ∃ W4, (wr.setCell ⟨ib i, kk * 2, none⟩ (.bool true)).setCell ⟨ib i, kk * 2 + 1, none⟩ (.int .i64 x) = W4 := ⟨_, rfl⟩
      have lq4 : Lq w W4 (fun c => if c = i then ⟨r.b, fun j => if j = kk then true else r.u j, fun j => if j = kk then x else r.a j⟩ else two s t c) G c ib cb (cb + 1) i r.b ic := by
        rw [← hW4]
        refine HLT.out.putWay hi hkk (fun c' hc' => if_neg hc') ?_ (fun j => ?_) (fun j => ?_)
        · rw [if_pos rfl, HR.out]
        · rw [if_pos rfl, HR.out]
        · rw [if_pos rfl, HR.out]
      have hwc := (HLT.out.cg.wcI i hi).facts
      obtain ⟨o0, e0⟩ := hwc.2 (kk * 2) (by show kk * 2 < 4 * 2; omega)
      obtain ⟨o1, e1⟩ := hwc.2 (kk * 2 + 1) (by show kk * 2 + 1 < 4 * 2; omega)
      have ef := hwc.1
      obtain ⟨x4, y4, y5, y6⟩ := lq4.cells
      have HL4 := hide lq4
      have ht := fun w => l9Touch_any bn kk w hbn hkk
      have HTT : Hid (Plru.tI r.b (Ca.wy r x) = (Plru.touch bn kk : Nat)) := hide (by rw [HWY.out, HBE.out]; exact Plru.tI_yes hbn hkk)
      generalize Plru.touch bn kk = tt at ht HTT
      rw [HBE.out] at y4
      have hk0 : (0 : Int) ≤ (kk : Int) := by omega
      have hk4 : (kk : Int) < 4 := by omega
      clear lq4 hwc
      go_wp2_with fail
      refine (ht _).mono ?_
      rintro e w5 ⟨rfl, hb5⟩
      clear e0 e1 ef x4 y4 y5 y6 hW4
      have lq5 := HL4.out.below hb5
      obtain ⟨W6, hW6⟩ : ∃ W6, w5.setCell ⟨cb + 1, 0, none⟩ (.int .i64 (tt : Nat)) = W6 := ⟨_, rfl⟩
      obtain ⟨x5, y4, y5, y6⟩ := lq5.cells
      have lq6 : Lq w W6 (fun c => if c = i then ⟨r.b, fun j => if j = kk then true else r.u j, fun j => if j = kk then x else r.a j⟩ else two s t c) G c ib cb (cb + 1) i (tt : Nat) ic := by rw [← hW6]; exact lq5.putBits
      obtain ⟨x6, u4, u5, u6⟩ := lq6.cells
      have hwg := lq6.cg.wcG.facts
      obtain ⟨o0, e0⟩ := hwg.2 (i * 2) (by omega)
      obtain ⟨o1, e1⟩ := hwg.2 (i * 2 + 1) (by omega)
      have ef := hwg.1
      obtain ⟨W7, hW7⟩ : ∃ W7, (W6.setCell ⟨G, i * 2, none⟩ (.int .i64 (tt : Nat))).setCell ⟨G, i * 2 + 1, none⟩ (.slice (some ⟨ib i, 0, none⟩) 4 ic) = W7 := ⟨_, rfl⟩
      obtain ⟨n1, n2, n3, n4, n5, n6⟩ := lq6.ne
      have hG := lq6.cg.lo.1
      have hcg7 : Cg W7 (w.heap.size + 1 + 1) (sl G 2 c) 2 (fun _ => 4) (two (Ca.lk2 s t x).1 (Ca.lk2 s t x).2) G ib := by
        rw [← hW7]
        refine Cg.congr (D := fun c => if c = i then Ca.lk r x else two s t c) ?_ HTW.out
        refine lq6.cg.putSet (ic := ic) hi (fun c' hc' => by rw [if_neg hc', if_neg hc']) ?_ (fun j => ?_) (fun j => ?_)
        · rw [if_pos rfl]; exact HTT.out
        · rw [if_pos rfl, if_pos rfl]; simp only [Ca.lk, HWY.out, Int.natCast_inj]
        · rw [if_pos rfl, if_pos rfl]; simp only [Ca.lk, HWY.out, Int.natCast_inj]
      have x7 : W7.cell? ⟨cb, 0, none⟩ = some (sl G 2 c) := by rw [← hW7, other_set (fun e => n2 e.symm), other_set (fun e => n2 e.symm)]; exact x6
      have r7 : W7.heap[w.heap.size + 1]? = some (.cells #[.slice none 0 0] 26 (0, 0)) := by rw [← hW7, heap_setCell_other _ _ _ _ (show w.heap.size + 1 ≠ G by omega), heap_setCell_other _ _ _ _ (show w.heap.size + 1 ≠ G by omega)]; exact lq6.res
      have HB7 : Hid (Below w.heap.size w W7) := hide (by rw [← hW7]; exact (lq6.bel.setCell (show w.heap.size ≤ G by omega) _).setCell (show w.heap.size ≤ G by omega) _)
      have r0 := cell_of_row _ _ 0 _ _ _ r7
      have rf := frozen_of_row _ _ 0 _ _ r7
      simp at r0
      have HC7 := hide hcg7
      have hlo := hcg7.lo
      clear lq5 lq6 hb5 HL4 hcg7 r7 hwg ht
      go_wp2
      refine bodyPost_ret (v := .tuple #[.agg #[sl G 2 c], .bool true, .int .i64 (-1)]) (by simp [results, Try.results20, go_sem, r0]) rfl ⟨G, c, ib, by rw [HHG.out.1, HHG.out.2], ?_, HB7.out.setCell (by simp) _⟩
      exact (HC7.out.chg (S := fun j => j < w.heap.size + 1 + 1) ((Chg.refl _ _).set (by omega) _) (by omega) (fun c hc => by have := hlo.2 c hc; omega)).mono (by omega)
    · by_cases hj4 : j < 4
      · have q0 := (HL.out.cg.way i hi j (by show j < 4; exact hj4)).1
        rw [HR.out] at q0
        have hj0 : (0 : Int) ≤ (j : Int) := by omega
        have hj1 : (j : Int) < 4 := by omega
        cases hu : r.u j
        · have HP2 : Hid (Pk r x y (j : Int) (j + 1)) := hide (.inr (.inr ⟨hy1, j, rfl, hj4, rfl, hu, hall⟩))
          rw [hu] at q0
          subst hz
          clear hu HP hall
          go_wp2
          exact ⟨⟨j + 1, (j : Int), by omega, by go_num, rfl, HL, HP2⟩, by simp [intOf]; omega⟩
        · have HP2 : Hid (Pk r x y (-1) (j + 1)) := hide (.inr (.inl ⟨hy1, rfl, fun m hm => by
            by_cases e : m = j
            · subst e; exact hu
            · exact hall m (by omega)⟩))
          rw [hu] at q0
          subst hz
          clear hu HP hall
          go_wp2
          exact ⟨⟨j + 1, -1, by omega, by go_num, rfl, HL, HP2⟩, by simp [intOf]; omega⟩
      · have hj5 : j = 4 := by omega
        subst hj5
        have hfr := Ca.free_none hall
        obtain ⟨hw1, hh1, hg1⟩ := Ca.wy_full (s := r) (x := x) (by rw [HY.out]; exact hy1) hfr
        have hvk : Plru.vI r.b = (kk : Int) := by rw [← hw1]; exact HWY.out
        have hvk2 : (Plru.victim bn : Int) = (kk : Int) := by rw [← hvk, HBE.out, Plru.vI_yes hbn]
        have hvk3 : Plru.victim bn = kk := by omega
        have hga : Ca.gn r x = r.a kk := by rw [hg1, hvk]; rfl
        have HHG := hide (And.intro hh1 hga)
        have hvv := fun w => l9Victim_any bn w hbn
        rw [hvk3] at hvv
        subst hz hy1
        rw [HBE.out] at z0
        have hlt0 : ¬ (4 : Int) < 4 := by omega
        clear hw1 hh1 hg1 hvk hvk2 hvk3 hga hfr hyr HP hall
        go_wp2_with fail
        refine (hvv _).mono ?_
        rintro e w3 ⟨rfl, hb3⟩
        have HLT := hide (HL.out.below hb3)
        clear hb3 HL x0 z0 z1 zf hvv
        obtain ⟨x0, z0, z1, zf⟩ := HLT.out.cells
        have q1 := (HLT.out.cg.way i hi kk (by show kk < 4; exact hkk)).2
        rw [HR.out] at q1
        have hk0' : (0 : Int) ≤ (kk : Int) := by omega
        have hk4' : (kk : Int) < 4 := by omega
        obtain ⟨W4, hW4⟩ : ∃ W4, (w3.setCell ⟨ib i, kk * 2, none⟩ (.bool true)).setCell ⟨ib i, kk * 2 + 1, none⟩ (.int .i64 x) = W4 := ⟨_, rfl⟩
        have lq4 : Lq w W4 (fun c => if c = i then ⟨r.b, fun j => if j = kk then true else r.u j, fun j => if j = kk then x else r.a j⟩ else two s t c) G c ib cb (cb + 1) i r.b ic := by
          rw [← hW4]
          refine HLT.out.putWay hi hkk (fun c' hc' => if_neg hc') ?_ (fun j => ?_) (fun j => ?_)
          · rw [if_pos rfl, HR.out]
          · rw [if_pos rfl, HR.out]
          · rw [if_pos rfl, HR.out]
        have hwc := (HLT.out.cg.wcI i hi).facts
        obtain ⟨o0, e0⟩ := hwc.2 (kk * 2) (by show kk * 2 < 4 * 2; omega)
        obtain ⟨o1, e1⟩ := hwc.2 (kk * 2 + 1) (by show kk * 2 + 1 < 4 * 2; omega)
        have ef := hwc.1
        obtain ⟨x4, y4, y5, y6⟩ := lq4.cells
        have HL4 := hide lq4
        have ht := fun w => l9Touch_any bn kk w hbn hkk
        have HTT : Hid (Plru.tI r.b (Ca.wy r x) = (Plru.touch bn kk : Nat)) := hide (by rw [HWY.out, HBE.out]; exact Plru.tI_yes hbn hkk)
        generalize Plru.touch bn kk = tt at ht HTT
        rw [HBE.out] at y4
        have hk0 : (0 : Int) ≤ (kk : Int) := by omega
        have hk4 : (kk : Int) < 4 := by omega
        clear lq4 hwc
        go_wp2_with fail
        refine (ht _).mono ?_
        rintro e w5 ⟨rfl, hb5⟩
        clear e0 e1 ef x4 y4 y5 y6 hW4
        have lq5 := HL4.out.below hb5
        obtain ⟨W6, hW6⟩ : ∃ W6, w5.setCell ⟨cb + 1, 0, none⟩ (.int .i64 (tt : Nat)) = W6 := ⟨_, rfl⟩
        obtain ⟨x5, y4, y5, y6⟩ := lq5.cells
        have lq6 : Lq w W6 (fun c => if c = i then ⟨r.b, fun j => if j = kk then true else r.u j, fun j => if j = kk then x else r.a j⟩ else two s t c) G c ib cb (cb + 1) i (tt : Nat) ic := by rw [← hW6]; exact lq5.putBits
        obtain ⟨x6, u4, u5, u6⟩ := lq6.cells
        have hwg := lq6.cg.wcG.facts
        obtain ⟨o0, e0⟩ := hwg.2 (i * 2) (by omega)
        obtain ⟨o1, e1⟩ := hwg.2 (i * 2 + 1) (by omega)
        have ef := hwg.1
        obtain ⟨W7, hW7⟩ : ∃ W7, (W6.setCell ⟨G, i * 2, none⟩ (.int .i64 (tt : Nat))).setCell ⟨G, i * 2 + 1, none⟩ (.slice (some ⟨ib i, 0, none⟩) 4 ic) = W7 := ⟨_, rfl⟩
        obtain ⟨n1, n2, n3, n4, n5, n6⟩ := lq6.ne
        have hG := lq6.cg.lo.1
        have hcg7 : Cg W7 (w.heap.size + 1 + 1) (sl G 2 c) 2 (fun _ => 4) (two (Ca.lk2 s t x).1 (Ca.lk2 s t x).2) G ib := by
          rw [← hW7]
          refine Cg.congr (D := fun c => if c = i then Ca.lk r x else two s t c) ?_ HTW.out
          refine lq6.cg.putSet (ic := ic) hi (fun c' hc' => by rw [if_neg hc', if_neg hc']) ?_ (fun j => ?_) (fun j => ?_)
          · rw [if_pos rfl]; exact HTT.out
          · rw [if_pos rfl, if_pos rfl]; simp only [Ca.lk, HWY.out, Int.natCast_inj]
          · rw [if_pos rfl, if_pos rfl]; simp only [Ca.lk, HWY.out, Int.natCast_inj]
        have x7 : W7.cell? ⟨cb, 0, none⟩ = some (sl G 2 c) := by rw [← hW7, other_set (fun e => n2 e.symm), other_set (fun e => n2 e.symm)]; exact x6
        have r7 : W7.heap[w.heap.size + 1]? = some (.cells #[.slice none 0 0] 26 (0, 0)) := by rw [← hW7, heap_setCell_other _ _ _ _ (show w.heap.size + 1 ≠ G by omega), heap_setCell_other _ _ _ _ (show w.heap.size + 1 ≠ G by omega)]; exact lq6.res
        have HB7 : Hid (Below w.heap.size w W7) := hide (by rw [← hW7]; exact (lq6.bel.setCell (show w.heap.size ≤ G by omega) _).setCell (show w.heap.size ≤ G by omega) _)
        have r0 := cell_of_row _ _ 0 _ _ _ r7
        have rf := frozen_of_row _ _ 0 _ _ r7
        simp at r0
        have HC7 := hide hcg7
        have hlo := hcg7.lo
        clear lq5 lq6 hb5 HL4 hcg7 r7 hwg ht
        go_wp2
        refine bodyPost_ret (v := .tuple #[.agg #[sl G 2 c], .bool false, .int .i64 (r.a kk)]) (by simp [results, Try.results20, go_sem, r0]) rfl ⟨G, c, ib, by rw [HHG.out.1, HHG.out.2], ?_, HB7.out.setCell (by simp) _⟩
        exact (HC7.out.chg (S := fun j => j < w.heap.size + 1 + 1) ((Chg.refl _ _).set (by omega) _) (by omega) (fun c hc => by have := hlo.2 c hc; omega)).mono (by omega)
    · have hfr := Ca.free_first HRR.out hm4 hum hall
      obtain ⟨hw1, hh1, hg1⟩ := Ca.wy_free (s := r) (x := x) (by rw [HY.out]; exact hy1) (by rw [hfr]; omega)
      have HHG := hide (And.intro hh1 hg1)
      have hmk : (m : Int) = (kk : Int) := by rw [← hfr, ← hw1]; exact HWY.out
      have hmk2 : m = kk := by omega
      subst hmk2 hz hjm hy1
      have HLT := hide HL.out
      have hge : decide ((m : Int) < 0) = false := by simp
      clear hw1 hh1 hg1 hfr hyr HP HL hall hmk
      by_cases hm3 : m < 3
      · have hlt3 : ((m + 1 : Nat) : Int) < 4 := by omega
        obtain ⟨W4, hW4⟩ : ∃ W4, (wr.setCell ⟨ib i, m * 2, none⟩ (.bool true)).setCell ⟨ib i, m * 2 + 1, none⟩ (.int .i64 x) = W4 := ⟨_, rfl⟩
        have lq4 : Lq w W4 (fun c => if c = i then ⟨r.b, fun j => if j = m then true else r.u j, fun j => if j = m then x else r.a j⟩ else two s t c) G c ib cb (cb + 1) i r.b ic := by
          rw [← hW4]
          refine HLT.out.putWay hi hm4 (fun c' hc' => if_neg hc') ?_ (fun j => ?_) (fun j => ?_)
          · rw [if_pos rfl, HR.out]
          · rw [if_pos rfl, HR.out]
          · rw [if_pos rfl, HR.out]
        have hwc := (HLT.out.cg.wcI i hi).facts
        obtain ⟨o0, e0⟩ := hwc.2 (m * 2) (by show m * 2 < 4 * 2; omega)
        obtain ⟨o1, e1⟩ := hwc.2 (m * 2 + 1) (by show m * 2 + 1 < 4 * 2; omega)
        have ef := hwc.1
        obtain ⟨x4, y4, y5, y6⟩ := lq4.cells
        have HL4 := hide lq4
        have ht := fun w => l9Touch_any bn m w hbn hm4
        have HTT : Hid (Plru.tI r.b (Ca.wy r x) = (Plru.touch bn m : Nat)) := hide (by rw [HWY.out, HBE.out]; exact Plru.tI_yes hbn hm4)
        generalize Plru.touch bn m = tt at ht HTT
        rw [HBE.out] at y4
        have hk0 : (0 : Int) ≤ (m : Int) := by omega
        have hk4 : (m : Int) < 4 := by omega
        clear lq4 hwc
        go_wp2_with fail
        refine (ht _).mono ?_
        rintro e w5 ⟨rfl, hb5⟩
        clear e0 e1 ef x4 y4 y5 y6 hW4
        have lq5 := HL4.out.below hb5
        obtain ⟨W6, hW6⟩ : ∃ W6, w5.setCell ⟨cb + 1, 0, none⟩ (.int .i64 (tt : Nat)) = W6 := ⟨_, rfl⟩
        obtain ⟨x5, y4, y5, y6⟩ := lq5.cells
        have lq6 : Lq w W6 (fun c => if c = i then ⟨r.b, fun j => if j = m then true else r.u j, fun j => if j = m then x else r.a j⟩ else two s t c) G c ib cb (cb + 1) i (tt : Nat) ic := by rw [← hW6]; exact lq5.putBits
        obtain ⟨x6, u4, u5, u6⟩ := lq6.cells
        have hwg := lq6.cg.wcG.facts
        obtain ⟨o0, e0⟩ := hwg.2 (i * 2) (by omega)
        obtain ⟨o1, e1⟩ := hwg.2 (i * 2 + 1) (by omega)
        have ef := hwg.1
        obtain ⟨W7, hW7⟩ : ∃ W7, (W6.setCell ⟨G, i * 2, none⟩ (.int .i64 (tt : Nat))).setCell ⟨G, i * 2 + 1, none⟩ (.slice (some ⟨ib i, 0, none⟩) 4 ic) = W7 := ⟨_, rfl⟩
        obtain ⟨n1, n2, n3, n4, n5, n6⟩ := lq6.ne
        have hG := lq6.cg.lo.1
        have hcg7 : Cg W7 (w.heap.size + 1 + 1) (sl G 2 c) 2 (fun _ => 4) (two (Ca.lk2 s t x).1 (Ca.lk2 s t x).2) G ib := by
          rw [← hW7]
          refine Cg.congr (D := fun c => if c = i then Ca.lk r x else two s t c) ?_ HTW.out
          refine lq6.cg.putSet (ic := ic) hi (fun c' hc' => by rw [if_neg hc', if_neg hc']) ?_ (fun j => ?_) (fun j => ?_)
          · rw [if_pos rfl]; exact HTT.out
          · rw [if_pos rfl, if_pos rfl]; simp only [Ca.lk, HWY.out, Int.natCast_inj]
          · rw [if_pos rfl, if_pos rfl]; simp only [Ca.lk, HWY.out, Int.natCast_inj]
        have x7 : W7.cell? ⟨cb, 0, none⟩ = some (sl G 2 c) := by rw [← hW7, other_set (fun e => n2 e.symm), other_set (fun e => n2 e.symm)]; exact x6
        have r7 : W7.heap[w.heap.size + 1]? = some (.cells #[.slice none 0 0] 26 (0, 0)) := by rw [← hW7, heap_setCell_other _ _ _ _ (show w.heap.size + 1 ≠ G by omega), heap_setCell_other _ _ _ _ (show w.heap.size + 1 ≠ G by omega)]; exact lq6.res
        have HB7 : Hid (Below w.heap.size w W7) := hide (by rw [← hW7]; exact (lq6.bel.setCell (show w.heap.size ≤ G by omega) _).setCell (show w.heap.size ≤ G by omega) _)
        have r0 := cell_of_row _ _ 0 _ _ _ r7
        have rf := frozen_of_row _ _ 0 _ _ r7
        simp at r0
        have HC7 := hide hcg7
        have hlo := hcg7.lo
        clear lq5 lq6 hb5 HL4 hcg7 r7 hwg ht
        go_wp2
        refine bodyPost_ret (v := .tuple #[.agg #[sl G 2 c], .bool false, .int .i64 (-1)]) (by simp [results, Try.results20, go_sem, r0]) rfl ⟨G, c, ib, by rw [HHG.out.1, HHG.out.2], ?_, HB7.out.setCell (by simp) _⟩
        exact (HC7.out.chg (S := fun j => j < w.heap.size + 1 + 1) ((Chg.refl _ _).set (by omega) _) (by omega) (fun c hc => by have := hlo.2 c hc; omega)).mono (by omega)
      · have hlt3 : ¬ ((m + 1 : Nat) : Int) < 4 := by omega
        obtain ⟨W4, hW4⟩ : ∃ W4, (wr.setCell ⟨ib i, m * 2, none⟩ (.bool true)).setCell ⟨ib i, m * 2 + 1, none⟩ (.int .i64 x) = W4 := ⟨_, rfl⟩
        have lq4 : Lq w W4 (fun c => if c = i then ⟨r.b, fun j => if j = m then true else r.u j, fun j => if j = m then x else r.a j⟩ else two s t c) G c ib cb (cb + 1) i r.b ic := by
          rw [← hW4]
          refine HLT.out.putWay hi hm4 (fun c' hc' => if_neg hc') ?_ (fun j => ?_) (fun j => ?_)
          · rw [if_pos rfl, HR.out]
          · rw [if_pos rfl, HR.out]
          · rw [if_pos rfl, HR.out]
        have hwc := (HLT.out.cg.wcI i hi).facts
        obtain ⟨o0, e0⟩ := hwc.2 (m * 2) (by show m * 2 < 4 * 2; omega)
        obtain ⟨o1, e1⟩ := hwc.2 (m * 2 + 1) (by show m * 2 + 1 < 4 * 2; omega)
        have ef := hwc.1
        obtain ⟨x4, y4, y5, y6⟩ := lq4.cells
        have HL4 := hide lq4
        have ht := fun w => l9Touch_any bn m w hbn hm4
        have HTT : Hid (Plru.tI r.b (Ca.wy r x) = (Plru.touch bn m : Nat)) := hide (by rw [HWY.out, HBE.out]; exact Plru.tI_yes hbn hm4)
        generalize Plru.touch bn m = tt at ht HTT
        rw [HBE.out] at y4
        have hk0 : (0 : Int) ≤ (m : Int) := by omega
        have hk4 : (m : Int) < 4 := by omega
        clear lq4 hwc
        go_wp2_with fail
        refine (ht _).mono ?_
        rintro e w5 ⟨rfl, hb5⟩
        clear e0 e1 ef x4 y4 y5 y6 hW4
        have lq5 := HL4.out.below hb5
        obtain ⟨W6, hW6⟩ : ∃ W6, w5.setCell ⟨cb + 1, 0, none⟩ (.int .i64 (tt : Nat)) = W6 := ⟨_, rfl⟩
        obtain ⟨x5, y4, y5, y6⟩ := lq5.cells
        have lq6 : Lq w W6 (fun c => if c = i then ⟨r.b, fun j => if j = m then true else r.u j, fun j => if j = m then x else r.a j⟩ else two s t c) G c ib cb (cb + 1) i (tt : Nat) ic := by rw [← hW6]; exact lq5.putBits
        obtain ⟨x6, u4, u5, u6⟩ := lq6.cells
        have hwg := lq6.cg.wcG.facts
        obtain ⟨o0, e0⟩ := hwg.2 (i * 2) (by omega)
        obtain ⟨o1, e1⟩ := hwg.2 (i * 2 + 1) (by omega)
        have ef := hwg.1
        obtain ⟨W7, hW7⟩ : ∃ W7, (W6.setCell ⟨G, i * 2, none⟩ (.int .i64 (tt : Nat))).setCell ⟨G, i * 2 + 1, none⟩ (.slice (some ⟨ib i, 0, none⟩) 4 ic) = W7 := ⟨_, rfl⟩
        obtain ⟨n1, n2, n3, n4, n5, n6⟩ := lq6.ne
        have hG := lq6.cg.lo.1
        have hcg7 : Cg W7 (w.heap.size + 1 + 1) (sl G 2 c) 2 (fun _ => 4) (two (Ca.lk2 s t x).1 (Ca.lk2 s t x).2) G ib := by
          rw [← hW7]
          refine Cg.congr (D := fun c => if c = i then Ca.lk r x else two s t c) ?_ HTW.out
          refine lq6.cg.putSet (ic := ic) hi (fun c' hc' => by rw [if_neg hc', if_neg hc']) ?_ (fun j => ?_) (fun j => ?_)
          · rw [if_pos rfl]; exact HTT.out
          · rw [if_pos rfl, if_pos rfl]; simp only [Ca.lk, HWY.out, Int.natCast_inj]
          · rw [if_pos rfl, if_pos rfl]; simp only [Ca.lk, HWY.out, Int.natCast_inj]
        have x7 : W7.cell? ⟨cb, 0, none⟩ = some (sl G 2 c) := by rw [← hW7, other_set (fun e => n2 e.symm), other_set (fun e => n2 e.symm)]; exact x6
        have r7 : W7.heap[w.heap.size + 1]? = some (.cells #[.slice none 0 0] 26 (0, 0)) := by rw [← hW7, heap_setCell_other _ _ _ _ (show w.heap.size + 1 ≠ G by omega), heap_setCell_other _ _ _ _ (show w.heap.size + 1 ≠ G by omega)]; exact lq6.res
        have HB7 : Hid (Below w.heap.size w W7) := hide (by rw [← hW7]; exact (lq6.bel.setCell (show w.heap.size ≤ G by omega) _).setCell (show w.heap.size ≤ G by omega) _)
        have r0 := cell_of_row _ _ 0 _ _ _ r7
        have rf := frozen_of_row _ _ 0 _ _ r7
        simp at r0
        have HC7 := hide hcg7
        have hlo := hcg7.lo
        clear lq5 lq6 hb5 HL4 hcg7 r7 hwg ht
        go_wp2
        refine bodyPost_ret (v := .tuple #[.agg #[sl G 2 c], .bool false, .int .i64 (-1)]) (by simp [results, Try.results20, go_sem, r0]) rfl ⟨G, c, ib, by rw [HHG.out.1, HHG.out.2], ?_, HB7.out.setCell (by simp) _⟩
        exact (HC7.out.chg (S := fun j => j < w.heap.size + 1 + 1) ((Chg.refl _ _).set (by omega) _) (by omega) (fun c hc => by have := hlo.2 c hc; omega)).mono (by omega)

end Go.Proofs.Ytlijgkodcbnhbaa
