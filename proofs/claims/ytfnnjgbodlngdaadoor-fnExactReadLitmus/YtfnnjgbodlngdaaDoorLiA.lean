/- rows of rows of acts: read ('Sa'), copied, compared (written by mkLi.py) -/
import Derived.Test.YtfnnjgbodlngdaaDoorLiR
import Derived.Deep.RegionHeld3
namespace Go.Proofs.YtfnnjgbodlngdaaDoor
open Go.RowKit
set_option linter.unusedVariables false
set_option linter.unusedSimpArgs false

/-- rows of acts: C of them, the c-th of L c acts, F c -/
def Sa (w : World) (v : Value) (C : Nat) (L : Nat → Nat) (F : Nat → Nat → Nat → Int) : Prop :=
  ∃ ad cap, v = .slice ad C cap ∧ (0 < C → ∃ b off, ad = some ⟨b, off, none⟩ ∧ ∀ c, c < C → ∃ ia ic, w.cell? ⟨b, off + c, none⟩ = some (.slice ia (L c) ic) ∧ Sr w (.slice ia (L c) ic) 5 (L c) (F c))

theorem Sa.below {w w' : World} {v : Value} {C : Nat} {L : Nat → Nat} {F : Nat → Nat → Nat → Int} (h : Sa w v C L F) (hb : Below w.heap.size w w') : Sa w' v C L F := by
  obtain ⟨ad, cap, rfl, h⟩ := h
  refine ⟨ad, cap, rfl, fun hp => ?_⟩
  obtain ⟨b, off, rfl, hc⟩ := h hp
  refine ⟨b, off, rfl, fun c hcc => ?_⟩
  obtain ⟨ia, ic, h1, h2⟩ := hc c hcc
  exact ⟨ia, ic, Below.keep hb _ _ h1, h2.below hb⟩

/-- rows that are being laid: the outer block g, filled up to k -/
def Oas (w : World) (g C k : Nat) (L : Nat → Nat) (F : Nat → Nat → Nat → Int) : Prop :=
  ∃ cur : Array Value, w.heap[g]? = some (.cells cur 52 (0, 0)) ∧ cur.size = C ∧ ∀ c, c < k → ∃ ib, cur[c]? = some (.slice (some ⟨ib, 0, none⟩) (L c) (L c)) ∧ g < ib ∧ Sr w (.slice (some ⟨ib, 0, none⟩) (L c) (L c)) 5 (L c) (F c)

theorem Oas.below {w w' : World} {g C k : Nat} {L : Nat → Nat} {F : Nat → Nat → Nat → Int} (h : Oas w g C k L F) (hb : Below w.heap.size w w') : Oas w' g C k L F := by
  obtain ⟨cur, h1, h2, h3⟩ := h
  refine ⟨cur, (hb.block g (lt_of_block h1)).trans h1, h2, fun c hc => ?_⟩
  obtain ⟨ib, a, b, d⟩ := h3 c hc
  exact ⟨ib, a, b, d.below hb⟩

theorem Oas.put {w : World} {g C k ib : Nat} {L : Nat → Nat} {F : Nat → Nat → Nat → Int} (h : Oas w g C k L F) (hk : k < C) (hne : g < ib) (hi : Sr w (.slice (some ⟨ib, 0, none⟩) (L k) (L k)) 5 (L k) (F k)) :
    Oas (w.setCell ⟨g, k, none⟩ (.slice (some ⟨ib, 0, none⟩) (L k) (L k))) g C (k + 1) L F := by
  obtain ⟨cur, h1, h2, h3⟩ := h
  refine ⟨cur.setIfInBounds k (.slice (some ⟨ib, 0, none⟩) (L k) (L k)), heap_setCell_same w g k _ _ _ h1, by simpa using h2, fun c hc => ?_⟩
  by_cases e : c = k
  · subst e
    refine ⟨ib, ?_, hne, hi.set (Nat.ne_of_lt hne)⟩
    rw [Array.getElem?_setIfInBounds_self_of_lt (by omega)]
  · obtain ⟨jb, a, b, d⟩ := h3 c (by omega)
    refine ⟨jb, ?_, b, d.set (Nat.ne_of_lt b)⟩
    rw [Array.getElem?_setIfInBounds_ne (by omega)]
    exact a

theorem Oas.facts {w : World} {g C k j : Nat} {L : Nat → Nat} {F : Nat → Nat → Nat → Int} (h : Oas w g C k L F) (hj : j < C) : w.frozen? ⟨g, j, none⟩ = false ∧ ∃ o, w.cell? ⟨g, j, none⟩ = some o := by
  obtain ⟨cur, h1, h2, _⟩ := h
  refine ⟨frozen_of_row _ _ j _ _ h1, cur[j], ?_⟩
  rw [cell_of_row _ _ _ _ _ _ h1]
  exact Array.getElem?_eq_getElem (by omega)

theorem Oas.ss {w : World} {g C : Nat} {L : Nat → Nat} {F : Nat → Nat → Nat → Int} (h : Oas w g C C L F) : Sa w (.slice (some ⟨g, 0, none⟩) C C) C L F := by
  obtain ⟨cur, h1, h2, h3⟩ := h
  refine ⟨some ⟨g, 0, none⟩, C, rfl, fun _ => ⟨g, 0, rfl, fun c hc => ?_⟩⟩
  obtain ⟨ib, a, _, d⟩ := h3 c hc
  refine ⟨_, _, ?_, d⟩
  rw [cell_of_row _ _ _ _ _ _ h1, Nat.zero_add]
  exact a

theorem infoActs : (Tryd.prog.info? 52).map (fun i => (i.zero, i.size, i.bytes)) = some (some (.slice none 0 0), 1, 24) := by kernel_rfl

theorem oas_start {w1 : World} {base g n : Nat} {xs : List Value} {L : Nat → Nat} {F : Nat → Nat → Nat → Int} (h : w1.ownsRow base 52 1 (.slice (some ⟨g, 0, none⟩) n n) n xs) : Oas w1 g n 0 L F := by
  rcases h.2 with ⟨h', _⟩ | ⟨g', cap', cur, h', _, hg, _, _, hcs, _⟩
  · simp at h'
  · simp only [Value.slice.injEq, Option.some.injEq, Addr.mk.injEq, and_true, true_and] at h'
    obtain ⟨rfl, rfl⟩ := h'
    exact ⟨cur, hg, by omega, fun c hc => by omega⟩

set_option maxHeartbeats 2000000 in
theorem toBActSS_any (v : Value) (n : Nat) (L : Nat → Nat) (F : Nat → Nat → Nat → Int) (w : World) (hs : Sa w v n L F) (hb : n ≤ 1048576) (hL : ∀ c, c < n → L c ≤ 1048576) :
    Calls Tryd.prog 23 #[v] w fun e w' => ∃ g, e = .returned (.slice (some ⟨g, 0, none⟩) n n) ∧ w.heap.size ≤ g ∧ Oas w' g n n L F ∧ Below w.heap.size w w' := by
  obtain ⟨ad, cap, rfl, hs⟩ := hs
  obtain ⟨i0, hi, hz0, hz1, hz2⟩ := info_parts infoActs
  go_enter Tryd.func23, Tryd.ntmps23
  go_wp2_with (at_make; refine wpList_make_full _ rfl _ _ 27 rfl w.heap.size 52 i0 (.slice none 0 0) 1 Tryd.underlying27 hi hz0 hz1 .i64 .i64 n n n rfl rfl rfl rfl (by rw [hz2]; omega) (by unfold maxLen; omega) (Nat.le_refl _) ?_; intro w1 ho1 hg1)
  have ho : Oas w1 w.heap.size n 0 L F := oas_start ho1
  have hb1 : Below w.heap.size w w1 := (Below.refl _ _).grown hg1 (Nat.le_refl _) (fun k hk => by cases hk)
  clear ho1 hg1
  go_loopw [4] (fun i wr => ∃ k : Nat, k ≤ n ∧ i = .int .i64 k ∧ Oas wr w.heap.size n k L F ∧ Below w.heap.size w wr) (fun i _ => n - (intOf i).toNat)
  case atStart => exact ⟨0, Nat.zero_le _, rfl, ho, hb1⟩
  case round =>
    obtain ⟨k, hk, rfl, hok, hbk⟩ := hrel
    clear ho hb1
    by_cases hlt : k < n
    · obtain ⟨b, off, rfl, hc⟩ := hs (by omega)
      obtain ⟨ia, ic, q0', hr⟩ := hc k hlt
      have q0 : wr.cell? ⟨b, off + k, none⟩ = some (.slice ia (L k) ic) := Below.keep hbk _ _ q0'
      have hr' := hr.below hbk
      clear hs hc q0' hr
      go_wp2_with fail
      refine (toBActS_any _ (L k) (F k) _ hr' (hL k hlt)).mono ?_
      rintro e w2 ⟨ib, rfl, hro, hb2⟩
      have hok2 := hok.below hb2
      have hbk2 := hbk.trans (hb2.mono hbk.size)
      have hib := hro.block
      have hgl : w.heap.size < wr.heap.size := by
        obtain ⟨cur, h1, _⟩ := hok
        exact lt_of_block h1
      obtain ⟨fr, o, ho⟩ := hok2.facts hlt
      have hB2 : Below w.heap.size w (w2.setCell ⟨w.heap.size, k, none⟩ (.slice (some ⟨ib, 0, none⟩) (L k) (L k))) := hbk2.setCell (Nat.le_refl _) _
      have HB := hide (And.intro (hok2.put hlt (by omega) hro.sr) hB2)
      clear hok hok2 hbk hbk2 hb2 hB2 q0 hr' hro
      go_wp2
      go_roundw
      case rel => exact ⟨k + 1, by omega, by go_num, HB.out.1, HB.out.2⟩
      case measure => simp [intOf]; omega
    · go_wp2
      go_ret
      have e : k = n := by omega
      subst e
      exact ⟨_, rfl, Nat.le_refl _, hok, hbk⟩

set_option maxHeartbeats 2000000 in
theorem eqBActSS_same (a b : Value) (n : Nat) (L : Nat → Nat) (F : Nat → Nat → Nat → Int) (w : World) (ha : Sa w a n L F) (hb : Sa w b n L F) (hl : n ≤ 1048576) (hL : ∀ c, c < n → L c ≤ 1048576) :
    Calls Tryd.prog 27 #[a, b] w fun e w' => e = .returned (.bool true) ∧ Below w.heap.size w w' := by
  obtain ⟨ad, cap, rfl, ha⟩ := ha
  obtain ⟨bd, cbp, rfl, hb⟩ := hb
  go_enter Tryd.func27, Tryd.ntmps27
  go_wp2
  go_loopw [5] (fun i wr => ∃ k : Nat, k ≤ n ∧ i = .int .i64 k ∧ Below w.heap.size w wr) (fun i _ => n - (intOf i).toNat)
  case atStart => exact ⟨0, Nat.zero_le _, rfl, Below.refl _ _⟩
  case round =>
    obtain ⟨k, hk, rfl, hbk⟩ := hrel
    by_cases hlt : k < n
    · obtain ⟨p, off, rfl, hc⟩ := ha (by omega)
      obtain ⟨q, off', rfl, hd⟩ := hb (by omega)
      obtain ⟨ia, ic, c0', ra⟩ := hc k hlt
      obtain ⟨ja, jc, d0', rb⟩ := hd k hlt
      have c0 : wr.cell? ⟨p, off + k, none⟩ = some (.slice ia (L k) ic) := Below.keep hbk _ _ c0'
      have d0 : wr.cell? ⟨q, off' + k, none⟩ = some (.slice ja (L k) jc) := Below.keep hbk _ _ d0'
      have hk0 : (0 : Int) ≤ (k : Int) := by omega
      have hk1 : (k : Int) < (n : Int) := by omega
      have hLk := hL k hlt
      have RA := hide ra
      have RB := hide rb
      clear hc hd ha hb c0' d0' ra rb hL
      go_wp2
      go_region_held3 (fun w' => Below w.heap.size w w' ∧ w'.cell? ⟨p, off + k, none⟩ = some (.slice ia (L k) ic) ∧ w'.cell? ⟨q, off' + k, none⟩ = some (.slice ja (L k) jc)) (first | exact ⟨hbk.drew, c0, d0⟩ | exact keepS2 (by assumption) hbc) (first | (go_at_call 58; refine (eqBActS_same _ _ (L k) (F k) _ ?_ ?_ hLk).mono ?_; exact RA.out.below hbk.drew; exact RB.out.below hbk.drew; rintro e w2 ⟨rfl, hbc⟩))
      all_goals go_wp2
      all_goals rename_i hS
      all_goals go_roundw
      case rel => exact ⟨k + 1, by omega, by go_num, hS.1⟩
      case measure => simp [intOf]; omega
    · go_wp2
      go_ret
      exact ⟨rfl, hbk⟩

end Go.Proofs.YtfnnjgbodlngdaaDoor
