/- laws.toTso once more: its rows may be marked (written by mkTmD.py) -/
import Derived.Test.YtneofegnbflfiaaTmC
import Derived.Test.YtneofegnbflfiaaTkM
namespace Go.Proofs.Ytneofegnbflfiaa
open Go.RowKit
set_option linter.unusedVariables false
set_option linter.unusedSimpArgs false

/-- a row that may be written -/
def Srx (w : World) (v : Value) (n : Nat) (f : Nat → Nat → Int) : Prop := Sr w v 2 n f ∧ ∀ g off m cap, v = .slice (some ⟨g, off, none⟩) m cap → Wc w g (off + n * 2)
def Slx (w : World) (v : Value) (zs : List Int) : Prop := Sl w v zs ∧ ∀ g off m cap, v = .slice (some ⟨g, off, none⟩) m cap → Wc w g (off + zs.length)
theorem Srx.below {w w' : World} {v : Value} {n : Nat} {f : Nat → Nat → Int} (h : Srx w v n f) (hb : Below w.heap.size w w') : Srx w' v n f := ⟨h.1.below hb, fun g off m cap e => (h.2 g off m cap e).below hb⟩
theorem Slx.below {w w' : World} {v : Value} {zs : List Int} (h : Slx w v zs) (hb : Below w.heap.size w w') : Slx w' v zs := ⟨h.1.below hb, fun g off m cap e => (h.2 g off m cap e).below hb⟩
theorem Srx.set {w : World} {ib n cap B i : Nat} {f : Nat → Nat → Int} {x : Value} (h : Srx w (.slice (some ⟨ib, 0, none⟩) n cap) n f) (hne : B ≠ ib) : Srx (w.setCell ⟨B, i, none⟩ x) (.slice (some ⟨ib, 0, none⟩) n cap) n f := ⟨h.1.set hne, fun g off m cap e => (h.2 g off m cap e).set x⟩
theorem Slx.set {w : World} {ib n cap B i : Nat} {zs : List Int} {x : Value} (h : Slx w (.slice (some ⟨ib, 0, none⟩) n cap) zs) (hne : B ≠ ib) : Slx (w.setCell ⟨B, i, none⟩ x) (.slice (some ⟨ib, 0, none⟩) n cap) zs := ⟨h.1.set hne, fun g off m cap e => (h.2 g off m cap e).set x⟩
theorem wc_own {w : World} {base m n : Nat} {T : TypeId} {v : Value} {xs : List Value} (h : w.ownsRow base T m v n xs) (hm : 0 < m) : ∀ g off n' cap, v = .slice (some ⟨g, off, none⟩) n' cap → Wc w g (off + n * m) := fun g off n' cap e => by
  rcases h.2 with ⟨h', _⟩ | ⟨g', cap', cur, h', hb, hg, hnc, _, hcs, _⟩
  · rw [h'] at e; simp at e
  · rw [h'] at e
    simp only [Value.slice.injEq, Option.some.injEq, Addr.mk.injEq] at e
    obtain ⟨⟨rfl, rfl, _⟩, rfl, rfl⟩ := e
    refine ⟨cur, T, hg, ?_⟩
    rw [hcs, Nat.zero_add]
    exact Nat.mul_le_mul_right _ hnc
theorem Orow.srx {w : World} {base : Nat} {T : TypeId} {v : Value} {n : Nat} {f : Nat → Nat → Int} (h : Orow w base T 2 v n n f) : Srx w v n f := ⟨Orow.sr h, wc_own h (by decide)⟩
theorem Ow.slx {w : World} {base : Nat} {v : Value} {zs : List Int} (h : Ow w base v zs) : Slx w v zs := ⟨Ow.sl h, fun g off m cap e => by
  have := wc_own h (by decide) g off m cap e
  rw [Nat.mul_one] at this
  exact this⟩

/-- rows that are being laid: the outer block g, filled up to k; the inner ones behind it and ahead of E -/
def Osw (w : World) (g C k E : Nat) (L : Nat → Nat) (F : Nat → Nat → Nat → Int) : Prop :=
  ∃ cur : Array Value, w.heap[g]? = some (.cells cur 33 (0, 0)) ∧ cur.size = C ∧ ∀ c, c < k → ∃ ib, cur[c]? = some (.slice (some ⟨ib, 0, none⟩) (L c) (L c)) ∧ (g < ib ∧ ib < E) ∧ Srx w (.slice (some ⟨ib, 0, none⟩) (L c) (L c)) (L c) (F c)

theorem Osw.below {w w' : World} {g C k E : Nat} {L : Nat → Nat} {F : Nat → Nat → Nat → Int} (h : Osw w g C k E L F) (hb : Below w.heap.size w w') : Osw w' g C k E L F := by
  obtain ⟨cur, h1, h2, h3⟩ := h
  refine ⟨cur, (hb.block g (lt_of_block h1)).trans h1, h2, fun c hc => ?_⟩
  obtain ⟨ib, a, b, d⟩ := h3 c hc
  exact ⟨ib, a, b, d.below hb⟩

theorem Osw.mono {w : World} {g C k E E' : Nat} {L : Nat → Nat} {F : Nat → Nat → Nat → Int} (h : Osw w g C k E L F) (hE : E ≤ E') : Osw w g C k E' L F := by
  obtain ⟨cur, h1, h2, h3⟩ := h
  refine ⟨cur, h1, h2, fun c hc => ?_⟩
  obtain ⟨ib, a, b, d⟩ := h3 c hc
  exact ⟨ib, a, ⟨b.1, Nat.lt_of_lt_of_le b.2 hE⟩, d⟩

theorem Osw.put {w : World} {g C k ib E : Nat} {L : Nat → Nat} {F : Nat → Nat → Nat → Int} (h : Osw w g C k E L F) (hk : k < C) (hne : g < ib ∧ ib < E) (hi : Srx w (.slice (some ⟨ib, 0, none⟩) (L k) (L k)) (L k) (F k)) :
    Osw (w.setCell ⟨g, k, none⟩ (.slice (some ⟨ib, 0, none⟩) (L k) (L k))) g C (k + 1) E L F := by
  obtain ⟨cur, h1, h2, h3⟩ := h
  refine ⟨cur.setIfInBounds k (.slice (some ⟨ib, 0, none⟩) (L k) (L k)), heap_setCell_same w g k _ _ _ h1, by simpa using h2, fun c hc => ?_⟩
  by_cases e : c = k
  · subst e
    refine ⟨ib, ?_, hne, hi.set (Nat.ne_of_lt hne.1)⟩
    rw [Array.getElem?_setIfInBounds_self_of_lt (by omega)]
  · obtain ⟨jb, a, b, d⟩ := h3 c (by omega)
    refine ⟨jb, ?_, b, d.set (Nat.ne_of_lt b.1)⟩
    rw [Array.getElem?_setIfInBounds_ne (by omega)]
    exact a

theorem Osw.facts {w : World} {g C k j E : Nat} {L : Nat → Nat} {F : Nat → Nat → Nat → Int} (h : Osw w g C k E L F) (hj : j < C) : w.frozen? ⟨g, j, none⟩ = false ∧ ∃ o, w.cell? ⟨g, j, none⟩ = some o := by
  obtain ⟨cur, h1, h2, _⟩ := h
  refine ⟨frozen_of_row _ _ j _ _ h1, cur[j], ?_⟩
  rw [cell_of_row _ _ _ _ _ _ h1]
  exact Array.getElem?_eq_getElem (by omega)

theorem Osw.set {w : World} {g C k B i E : Nat} {L : Nat → Nat} {F : Nat → Nat → Nat → Int} {v : Value} (h : Osw w g C k E L F) (hlt : B < g) : Osw (w.setCell ⟨B, i, none⟩ v) g C k E L F := by
  obtain ⟨cur, h1, h2, h3⟩ := h
  refine ⟨cur, ?_, h2, fun c hc => ?_⟩
  · rw [heap_setCell_other _ _ _ _ (by first | omega | (simp; omega))]; exact h1
  · obtain ⟨ib, a, b, d⟩ := h3 c hc
    exact ⟨ib, a, b, d.set (by omega)⟩

/-- what they are -/
theorem Osw.rows {w : World} {g C E : Nat} {L : Nat → Nat} {F : Nat → Nat → Nat → Int} (h : Osw w g C C E L F) : ∃ vb : Nat → Value, Svs w (.slice (some ⟨g, 0, none⟩) C C) C vb ∧ Wc w g C ∧ ∀ c, c < C → ∃ ib, vb c = .slice (some ⟨ib, 0, none⟩) (L c) (L c) ∧ (g < ib ∧ ib < E) ∧ Srx w (vb c) (L c) (F c) := by
  obtain ⟨cur, h1, h2, h3⟩ := h
  refine ⟨fun c => (cur[c]?).getD undef, ⟨some ⟨g, 0, none⟩, C, rfl, fun _ => ⟨g, 0, rfl, fun c hc => ?_⟩⟩, ⟨cur, _, h1, by omega⟩, fun c hc => ?_⟩
  · obtain ⟨ib, a, _, d⟩ := h3 c hc
    rw [cell_of_row _ _ _ _ _ _ h1, Nat.zero_add]
    show cur[c]? = some ((cur[c]?).getD undef)
    rw [a]
    rfl
  · obtain ⟨ib, a, b, d⟩ := h3 c hc
    have e : (cur[c]?).getD undef = .slice (some ⟨ib, 0, none⟩) (L c) (L c) := by rw [a]; rfl
    exact ⟨ib, e, b, by dsimp only; rw [e]; exact d⟩

theorem Osw_start {w1 : World} {base g n E : Nat} {xs : List Value} {L : Nat → Nat} {F : Nat → Nat → Nat → Int} (h : w1.ownsRow base 33 1 (.slice (some ⟨g, 0, none⟩) n n) n xs) : Osw w1 g n 0 E L F := by
  rcases h.2 with ⟨h', _⟩ | ⟨g', cap', cur, h', _, hg, _, _, hcs, _⟩
  · simp at h'
  · simp only [Value.slice.injEq, Option.some.injEq, Addr.mk.injEq, and_true, true_and] at h'
    obtain ⟨rfl, rfl⟩ := h'
    exact ⟨cur, hg, by omega, fun c hc => by omega⟩

set_option maxHeartbeats 2000000 in
theorem toStoreSSw_any (v : Value) (n : Nat) (L : Nat → Nat) (F : Nat → Nat → Nat → Int) (w : World) (hs : Ss w v n L F) (hb : n ≤ 1048576) (hL : ∀ c, c < n → L c ≤ 1048576) :
    Calls Try.prog 68 #[v] w fun e w' => ∃ g, e = .returned (.slice (some ⟨g, 0, none⟩) n n) ∧ w.heap.size ≤ g ∧ Osw w' g n n w'.heap.size L F ∧ Below w.heap.size w w' := by
  obtain ⟨ad, cap, rfl, hs⟩ := hs
  obtain ⟨i0, hi, hz0, hz1, hz2⟩ := info_parts infoStores
  go_enter Try.func68, Try.ntmps68
  go_wp2_with (at_make; refine wpList_make_full _ rfl _ _ 25 rfl w.heap.size 33 i0 (.slice none 0 0) 1 Try.underlying25 hi hz0 hz1 .i64 .i64 n n n rfl rfl rfl rfl (by rw [hz2]; omega) (by unfold maxLen; omega) (Nat.le_refl _) ?_; intro w1 ho1 hg1)
  have ho : Osw w1 w.heap.size n 0 w1.heap.size L F := Osw_start ho1
  have hb1 : Below w.heap.size w w1 := (Below.refl _ _).grown hg1 (Nat.le_refl _) (fun k hk => by cases hk)
  clear ho1 hg1
  go_loopw [4] (fun i wr => ∃ k : Nat, k ≤ n ∧ i = .int .i64 k ∧ Osw wr w.heap.size n k wr.heap.size L F ∧ Below w.heap.size w wr) (fun i _ => n - (intOf i).toNat)
  case atStart => exact ⟨0, Nat.zero_le _, rfl, ho, hb1⟩
  case round =>
    obtain ⟨k, hk, rfl, hok, hbk⟩ := hrel
    clear ho hb1
    by_cases hlt : k < n
    · obtain ⟨b, off, rfl, hc⟩ := hs (by omega)
      obtain ⟨ia, ic, q0', hr⟩ := hc k hlt
      have q0 : wr.cell? ⟨b, off + k, none⟩ = some (.slice ia (L k) ic) := Below.keep hbk _ _ q0'
      have hr' := hr.below hbk
      clear hs hc q0' hr
      go_wp2_with fail
      refine (toStoreS_any _ (L k) (F k) _ hr' (hL k hlt)).mono ?_
      rintro e w2 ⟨ib, rfl, hro, hb2⟩
      have hib := hro.block
      have hok2 := (hok.below hb2).mono hb2.size
      have hbk2 := hbk.trans (hb2.mono hbk.size)
      have hgl : w.heap.size < wr.heap.size := by
        obtain ⟨cur, h1, _⟩ := hok
        exact lt_of_block h1
      obtain ⟨fr, o, ho⟩ := hok2.facts hlt
      have hB2 : Below w.heap.size w (w2.setCell ⟨w.heap.size, k, none⟩ (.slice (some ⟨ib, 0, none⟩) (L k) (L k))) := hbk2.setCell (Nat.le_refl _) _
      have hZ : Osw (w2.setCell ⟨w.heap.size, k, none⟩ (.slice (some ⟨ib, 0, none⟩) (L k) (L k))) w.heap.size n (k + 1) (w2.setCell ⟨w.heap.size, k, none⟩ (.slice (some ⟨ib, 0, none⟩) (L k) (L k))).heap.size L F := by
        rw [World.size_setCell]
        exact hok2.put hlt (by omega) hro.srx
      have HB := hide (And.intro hZ hB2)
      clear hok hok2 hbk hbk2 hb2 hB2 q0 hr' hro hZ
      go_wp2
      go_roundw
      case rel => exact ⟨k + 1, by omega, by go_num, HB.out.1, HB.out.2⟩
      case measure => simp [intOf]; omega
    · go_wp2
      go_ret
      have e : k = n := by omega
      subst e
      exact ⟨_, rfl, Nat.le_refl _, hok, hbk⟩

/-- rows that are being laid: the outer block g, filled up to k; the inner ones behind it and ahead of E -/
def Oiw (w : World) (g C k E : Nat) (Z : Nat → List Int) : Prop :=
  ∃ cur : Array Value, w.heap[g]? = some (.cells cur 24 (0, 0)) ∧ cur.size = C ∧ ∀ c, c < k → ∃ ib, cur[c]? = some (.slice (some ⟨ib, 0, none⟩) ((Z c).length) ((Z c).length)) ∧ (g < ib ∧ ib < E) ∧ Slx w (.slice (some ⟨ib, 0, none⟩) ((Z c).length) ((Z c).length)) (Z c)

theorem Oiw.below {w w' : World} {g C k E : Nat} {Z : Nat → List Int} (h : Oiw w g C k E Z) (hb : Below w.heap.size w w') : Oiw w' g C k E Z := by
  obtain ⟨cur, h1, h2, h3⟩ := h
  refine ⟨cur, (hb.block g (lt_of_block h1)).trans h1, h2, fun c hc => ?_⟩
  obtain ⟨ib, a, b, d⟩ := h3 c hc
  exact ⟨ib, a, b, d.below hb⟩

theorem Oiw.mono {w : World} {g C k E E' : Nat} {Z : Nat → List Int} (h : Oiw w g C k E Z) (hE : E ≤ E') : Oiw w g C k E' Z := by
  obtain ⟨cur, h1, h2, h3⟩ := h
  refine ⟨cur, h1, h2, fun c hc => ?_⟩
  obtain ⟨ib, a, b, d⟩ := h3 c hc
  exact ⟨ib, a, ⟨b.1, Nat.lt_of_lt_of_le b.2 hE⟩, d⟩

theorem Oiw.put {w : World} {g C k ib E : Nat} {Z : Nat → List Int} (h : Oiw w g C k E Z) (hk : k < C) (hne : g < ib ∧ ib < E) (hi : Slx w (.slice (some ⟨ib, 0, none⟩) ((Z k).length) ((Z k).length)) (Z k)) :
    Oiw (w.setCell ⟨g, k, none⟩ (.slice (some ⟨ib, 0, none⟩) ((Z k).length) ((Z k).length))) g C (k + 1) E Z := by
  obtain ⟨cur, h1, h2, h3⟩ := h
  refine ⟨cur.setIfInBounds k (.slice (some ⟨ib, 0, none⟩) ((Z k).length) ((Z k).length)), heap_setCell_same w g k _ _ _ h1, by simpa using h2, fun c hc => ?_⟩
  by_cases e : c = k
  · subst e
    refine ⟨ib, ?_, hne, hi.set (Nat.ne_of_lt hne.1)⟩
    rw [Array.getElem?_setIfInBounds_self_of_lt (by omega)]
  · obtain ⟨jb, a, b, d⟩ := h3 c (by omega)
    refine ⟨jb, ?_, b, d.set (Nat.ne_of_lt b.1)⟩
    rw [Array.getElem?_setIfInBounds_ne (by omega)]
    exact a

theorem Oiw.facts {w : World} {g C k j E : Nat} {Z : Nat → List Int} (h : Oiw w g C k E Z) (hj : j < C) : w.frozen? ⟨g, j, none⟩ = false ∧ ∃ o, w.cell? ⟨g, j, none⟩ = some o := by
  obtain ⟨cur, h1, h2, _⟩ := h
  refine ⟨frozen_of_row _ _ j _ _ h1, cur[j], ?_⟩
  rw [cell_of_row _ _ _ _ _ _ h1]
  exact Array.getElem?_eq_getElem (by omega)

theorem Oiw.set {w : World} {g C k B i E : Nat} {Z : Nat → List Int} {v : Value} (h : Oiw w g C k E Z) (hlt : B < g) : Oiw (w.setCell ⟨B, i, none⟩ v) g C k E Z := by
  obtain ⟨cur, h1, h2, h3⟩ := h
  refine ⟨cur, ?_, h2, fun c hc => ?_⟩
  · rw [heap_setCell_other _ _ _ _ (by first | omega | (simp; omega))]; exact h1
  · obtain ⟨ib, a, b, d⟩ := h3 c hc
    exact ⟨ib, a, b, d.set (by omega)⟩

/-- what they are -/
theorem Oiw.rows {w : World} {g C E : Nat} {Z : Nat → List Int} (h : Oiw w g C C E Z) : ∃ vb : Nat → Value, Svs w (.slice (some ⟨g, 0, none⟩) C C) C vb ∧ Wc w g C ∧ ∀ c, c < C → ∃ ib, vb c = .slice (some ⟨ib, 0, none⟩) ((Z c).length) ((Z c).length) ∧ (g < ib ∧ ib < E) ∧ Slx w (vb c) (Z c) := by
  obtain ⟨cur, h1, h2, h3⟩ := h
  refine ⟨fun c => (cur[c]?).getD undef, ⟨some ⟨g, 0, none⟩, C, rfl, fun _ => ⟨g, 0, rfl, fun c hc => ?_⟩⟩, ⟨cur, _, h1, by omega⟩, fun c hc => ?_⟩
  · obtain ⟨ib, a, _, d⟩ := h3 c hc
    rw [cell_of_row _ _ _ _ _ _ h1, Nat.zero_add]
    show cur[c]? = some ((cur[c]?).getD undef)
    rw [a]
    rfl
  · obtain ⟨ib, a, b, d⟩ := h3 c hc
    have e : (cur[c]?).getD undef = .slice (some ⟨ib, 0, none⟩) ((Z c).length) ((Z c).length) := by rw [a]; rfl
    exact ⟨ib, e, b, by dsimp only; rw [e]; exact d⟩

theorem Oiw_start {w1 : World} {base g n E : Nat} {xs : List Value} {Z : Nat → List Int} (h : w1.ownsRow base 24 1 (.slice (some ⟨g, 0, none⟩) n n) n xs) : Oiw w1 g n 0 E Z := by
  rcases h.2 with ⟨h', _⟩ | ⟨g', cap', cur, h', _, hg, _, _, hcs, _⟩
  · simp at h'
  · simp only [Value.slice.injEq, Option.some.injEq, Addr.mk.injEq, and_true, true_and] at h'
    obtain ⟨rfl, rfl⟩ := h'
    exact ⟨cur, hg, by omega, fun c hc => by omega⟩

set_option maxHeartbeats 2000000 in
theorem toInt64SSw_any (v : Value) (n : Nat) (Z : Nat → List Int) (w : World) (hs : Si w v n Z) (hb : n ≤ 1048576) (hL : ∀ c, c < n → (Z c).length ≤ 1048576) :
    Calls Try.prog 69 #[v] w fun e w' => ∃ g, e = .returned (.slice (some ⟨g, 0, none⟩) n n) ∧ w.heap.size ≤ g ∧ Oiw w' g n n w'.heap.size Z ∧ Below w.heap.size w w' := by
  obtain ⟨ad, cap, rfl, hs⟩ := hs
  obtain ⟨i0, hi, hz0, hz1, hz2⟩ := info_parts infoInts
  go_enter Try.func69, Try.ntmps69
  go_wp2_with (at_make; refine wpList_make_full _ rfl _ _ 26 rfl w.heap.size 24 i0 (.slice none 0 0) 1 Try.underlying26 hi hz0 hz1 .i64 .i64 n n n rfl rfl rfl rfl (by rw [hz2]; omega) (by unfold maxLen; omega) (Nat.le_refl _) ?_; intro w1 ho1 hg1)
  have ho : Oiw w1 w.heap.size n 0 w1.heap.size Z := Oiw_start ho1
  have hb1 : Below w.heap.size w w1 := (Below.refl _ _).grown hg1 (Nat.le_refl _) (fun k hk => by cases hk)
  clear ho1 hg1
  go_loopw [4] (fun i wr => ∃ k : Nat, k ≤ n ∧ i = .int .i64 k ∧ Oiw wr w.heap.size n k wr.heap.size Z ∧ Below w.heap.size w wr) (fun i _ => n - (intOf i).toNat)
  case atStart => exact ⟨0, Nat.zero_le _, rfl, ho, hb1⟩
  case round =>
    obtain ⟨k, hk, rfl, hok, hbk⟩ := hrel
    clear ho hb1
    by_cases hlt : k < n
    · obtain ⟨b, off, rfl, hc⟩ := hs (by omega)
      obtain ⟨ia, ic, q0', hr⟩ := hc k hlt
      have q0 : wr.cell? ⟨b, off + k, none⟩ = some (.slice ia ((Z k).length) ic) := Below.keep hbk _ _ q0'
      have hr' := hr.below hbk
      clear hs hc q0' hr
      go_wp2_with fail
      refine (copy_any _ (Z k) _ hr' (hL k hlt)).mono ?_
      rintro e w2 ⟨u2, rfl, hro, hb2, ib, rfl⟩
      have hib := World.ownsRow.lt hro ib rfl
      have hok2 := (hok.below hb2).mono hb2.size
      have hbk2 := hbk.trans (hb2.mono hbk.size)
      have hgl : w.heap.size < wr.heap.size := by
        obtain ⟨cur, h1, _⟩ := hok
        exact lt_of_block h1
      obtain ⟨fr, o, ho⟩ := hok2.facts hlt
      have hB2 : Below w.heap.size w (w2.setCell ⟨w.heap.size, k, none⟩ (.slice (some ⟨ib, 0, none⟩) ((Z k).length) ((Z k).length))) := hbk2.setCell (Nat.le_refl _) _
      have hZ : Oiw (w2.setCell ⟨w.heap.size, k, none⟩ (.slice (some ⟨ib, 0, none⟩) ((Z k).length) ((Z k).length))) w.heap.size n (k + 1) (w2.setCell ⟨w.heap.size, k, none⟩ (.slice (some ⟨ib, 0, none⟩) ((Z k).length) ((Z k).length))).heap.size Z := by
        rw [World.size_setCell]
        exact hok2.put hlt (by omega) hro.slx
      have HB := hide (And.intro hZ hB2)
      clear hok hok2 hbk hbk2 hb2 hB2 q0 hr' hro hZ
      go_wp2
      go_roundw
      case rel => exact ⟨k + 1, by omega, by go_num, HB.out.1, HB.out.2⟩
      case measure => simp [intOf]; omega
    · go_wp2
      go_ret
      have e : k = n := by omega
      subst e
      exact ⟨_, rfl, Nat.le_refl _, hok, hbk⟩

set_option maxHeartbeats 4000000 in
theorem toTsow_any (mv bv rv : Value) (zs : List Int) (C : Nat) (L : Nat → Nat) (F : Nat → Nat → Nat → Int) (R : Nat) (Z : Nat → List Int) (w : World) (hs : Sl w mv zs) (hl : Ss w bv C L F) (hq : Si w rv R Z) (hz : Tl zs C L R Z) :
    Calls Try.prog 32 #[.agg (mc3 mv bv rv)] w fun e w' => ∃ g1 g2 g3 E, e = .returned (.agg (mc3 (full g1 zs.length) (full g2 C) (full g3 R))) ∧ Slx w' (full g1 zs.length) zs ∧ Osw w' g2 C C E L F ∧ Oiw w' g3 R R w'.heap.size Z ∧ Below w.heap.size w w' ∧ (w.heap.size ≤ g1 ∧ g1 < g2 ∧ g2 < g3 ∧ E ≤ g3) := by
  generalize hA : Obj.cells (mc3 mv bv rv) 55 = A
  generalize hZ : Obj.cells (mc3 nil3 nil3 nil3) 28 = Z
  have eA : (((w.alloc A).alloc Z).alloc Z).heap[w.heap.size]? = some A := by
    rw [Below.heap_alloc _ _ _ (by simp; omega), Below.heap_alloc _ _ _ (by simp)]; exact heap_alloc_new _ _
  have eZ : (((w.alloc A).alloc Z).alloc Z).heap[w.heap.size + 1]? = some Z := by
    rw [Below.heap_alloc _ _ _ (by simp)]; have := heap_alloc_new (w.alloc A) Z; simpa only [World.size_alloc] using this
  have eO : (((w.alloc A).alloc Z).alloc Z).heap[w.heap.size + 1 + 1]? = some Z := by
    have := heap_alloc_new ((w.alloc A).alloc Z) Z; simpa only [World.size_alloc] using this
  have hb0 : Below w.heap.size w (((w.alloc A).alloc Z).alloc Z) := (((Below.refl _ _).alloc (Nat.le_refl _) _).alloc (by simp) _).alloc (by simp; omega) _
  have hz0 : (((w.alloc A).alloc Z).alloc Z).heap.size = w.heap.size + 1 + 1 + 1 := by simp
  subst hA hZ
  have HE := hide (And.intro eA (And.intro eZ (And.intro eO (And.intro hb0 hz0))))
  clear eA eZ eO hb0 hz0
  have hO2 : w.heap.size ≤ w.heap.size + 1 + 1 := by omega
  go_enter Try.func32, Try.ntmps32
  go_wp2_with fail
  refine (copy_any mv zs _ (hs.below HE.out.2.2.2.1) hz.mem).mono ?_
  rintro e w1 ⟨u1, rfl, ho1, hb1, g1, rfl⟩
  have hg1 := (World.ownsRow.lt ho1 g1 rfl).1
  have ho1 := Ow.slx ho1
  obtain ⟨eA, eZ, eO, hb0, hz0⟩ := HE.out
  have rA := (hb1.block _ (by rw [hz0]; omega)).trans eA
  have rZ := (hb1.block _ (by rw [hz0]; omega)).trans eZ
  have rO := (hb1.block _ (by rw [hz0]; omega)).trans eO
  have hbw := hb0.trans (hb1.mono hb0.size)
  rw [hz0] at hg1
  clear hb1 hb0 hz0 eA eZ eO HE
  obtain ⟨_, a0, a1, a2⟩ := row3_facts rA
  obtain ⟨fO, o0, o1, o2⟩ := row3_facts rO
  have HW : Hid (∀ W, (w1.setCell ⟨w.heap.size + 1 + 1, 0, none⟩ (full g1 zs.length)) = W → Below w.heap.size w W ∧ Slx W (full g1 zs.length) zs ∧ W.heap[w.heap.size]? = some (.cells (mc3 mv bv rv) 55 (0, 0)) ∧ W.heap[w.heap.size + 1]? = some (.cells (mc3 nil3 nil3 nil3) 28 (0, 0)) ∧ W.heap[w.heap.size + 1 + 1]? = some (.cells (mc3 (full g1 zs.length) nil3 nil3) 28 (0, 0))) := by
    refine hide fun W hW => ?_
    subst hW
    refine ⟨hbw.setCell hO2 _, ho1.set (by omega), ?_, ?_, ?_⟩
    · rw [heap_setCell_other _ _ _ _ (by first | omega | (simp; omega))]; exact rA
    · rw [heap_setCell_other _ _ _ _ (by first | omega | simp)]; exact rZ
    · rw [heap_setCell_same _ _ 0 _ _ _ rO]; rfl
  have hne : ¬ w.heap.size = w.heap.size + 1 + 1 := by omega
  have hne' : ¬ w.heap.size + 1 + 1 = w.heap.size := by omega
  clear rA rZ rO hbw ho1
  go_wp2_with fail
  generalize hW : (w1.setCell ⟨w.heap.size + 1 + 1, 0, none⟩ (full g1 zs.length)) = W
  obtain ⟨hbW, ho1, rA, rZ, rO⟩ := HW.out W hW
  clear hW HW a0 a1 a2 fO o0 o1 o2
  have hlt1 := (ho1.2 g1 0 _ _ rfl).lt
  refine (toStoreSSw_any bv C L F _ (hl.below hbW) hz.buf.1 hz.buf.2).mono ?_
  rintro e w2 ⟨g2, rfl, hg2, ho2, hb2⟩
  have ltO : w.heap.size + 1 + 1 < W.heap.size := lt_of_block rO
  have rA := (hb2.block _ (by omega)).trans rA
  have rZ := (hb2.block _ (by omega)).trans rZ
  have rO := (hb2.block _ ltO).trans rO
  have ho1 := ho1.below hb2
  have hbw := hbW.trans (hb2.mono hbW.size)
  have hg2' : w.heap.size + 1 + 1 < g2 := by omega
  have hg12 : g1 < g2 := by omega
  clear hb2 hbW hg2 ltO
  obtain ⟨_, a0, a1, a2⟩ := row3_facts rA
  obtain ⟨fO, o0, o1, o2⟩ := row3_facts rO
  have HW : Hid (∀ W, (w2.setCell ⟨w.heap.size + 1 + 1, 1, none⟩ (full g2 C)) = W → Below w.heap.size w W ∧ Slx W (full g1 zs.length) zs ∧ Osw W g2 C C w2.heap.size L F ∧ W.heap[w.heap.size + 1]? = some (.cells (mc3 nil3 nil3 nil3) 28 (0, 0)) ∧ W.heap[w.heap.size + 1 + 1]? = some (.cells (mc3 (full g1 zs.length) (full g2 C) nil3) 28 (0, 0))) := by
    refine hide fun W hW => ?_
    subst hW
    refine ⟨hbw.setCell hO2 _, ho1.set (by omega), ho2.set (by omega), ?_, ?_⟩
    · rw [heap_setCell_other _ _ _ _ (by first | omega | simp)]; exact rZ
    · rw [heap_setCell_same _ _ 1 _ _ _ rO]; rfl
  clear rA rZ rO hbw ho1 ho2
  go_wp2_with fail
  generalize hW : (w2.setCell ⟨w.heap.size + 1 + 1, 1, none⟩ (full g2 C)) = W2
  have hsz : W2.heap.size = w2.heap.size := by rw [← hW, World.size_setCell]
  obtain ⟨hbW, ho1, ho2, rZ, rO⟩ := HW.out W2 hW
  clear hW HW a0 a1 a2 fO o0 o1 o2
  have hlt2 : g2 < W2.heap.size := by obtain ⟨cur, h1, _⟩ := ho2; exact lt_of_block h1
  refine (toInt64SSw_any rv R Z _ (hq.below hbW) hz.reg.1 hz.reg.2).mono ?_
  rintro e w3 ⟨g3, rfl, hg3, ho3, hb3⟩
  have ltO : w.heap.size + 1 + 1 < W2.heap.size := lt_of_block rO
  have rZ := (hb3.block _ (by omega)).trans rZ
  have rO := (hb3.block _ ltO).trans rO
  have ho1 := ho1.below hb3
  have ho2 := ho2.below hb3
  have hbw := hbW.trans (hb3.mono hbW.size)
  obtain ⟨fZ, z0, z1, z2⟩ := row3_facts rZ
  obtain ⟨fO, o0, o1, o2⟩ := row3_facts rO
  have HX := hide (And.intro ho1 (And.intro ho2 (And.intro ho3 hbw)))
  have hne2 : ¬ w.heap.size + 1 = w.heap.size + 1 + 1 := by omega
  have hg3' : w.heap.size + 1 + 1 < g3 := by omega
  clear ho1 ho2 hbw rZ rO ho3 hb3 hbW hq hs hl
  go_wp2
  refine bodyPost_ret (v := .agg (mc3 (full g1 zs.length) (full g2 C) (full g3 R))) (by simp [results, Try.results32, go_sem, z0, z1, z2]) rfl ⟨_, _, _, w2.heap.size, rfl, ?_, ?_, ?_, ?_, by omega, hg12, by omega, by omega⟩
  · iterate 4 (refine Slx.set ?_ (by omega))
    exact HX.out.1
  · iterate 4 (refine Osw.set ?_ (by omega))
    exact HX.out.2.1
  · simp only [World.size_setCell]
    iterate 4 (refine Oiw.set ?_ (by omega))
    exact HX.out.2.2.1
  · have hZ2 : w.heap.size ≤ w.heap.size + 1 := by omega
    iterate 3 (refine Below.setCell ?_ hZ2 _)
    refine Below.setCell ?_ hO2 _
    exact HX.out.2.2.2

/-- laws.toTso: what it gives may be marked; no buffer is longer than its room -/
theorem toTso_um (mv bv rv : Value) (zs : List Int) (C : Nat) (L : Nat → Nat) (F : Nat → Nat → Nat → Int) (R : Nat) (Z : Nat → List Int) (w : World) (h : Tv w mv bv rv zs C L F R Z) (hz : Tl zs C L R Z) :
    Calls Try.prog 32 #[.agg #[mv, bv, rv]] w fun e w' => ∃ m b r vb vr tag, e = .returned (.agg #[m, b, r]) ∧ Tv w' m b r zs C L F R Z ∧ Um w' w.heap.size m b r zs.length C L R (fun c => (Z c).length) vb vr tag ∧ (∀ g, w'.heap.size ≤ g → tag g = 100) ∧ Bcap w' b C ∧ Below w.heap.size w w' := by
  refine (toTsow_any mv bv rv zs C L F R Z w h.mem h.buf h.reg hz).mono ?_
  rintro e w' ⟨g1, g2, g3, E, rfl, h1, h2, h3, hb, o1, o2, o3, o4⟩
  obtain ⟨vb, sb, cb, hvb⟩ := h2.rows
  obtain ⟨vr, sr, cr, hvr⟩ := h3.rows
  have hm := h1.2 g1 0 _ _ rfl
  have l2 := cb.lt
  have l3 := cr.lt
  obtain ⟨tag, t1, t2, t0, t9⟩ : ∃ tag : Nat → Nat, tag g2 = 1 ∧ tag g3 = 2 ∧ (∀ g, g < w'.heap.size → g ≠ g2 → g ≠ g3 → tag g = 0) ∧ ∀ g, w'.heap.size ≤ g → tag g = 100 :=
    ⟨fun g => if g = g2 then 1 else if g = g3 then 2 else if g < w'.heap.size then 0 else 100, if_pos rfl, by simp only [if_neg (show ¬ g3 = g2 by omega), if_pos], fun g hg q1 q2 => by simp only [if_neg q1, if_neg q2, if_pos hg], fun g hg => by simp only [if_neg (show ¬ g = g2 by omega), if_neg (show ¬ g = g3 by omega), if_neg (show ¬ g < w'.heap.size by omega)]⟩
  have fb : ∀ {g n cap G off m k : Nat}, (Value.slice (some ⟨g, 0, none⟩) n cap) = .slice (some ⟨G, off, none⟩) m k → g = G ∧ off = 0 := fun e => by
    simp only [Value.slice.injEq, Option.some.injEq, Addr.mk.injEq] at e
    exact ⟨e.1.1, e.1.2.1.symm⟩
  refine ⟨_, _, _, vb, vr, tag, rfl, ⟨h1.1, ?_, ?_⟩, ⟨⟨_, _, rfl, fun _ => ⟨_, _, rfl⟩⟩, ?_, sb, ?_, sr, ?_, ?_, ?_, ?_, ?_⟩, t9, ?_, hb⟩
  · obtain ⟨ad, cap, e, hc⟩ := sb
    refine ⟨ad, cap, e, fun hp => ?_⟩
    obtain ⟨b, off, e2, hc⟩ := hc hp
    refine ⟨b, off, e2, fun c hcc => ?_⟩
    obtain ⟨ib, q1, q2, q3⟩ := hvb c hcc
    exact ⟨_, _, by rw [hc c hcc, q1], by rw [← q1]; exact q3.1⟩
  · obtain ⟨ad, cap, e, hc⟩ := sr
    refine ⟨ad, cap, e, fun hp => ?_⟩
    obtain ⟨b, off, e2, hc⟩ := hc hp
    refine ⟨b, off, e2, fun c hcc => ?_⟩
    obtain ⟨ib, q1, q2, q3⟩ := hvr c hcc
    exact ⟨_, _, by rw [hc c hcc, q1], by rw [← q1]; exact q3.1⟩
  · intro g off n cap e hk
    obtain ⟨rfl, rfl⟩ := fb e
    exact ⟨o1, hm, t0 _ hm.lt (by omega) (by omega)⟩
  · intro g off n cap e hk
    obtain ⟨rfl, rfl⟩ := fb e
    exact ⟨by omega, by rw [Nat.zero_add]; exact cb, t1⟩
  · intro g off n cap e hk
    obtain ⟨rfl, rfl⟩ := fb e
    exact ⟨by omega, by rw [Nat.zero_add]; exact cr, t2⟩
  · intro c hc
    obtain ⟨ib, q1, q2, q3⟩ := hvb c hc
    exact ⟨_, _, q1, fun _ => ⟨_, _, rfl⟩⟩
  · intro c hc g off n cap e hk
    obtain ⟨ib, q1, q2, q3⟩ := hvb c hc
    have hw := q3.2 g off n cap e
    rw [q1] at e
    obtain ⟨rfl, rfl⟩ := fb e
    exact ⟨by omega, hw, t0 _ hw.lt (by omega) (by omega)⟩
  · intro c hc
    obtain ⟨ib, q1, q2, q3⟩ := hvr c hc
    exact ⟨_, _, q1, fun _ => ⟨_, _, rfl⟩⟩
  · intro c hc g off n cap e hk
    obtain ⟨ib, q1, q2, q3⟩ := hvr c hc
    have hw := q3.2 g off n cap e
    rw [q1] at e
    obtain ⟨rfl, rfl⟩ := fb e
    exact ⟨by omega, hw, t0 _ hw.lt (by omega) (by omega)⟩
  · intro p o k c a n kk e hc hcell
    obtain ⟨rfl, rfl⟩ := fb e
    obtain ⟨ad, cap, e', hs⟩ := sb
    obtain ⟨b, off, e2, hs⟩ := hs (by omega)
    rw [e2] at e'
    obtain ⟨rfl, rfl⟩ := fb e'
    have q := hs c hc
    rw [q] at hcell
    obtain ⟨ib, q1, _, _⟩ := hvb c hc
    rw [q1] at hcell
    simp only [Option.some.injEq, Value.slice.injEq] at hcell
    omega

end Go.Proofs.Ytneofegnbflfiaa
