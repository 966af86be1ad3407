/- nets: a link looked for; rows of links put together (slices.Index, slices.Grow, slices.Concat) -/
import Derived.Test.YtgafpepmmjjaaaaNtI
import Derived.Lib.AppendZerosOnto
import Derived.Lib.AppendZeros
namespace Go.Proofs.Ytgafpepmmjjaaaa
open Go.RowKit
set_option linter.unusedVariables false
set_option linter.unusedSimpArgs false

theorem own_form {w : World} {base : Nat} {T : TypeId} {m n : Nat} {v : Value} {xs : List Value} (h : w.ownsRow base T m v n xs) : ∃ a c, v = .slice a n c := by
  rcases h.2 with ⟨h', hn⟩ | ⟨g, cap, cur, h', _⟩
  · exact ⟨none, 0, by rw [hn]; exact h'⟩
  · exact ⟨_, _, h'⟩
theorem own_cap {w : World} {base : Nat} {T : TypeId} {m n : Nat} {v : Value} {xs : List Value} (h : w.ownsRow base T m v n xs) : ∀ a n' cap, v = .slice a n' cap → n' ≤ cap := by
  intro a n' cap e
  rcases h.2 with ⟨h', hn⟩ | ⟨g, cap', cur, h', hb, hg, hnc, r⟩
  · rw [h'] at e
    simp only [Value.slice.injEq] at e
    omega
  · rw [h'] at e
    simp only [Value.slice.injEq] at e
    omega

set_option maxHeartbeats 1000000 in
/-- the first link that is (lo, hi); -1: there is none -/
theorem indexA2_any (v : Value) (n : Nat) (f : Nat → Nat → Int) (lo hi : Int) (w : World) (hs : Sr w v 2 n f) (hl : n ≤ 1048576) :
    Calls Try.prog 41 #[v, .agg (pr lo hi)] w fun e w' => ((∃ k : Nat, k < n ∧ e = .returned (.int .i64 k) ∧ f k 0 = lo ∧ f k 1 = hi) ∨ (e = .returned (.int .i64 (-1)) ∧ ∀ j, j < n → ¬ (f j 0 = lo ∧ f j 1 = hi))) ∧ Below w.heap.size w w' := by
  obtain ⟨ad, cap, rfl, ha⟩ := hs
  have hA : Below w.heap.size w (w.alloc (.cells (pr lo hi) 31)) := (Below.refl _ _).alloc (Nat.le_refl _) _
  obtain ⟨x0, x1⟩ := bx2 w (.int .i64 lo) (.int .i64 hi) 31
  go_enter Try.func41, Try.ntmps41
  go_wp2
  go_loopw [8] (fun i wr => ∃ k : Nat, k ≤ n ∧ i = .int .i64 k ∧ wr.cell? ⟨w.heap.size, 0, none⟩ = some (.int .i64 lo) ∧ wr.cell? ⟨w.heap.size, 1, none⟩ = some (.int .i64 hi) ∧ Below w.heap.size w wr ∧ Hid (∀ j, j < k → ¬ (f j 0 = lo ∧ f j 1 = hi))) (fun i _ => n - (intOf i).toNat)
  case atStart => exact ⟨0, Nat.zero_le _, rfl, x0, x1, hA, hide (fun j hj => by omega)⟩
  case round =>
    obtain ⟨k, hk, rfl, y0, y1, hB, HA⟩ := hrel
    clear x0 x1 hA
    by_cases hlt : k < n
    · obtain ⟨p, off, rfl, hc⟩ := ha (by omega)
      have q0 : wr.cell? ⟨p, off + k * 2, none⟩ = some (.int .i64 (f k 0)) := Below.keep hB _ _ (hc k hlt 0 (by decide))
      have q1 : wr.cell? ⟨p, off + k * 2 + 1, none⟩ = some (.int .i64 (f k 1)) := Below.keep hB _ _ (hc k hlt 1 (by decide))
      have hk0 : (0 : Int) ≤ (k : Int) := by omega
      have hk1 : (k : Int) < (n : Int) := by omega
      have heq := fun W => eqA2e lo hi (f k 0) (f k 1) W
      clear hc ha
      cases hx : (lo == f k 0 && hi == f k 1)
      · simp only [hx] at heq
        have HA2 : Hid (∀ j, j < k + 1 → ¬ (f j 0 = lo ∧ f j 1 = hi)) := hide (fun j hj => by
          by_cases e : j = k
          · subst e; intro e2; rw [e2.1, e2.2] at hx; simp at hx
          · exact HA.out j (by omega))
        clear hx HA
        go_wp2
        go_quiet (fail)
        go_wp2
        go_roundw
        case rel => exact ⟨k + 1, by omega, by go_num, y0, y1, below_drewN hB _, HA2⟩
        case measure => simp [intOf]; omega
      · simp only [hx] at heq
        have HO : Hid (f k 0 = lo ∧ f k 1 = hi) := hide (by simp at hx; exact ⟨hx.1.symm, hx.2.symm⟩)
        clear hx HA
        go_wp2
        go_quiet (fail)
        go_wp2
        go_ret
        exact ⟨.inl ⟨k, hlt, rfl, HO.out⟩, below_drewN hB _⟩
    · have HO : Hid (∀ j, j < n → ¬ (f j 0 = lo ∧ f j 1 = hi)) := hide (fun j hj => HA.out j (by omega))
      clear HA
      go_wp2
      go_ret
      exact ⟨.inr ⟨rfl, HO.out⟩, hB⟩

/-- room made for n links, where nothing is -/
theorem grow_run (w : World) (n : Nat) (hn0 : 0 < n) (hn : n ≤ 1048576) (ty : TypeId) : ∃ cap w', (Builtin.append_ #[24, 3] ty #[.slice none 0 0, .int .i64 n]).run Try.prog w = .ok (.slice (some ⟨w.heap.size, 0, none⟩) n cap) w' ∧ n ≤ cap ∧ cap ≤ maxLen ∧ w'.ownsRow w.heap.size 31 2 (.slice (some ⟨w.heap.size, 0, none⟩) 0 cap) 0 [] ∧ Below w.heap.size w w' := by
  obtain ⟨i0, hi, hz0, hz1, hz2⟩ := info_parts infoA2
  have hs : i0.size = 2 := hz1
  have hby : i0.bytes = 16 := hz2
  have hge := grownCap_ge w (0 + n) 0 31
  have hle := grownCap_le_maxLen w (0 + n) 0 31 (by unfold maxLen; omega)
  have hr := Lib.run_append_grow_zeros (P := Try.prog) w 24 3 ty 31 i0 (.agg #[.int .i64 0, .int .i64 0]) .i64 .i64 Try.underlying24 Try.underlying3 hi hz0 none 0 0 [] (run_firstCells_none w.drew i0.size 0 0 0) n hn0 (by omega) (by omega) (by omega) (by rw [hby]; omega) (growslice_fits (by omega) (by rw [hby]; omega))
  have hsz : ((#[] : Array Value) ++ Builtin.zeroCells (.agg #[.int .i64 0, .int .i64 0] : Value).cells n ++ Builtin.zeroCells (.agg #[.int .i64 0, .int .i64 0] : Value).cells (grownCap w (0 + n) 0 31 - (0 + n))).size = grownCap w (0 + n) 0 31 * 2 := by
    simp only [Array.size_append, size_zeroCells]
    show 0 + n * 2 + (grownCap w (0 + n) 0 31 - (0 + n)) * 2 = _
    omega
  simp only [Nat.zero_add] at hr hge hle hsz
  have hb : Below w.heap.size w (w.drew.alloc (.cells ((#[] : Array Value) ++ Builtin.zeroCells (.agg #[.int .i64 0, .int .i64 0] : Value).cells n ++ Builtin.zeroCells (.agg #[.int .i64 0, .int .i64 0] : Value).cells (grownCap w n 0 31 - n)) 31)) := ((Below.refl _ w).drew).alloc (Nat.le_refl _) _
  exact ⟨_, _, hr, hge, hle, ⟨rfl, .inr ⟨_, _, _, rfl, Nat.le_refl _, heap_alloc_new _ _, Nat.zero_le _, hle, hsz, by simp⟩⟩, hb⟩

set_option maxHeartbeats 2000000 in
theorem growNil_any (n : Nat) (hn : n ≤ 1048576) (w : World) :
    Calls Try.prog 48 #[.slice none 0 0, .int .i64 n] w fun e w' => ∃ u, e = .returned u ∧ w'.ownsRow w.heap.size 31 2 u 0 [] ∧ Below w.heap.size w w' := by
  by_cases h0 : n = 0
  · subst h0
    go_enter Try.func48, Try.ntmps48
    go_wp2
    go_ret
    exact ⟨_, rfl, World.ownsRow_nil _ _ _ _, Below.refl _ _⟩
  · have hp : (0 : Int) < (n : Int) := by omega
    have hp2 : 0 < n := by omega
    have hw1 : wrap64 ((n : Int) - 0) = (n : Int) := by rw [Go.IntWalk.wrap64_in _ (by omega)]; omega
    obtain ⟨cap, w', hr, h1, h2, ho, hb⟩ := grow_run w n (by omega) hn 24
    have HO := hide (And.intro ho hb)
    have hc63 : (cap : Int) ≤ 9223372036854775807 := by unfold maxLen at h2; omega
    clear ho hb h2
    go_enter Try.func48, Try.ntmps48
    go_wp2_with (at_builtin; refine Lib.wpList_append_run _ rfl _ _ _ _ rfl _ _ rfl rfl _ _ hr ?_)
    all_goals go_ret
    exact ⟨_, rfl, HO.out.1, HO.out.2⟩

theorem sl_head (p off n cap k : Nat) (hk : k ≤ cap) (W : World) : (Instr.slice 24 (.slice (some ⟨p, off, none⟩) n cap) none (some (.int .i64 (k : Int))) none).run Try.prog W = .ok (.slice (some ⟨p, off, none⟩) k cap) W := by
  simp [go_sem, Try.underlying24, Instr.slice, Instr.sliceBounds, Instr.sliceBound, asIntOf, Addr.add, hk]
theorem sl_tail (p off n cap k : Nat) (hk : k + 1 ≤ n) (W : World) : (Instr.slice 24 (.slice (some ⟨p, off, none⟩) n cap) (some (.int .i64 ((k : Int) + 1))) none none).run Try.prog W = .ok (.slice (if cap = k + 1 then some ⟨p, off, none⟩ else some ⟨p, off + (k + 1) * 2, none⟩) (n - (k + 1)) (cap - (k + 1))) W := by
  have h1 : (k : Int) + 1 ≤ (n : Int) := by omega
  have h0 : (0 : Int) ≤ (k : Int) + 1 := by omega
  have h2 : ((k : Int) + 1).toNat = k + 1 := by omega
  simp [go_sem, Try.underlying24, Instr.slice, Instr.sliceBounds, Instr.sliceBound, asIntOf, h1, h0, h2]

theorem rowC_cat {n m : Nat} {g h : Nat → Nat → Int} (he : ∀ j, j < m → ∀ i, i < 2 → h j i = g (n + j) i) : rowC 2 n n g ++ rowC 2 m m h = rowC 2 (n + m) (n + m) g := by
  apply List.ext_getElem?
  intro x
  by_cases h1 : x < n * 2
  · rw [List.getElem?_append_left (by rw [rowC_length]; exact h1), rowC_get h1, rowC_get (by omega), if_pos (by omega), if_pos (by omega)]
  · rw [List.getElem?_append_right (by rw [rowC_length]; omega), rowC_length]
    by_cases h2 : x < (n + m) * 2
    · rw [rowC_get (by omega), rowC_get h2, if_pos (by omega), if_pos (by omega), he _ (by omega) _ (by omega)]
      have e1 : n + (x - n * 2) / 2 = x / 2 := by omega
      have e2 : (x - n * 2) % 2 = x % 2 := by omega
      rw [e1, e2]
    · rw [rowC_none h2, rowC_none (by omega)]

theorem append_pairs (W : World) (base : Nat) (v y : Value) (n m : Nat) (g h : Nat → Nat → Int) (ty : TypeId) (hv : Orow W base 31 2 v n n g) (hy : Sr W y 2 m h) (he : ∀ j, j < m → ∀ i, i < 2 → h j i = g (n + j) i) (h1 : n ≤ 1048576) (h2 : m ≤ 1048576) (hb : base ≤ W.heap.size) :
    ∃ v' w', (Builtin.append_ #[24, 24] ty #[v, y]).run Try.prog W = .ok v' w' ∧ Orow w' base 31 2 v' (n + m) (n + m) g ∧ W.grownBy w' v.ownBlock := by
  obtain ⟨i0, hi, hz0, hz1, hz2⟩ := info_parts infoA2
  by_cases hx : m = 0
  · subst hx
    obtain ⟨ad, cap, e, _⟩ := hy
    obtain ⟨a, c, ev⟩ := own_form hv
    have hcp := own_cap hv a _ c ev
    subst e
    subst ev
    refine ⟨_, W, ?_, hv, ⟨rfl, rfl, rfl, Nat.le_refl _, fun _ _ _ => rfl⟩⟩
    have hs : i0.size = 2 := hz1
    cases ad with
    | none => cases a <;> simp [Builtin.append_, run_underlying Try.underlying24, sizeOf, typeInfo, hi, Builtin.lenOf, hcp, Builtin.firstCells, storeCells]
    | some b =>
      have hfc := run_firstCells_some (P := Try.prog) W i0.size 0 b 0 cap [] (by simp) (fun j u hu => by simp at hu)
      cases a <;> simp [Builtin.append_, run_underlying Try.underlying24, sizeOf, typeInfo, hi, Builtin.lenOf, hcp, hfc, storeCells]
  · obtain ⟨ad, cap, e, hc⟩ := hy
    obtain ⟨b, off, rfl, hc2⟩ := hc (by omega)
    subst e
    have hnews : ∀ j u, (rowC 2 m m h)[j]? = some u → W.cell? ((⟨b, off, none⟩ : Addr).add j) = some u := by
      intro j u hu
      have hj : j < m * 2 := by
        by_cases hj : j < m * 2
        · exact hj
        · rw [rowC_none hj] at hu; cases hu
      rw [rowC_get hj, if_pos (by omega)] at hu
      have := hc2 (j / 2) (by omega) (j % 2) (by omega)
      rw [addr_add]
      rw [show off + j = off + j / 2 * 2 + j % 2 by omega, this]
      exact hu
    have hone : ∀ u ∈ rowC 2 m m h, u.oneCell' = true := by
      intro u hu
      simp only [rowC, List.mem_map] at hu
      obtain ⟨x, _, rfl⟩ := hu
      rfl
    obtain ⟨v', w', hr, hown, hgrow, _, _⟩ := run_append_own_at (P := Try.prog) W base 24 ty 31 i0 _ 2 16 Try.underlying24 hi hz0 hz1 hz2 rfl (by omega) v n (rowC 2 n n g) hv ⟨b, off, none⟩ m cap (rowC 2 m m h) (by rw [rowC_length]) hnews hone (by unfold maxLen; omega) (by omega) hb
    refine ⟨v', w', hr, ?_, hgrow⟩
    unfold Orow
    rw [← rowC_cat he]
    exact hown

set_option maxHeartbeats 4000000 in
theorem concat_any (S : Nat) (a1 a2 : Option Addr) (n1 n2 c1 c2 : Nat) (g h : Nat → Nat → Int) (w : World) (k0 : w.cell? ⟨S, 0, none⟩ = some (.slice a1 n1 c1)) (k1 : w.cell? ⟨S, 1, none⟩ = some (.slice a2 n2 c2)) (h1 : Sr w (.slice a1 n1 c1) 2 n1 g) (h2 : Sr w (.slice a2 n2 c2) 2 n2 h) (he : ∀ j, j < n2 → ∀ i, i < 2 → h j i = g (n1 + j) i) (hn : n1 + n2 ≤ 1048576) :
    Calls Try.prog 42 #[.slice (some ⟨S, 0, none⟩) 2 2] w fun e w' => ∃ u, e = .returned u ∧ Orow w' w.heap.size 31 2 u (n1 + n2) (n1 + n2) g ∧ Below w.heap.size w w' := by
  have H1 := hide h1
  have H2 := hide h2
  have HE := hide he
  clear h1 h2 he
  have hw1 : wrap64 ((0 : Int) + (n1 : Int)) = (n1 : Int) := by rw [Go.IntWalk.wrap64_in _ (by omega)]; omega
  have hw2 : wrap64 ((n1 : Int) + (n2 : Int)) = ((n1 + n2 : Nat) : Int) := by rw [Go.IntWalk.wrap64_in _ (by omega)]; omega
  go_enter Try.func42, Try.ntmps42
  go_wp2
  go_loopw [3, 11] (fun t i wr => ∃ k : Nat, k ≤ 2 ∧ i = .int .i64 k ∧ w = wr ∧ t = .int .i64 (((if 0 < k then n1 else 0) + (if 1 < k then n2 else 0) : Nat) : Int)) (fun _ i _ => 2 - (intOf i).toNat)
  case atStart => exact ⟨0, by decide, rfl, rfl, rfl⟩
  case round =>
    obtain ⟨k, hk, rfl, rfl, rfl⟩ := hrel
    match k, hk with
    | 0, _ =>
      go_wp2
      go_roundw
      case rel => exact ⟨1, by decide, rfl, trivial, by simp⟩
      case measure => simp [intOf]
    | 1, _ =>
      have hn12 : decide ((((n1 + n2 : Nat) : Int)) < 0) = false := by simp; omega
      simp only [Nat.lt_irrefl, if_false, Nat.zero_lt_one, if_true, Nat.add_zero]
      go_wp2
      go_roundw
      case rel => exact ⟨2, by decide, rfl, trivial, by simp⟩
      case measure => simp [intOf]
    | 2, _ =>
      simp only [show (0 : Nat) < 2 from by decide, show (1 : Nat) < 2 from by decide, if_true]
      go_wp2_with fail
      refine (growNil_any (n1 + n2) hn _).mono ?_
      rintro e w2 ⟨u, rfl, ho, hb2⟩
      have hor : Orow w2 w.heap.size 31 2 u 0 0 g := by
        unfold Orow
        have : rowC 2 0 0 g = [] := by simp [rowC]
        rw [this]
        exact ho
      have HW := hide (And.intro hor hb2)
      clear ho hor hb2
      go_wp2
      go_loopw [6, 27] (fun t i wr2 => ∃ k : Nat, k ≤ 2 ∧ i = .int .i64 k ∧ ∃ m, m = (if 0 < k then n1 else 0) + (if 1 < k then n2 else 0) ∧ Orow wr2 w.heap.size 31 2 t m m g ∧ Hid (Below w.heap.size w wr2)) (fun _ i _ => 2 - (intOf i).toNat)
      case atStart => exact ⟨0, by decide, rfl, 0, rfl, HW.out.1, hide HW.out.2⟩
      case round =>
        obtain ⟨k, hk, rfl, m, hm, hor, HB⟩ := hrel
        clear HW
        have hszr := HB.out.size
        have j0 := keepc HB.out k0
        have j1 := keepc HB.out k1
        match k, hk with
        | 0, _ =>
          simp only [Nat.lt_irrefl, if_false, Nat.not_lt_zero, Nat.add_zero] at hm
          subst hm
          obtain ⟨v', w3, hr, ho3, hg3⟩ := append_pairs _ w.heap.size u6 _ 0 n1 g g 24 hor (H1.out.below HB.out) (fun j _ i _ => by rw [Nat.zero_add]) (by omega) (by omega) hszr
          have HZ := hide (And.intro ho3 (HB.out.grown hg3 hszr (fun k hk => (World.ownsRow.lt hor k hk).1)))
          clear ho3 hg3 hor
          go_wp2_with (at_builtin; refine Lib.wpList_append_run _ rfl _ _ _ _ rfl _ _ rfl rfl _ _ hr ?_)
          go_roundw
          case rel => exact ⟨1, by decide, rfl, 0 + n1, by simp, HZ.out.1, hide HZ.out.2⟩
          case measure => simp [intOf]
        | 1, _ =>
          simp only [Nat.lt_irrefl, if_false, Nat.zero_lt_one, if_true, Nat.add_zero] at hm
          subst hm
          obtain ⟨v', w3, hr, ho3, hg3⟩ := append_pairs _ w.heap.size u6 _ m n2 g h 24 hor (H2.out.below HB.out) HE.out (by omega) (by omega) hszr
          have HZ := hide (And.intro ho3 (HB.out.grown hg3 hszr (fun k hk => (World.ownsRow.lt hor k hk).1)))
          clear ho3 hg3 hor
          go_wp2_with (at_builtin; refine Lib.wpList_append_run _ rfl _ _ _ _ rfl _ _ rfl rfl _ _ hr ?_)
          go_roundw
          case rel => exact ⟨2, by decide, rfl, m + n2, by simp, HZ.out.1, hide HZ.out.2⟩
          case measure => simp [intOf]
        | 2, _ =>
          have HZ : Hid (Orow wr w.heap.size 31 2 u6 (n1 + n2) (n1 + n2) g) := hide (by
            simp only [show (0 : Nat) < 2 from by decide, show (1 : Nat) < 2 from by decide, if_true] at hm
            rw [← hm]; exact hor)
          clear hor hm
          go_wp2
          go_ret
          exact ⟨_, rfl, HZ.out, HB.out⟩

end Go.Proofs.Ytgafpepmmjjaaaa
