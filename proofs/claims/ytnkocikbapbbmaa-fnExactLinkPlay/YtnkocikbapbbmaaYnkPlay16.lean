/- LdF -/
import Derived.Test.YtnkocikbapbbmaaYnkPlay15
import Derived.Lib.AppendZerosOnto
import Derived.Lib.AppendZeros
/- rows of wires put together: slices.Grow, slices.Concat (written by mkLdF.py out of NtV.tpl) -/
namespace Go.Proofs.Ytnkocikbapbbmaa
open Go.RowKit
set_option linter.unusedVariables false
set_option linter.unusedSimpArgs false

theorem own_form {w : World} {base : Nat} {T : TypeId} {m n : Nat} {v : Value} {xs : List Value} (h : w.ownsRow base T m v n xs) : ∃ a c, v = .slice a n c := by
  rcases h.2 with ⟨h', hn⟩ | ⟨g, cap, cur, h', _⟩
  · exact ⟨none, 0, by rw [hn]; exact h'⟩
  · exact ⟨_, _, h'⟩
theorem own_cap {w : World} {base : Nat} {T : TypeId} {m n : Nat} {v : Value} {xs : List Value} (h : w.ownsRow base T m v n xs) : ∀ a n' cap, v = .slice a n' cap → n' ≤ cap := by
  intro a n' cap e
  rcases h.2 with ⟨h', hn⟩ | ⟨g, cap', cur, h', hb, hg, hnc, r⟩
  · rw [h'] at e
    simp only [Value.slice.injEq] at e
    omega
  · rw [h'] at e
    simp only [Value.slice.injEq] at e
    omega


/-- room made for n links, where nothing is -/
theorem grow_run (w : World) (n : Nat) (hn0 : 0 < n) (hn : n ≤ 1048576) (ty : TypeId) : ∃ cap w', (Builtin.append_ #[28, 3] ty #[.slice none 0 0, .int .i64 n]).run Try.prog w = .ok (.slice (some ⟨w.heap.size, 0, none⟩) n cap) w' ∧ n ≤ cap ∧ cap ≤ maxLen ∧ w'.ownsRow w.heap.size 73 2 (.slice (some ⟨w.heap.size, 0, none⟩) 0 cap) 0 [] ∧ Below w.heap.size w w' := by
  obtain ⟨i0, hi, hz0, hz1, hz2⟩ := info_parts infoWi
  have hs : i0.size = 2 := hz1
  have hby : i0.bytes = 24 := hz2
  have hge := grownCap_ge w (0 + n) 0 73
  have hle := grownCap_le_maxLen w (0 + n) 0 73 (by unfold maxLen; omega)
  have hr := Lib.run_append_grow_zeros (P := Try.prog) w 28 3 ty 73 i0 (.agg #[.string ⟨#[]⟩, .bool false]) .i64 .i64 Try.underlying28 Try.underlying3 hi hz0 none 0 0 [] (run_firstCells_none w.drew i0.size 0 0 0) n hn0 (by omega) (by omega) (by omega) (by rw [hby]; omega) (growslice_fits (by omega) (by rw [hby]; omega))
  have hsz : ((#[] : Array Value) ++ Builtin.zeroCells (.agg #[.string ⟨#[]⟩, .bool false] : Value).cells n ++ Builtin.zeroCells (.agg #[.string ⟨#[]⟩, .bool false] : Value).cells (grownCap w (0 + n) 0 73 - (0 + n))).size = grownCap w (0 + n) 0 73 * 2 := by
    simp only [Array.size_append, size_zeroCells]
    show 0 + n * 2 + (grownCap w (0 + n) 0 73 - (0 + n)) * 2 = _
    omega
  simp only [Nat.zero_add] at hr hge hle hsz
  have hb : Below w.heap.size w (w.drew.alloc (.cells ((#[] : Array Value) ++ Builtin.zeroCells (.agg #[.string ⟨#[]⟩, .bool false] : Value).cells n ++ Builtin.zeroCells (.agg #[.string ⟨#[]⟩, .bool false] : Value).cells (grownCap w n 0 73 - n)) 73)) := ((Below.refl _ w).drew).alloc (Nat.le_refl _) _
  exact ⟨_, _, hr, hge, hle, ⟨rfl, .inr ⟨_, _, _, rfl, Nat.le_refl _, heap_alloc_new _ _, Nat.zero_le _, hle, hsz, by simp⟩⟩, hb⟩

set_option maxRecDepth 20000 in
set_option maxHeartbeats 2000000 in
theorem growNil_any (n : Nat) (hn : n ≤ 1048576) (w : World) :
    Calls Try.prog 88 #[.slice none 0 0, .int .i64 n] w fun e w' => ∃ u, e = .returned u ∧ w'.ownsRow w.heap.size 73 2 u 0 [] ∧ Below w.heap.size w w' := by
  by_cases h0 : n = 0
  · subst h0
    go_enter Try.func88, Try.ntmps88
    go_wp2
    go_ret
    exact ⟨_, rfl, World.ownsRow_nil _ _ _ _, Below.refl _ _⟩
  · have hp : (0 : Int) < (n : Int) := by omega
    have hp2 : 0 < n := by omega
    have hw1 : wrap64 ((n : Int) - 0) = (n : Int) := by rw [Go.IntWalk.wrap64_in _ (by omega)]; omega
    obtain ⟨cap, w', hr, h1, h2, ho, hb⟩ := grow_run w n (by omega) hn 28
    have HO := hide (And.intro ho hb)
    have hc63 : (cap : Int) ≤ 9223372036854775807 := by unfold maxLen at h2; omega
    clear ho hb h2
    go_enter Try.func88, Try.ntmps88
    go_wp2_with (at_builtin; refine Lib.wpList_append_run _ rfl _ _ _ _ rfl _ _ rfl rfl _ _ hr ?_)
    all_goals go_ret
    exact ⟨_, rfl, HO.out.1, HO.out.2⟩

theorem sl_head (p off n cap k : Nat) (hk : k ≤ cap) (W : World) : (Instr.slice 28 (.slice (some ⟨p, off, none⟩) n cap) none (some (.int .i64 (k : Int))) none).run Try.prog W = .ok (.slice (some ⟨p, off, none⟩) k cap) W := by
  simp [go_sem, Try.underlying28, Instr.slice, Instr.sliceBounds, Instr.sliceBound, asIntOf, Addr.add, hk]
theorem sl_tail (p off n cap k : Nat) (hk : k + 1 ≤ n) (W : World) : (Instr.slice 28 (.slice (some ⟨p, off, none⟩) n cap) (some (.int .i64 ((k : Int) + 1))) none none).run Try.prog W = .ok (.slice (if cap = k + 1 then some ⟨p, off, none⟩ else some ⟨p, off + (k + 1) * 2, none⟩) (n - (k + 1)) (cap - (k + 1))) W := by
  have h1 : (k : Int) + 1 ≤ (n : Int) := by omega
  have h0 : (0 : Int) ≤ (k : Int) + 1 := by omega
  have h2 : ((k : Int) + 1).toNat = k + 1 := by omega
  simp [go_sem, Try.underlying28, Instr.slice, Instr.sliceBounds, Instr.sliceBound, asIntOf, h1, h0, h2]

theorem rowG_none {m n x : Nat} {f : Nat → Nat → Value} (h : ¬ x < n * m) : (rowG m n f)[x]? = none := by rw [List.getElem?_eq_none]; rw [rowG_len]; omega
theorem rowG_cat {n m : Nat} {g h : Nat → Nat → Value} (he : ∀ j, j < m → ∀ i, i < 2 → h j i = g (n + j) i) : rowG 2 n g ++ rowG 2 m h = rowG 2 (n + m) g := by
  apply List.ext_getElem?
  intro x
  by_cases h1 : x < n * 2
  · rw [List.getElem?_append_left (by rw [rowG_len]; exact h1), rowG_get h1, rowG_get (by omega)]
  · rw [List.getElem?_append_right (by rw [rowG_len]; omega), rowG_len]
    by_cases h2 : x < (n + m) * 2
    · rw [rowG_get (by omega), rowG_get h2, he _ (by omega) _ (by omega)]
      have e1 : n + (x - n * 2) / 2 = x / 2 := by omega
      have e2 : (x - n * 2) % 2 = x % 2 := by omega
      rw [e1, e2]
    · rw [rowG_none h2, rowG_none (by omega)]
/-- a row of wires of the call's own -/
def Owi (w : World) (base : Nat) (v : Value) (n : Nat) (f : Nat → Nat → Value) : Prop := w.ownsRow base 73 2 v n (rowG 2 n f)

theorem append_wires (W : World) (base : Nat) (v y : Value) (n m : Nat) (g h : Nat → Nat → Value) (ho : ∀ j i, (h j i).oneCell' = true) (ty : TypeId) (hv : Owi W base v n g) (hy : Sg W y 2 m h) (he : ∀ j, j < m → ∀ i, i < 2 → h j i = g (n + j) i) (h1 : n ≤ 1048576) (h2 : m ≤ 1048576) (hb : base ≤ W.heap.size) :
    ∃ v' w', (Builtin.append_ #[28, 28] ty #[v, y]).run Try.prog W = .ok v' w' ∧ Owi w' base v' (n + m) g ∧ W.grownBy w' v.ownBlock := by
  obtain ⟨i0, hi, hz0, hz1, hz2⟩ := info_parts infoWi
  by_cases hx : m = 0
  · subst hx
    obtain ⟨ad, cap, e, _⟩ := hy
    obtain ⟨a, c, ev⟩ := own_form hv
    have hcp := own_cap hv a _ c ev
    subst e
    subst ev
    refine ⟨_, W, ?_, hv, ⟨rfl, rfl, rfl, Nat.le_refl _, fun _ _ _ => rfl⟩⟩
    have hs : i0.size = 2 := hz1
    cases ad with
    | none => cases a <;> simp [Builtin.append_, run_underlying Try.underlying28, sizeOf, typeInfo, hi, Builtin.lenOf, hcp, Builtin.firstCells, storeCells]
    | some b =>
      have hfc := run_firstCells_some (P := Try.prog) W i0.size 0 b 0 cap [] (by simp) (fun j u hu => by simp at hu)
      cases a <;> simp [Builtin.append_, run_underlying Try.underlying28, sizeOf, typeInfo, hi, Builtin.lenOf, hcp, hfc, storeCells]
  · obtain ⟨ad, cap, e, hc⟩ := hy
    obtain ⟨b, off, rfl, hc2⟩ := hc (by omega)
    subst e
    have hnews : ∀ j u, (rowG 2 m h)[j]? = some u → W.cell? ((⟨b, off, none⟩ : Addr).add j) = some u := by
      intro j u hu
      have hj : j < m * 2 := by
        by_cases hj : j < m * 2
        · exact hj
        · rw [rowG_none hj] at hu; cases hu
      rw [rowG_get hj] at hu
      have := hc2 (j / 2) (by omega) (j % 2) (by omega)
      rw [addr_add]
      rw [show off + j = off + j / 2 * 2 + j % 2 by omega, this]
      exact hu
    have hone : ∀ u ∈ rowG 2 m h, u.oneCell' = true := by
      intro u hu
      simp only [rowG, List.mem_map] at hu
      obtain ⟨x, _, rfl⟩ := hu
      exact ho _ _
    obtain ⟨v', w', hr, hown, hgrow, _, _⟩ := run_append_own_at (P := Try.prog) W base 28 ty 73 i0 _ 2 24 Try.underlying28 hi hz0 hz1 hz2 rfl (by omega) v n (rowG 2 n g) hv ⟨b, off, none⟩ m cap (rowG 2 m h) (by rw [rowG_len]) hnews hone (by unfold maxLen; omega) (by omega) hb
    refine ⟨v', w', hr, ?_, hgrow⟩
    unfold Owi
    rw [← rowG_cat he]
    exact hown

set_option maxRecDepth 20000 in
set_option maxHeartbeats 4000000 in
theorem concat_any (S : Nat) (a1 a2 : Option Addr) (n1 n2 c1 c2 : Nat) (g h : Nat → Nat → Value) (hog : ∀ j i, (g j i).oneCell' = true) (hoh : ∀ j i, (h j i).oneCell' = true) (w : World) (k0 : w.cell? ⟨S, 0, none⟩ = some (.slice a1 n1 c1)) (k1 : w.cell? ⟨S, 1, none⟩ = some (.slice a2 n2 c2)) (h1 : Sg w (.slice a1 n1 c1) 2 n1 g) (h2 : Sg w (.slice a2 n2 c2) 2 n2 h) (he : ∀ j, j < n2 → ∀ i, i < 2 → h j i = g (n1 + j) i) (hn : n1 + n2 ≤ 1048576) :
    Calls Try.prog 83 #[.slice (some ⟨S, 0, none⟩) 2 2] w fun e w' => ∃ u, e = .returned u ∧ Owi w' w.heap.size u (n1 + n2) g ∧ Below w.heap.size w w' := by
  have H1 := hide h1
  have H2 := hide h2
  have HE := hide he
  clear h1 h2 he
  have hw1 : wrap64 ((0 : Int) + (n1 : Int)) = (n1 : Int) := by rw [Go.IntWalk.wrap64_in _ (by omega)]; omega
  have hw2 : wrap64 ((n1 : Int) + (n2 : Int)) = ((n1 + n2 : Nat) : Int) := by rw [Go.IntWalk.wrap64_in _ (by omega)]; omega
  go_enter Try.func83, Try.ntmps83
  go_wp2
  go_loopw [3, 11] (fun t i wr => ∃ k : Nat, k ≤ 2 ∧ i = .int .i64 k ∧ w = wr ∧ t = .int .i64 (((if 0 < k then n1 else 0) + (if 1 < k then n2 else 0) : Nat) : Int)) (fun _ i _ => 2 - (intOf i).toNat)
  case atStart => exact ⟨0, by decide, rfl, rfl, rfl⟩
  case round =>
    obtain ⟨k, hk, rfl, rfl, rfl⟩ := hrel
    match k, hk with
    | 0, _ =>
      go_wp2
      go_roundw
      case rel => exact ⟨1, by decide, rfl, trivial, by simp⟩
      case measure => simp [intOf]
    | 1, _ =>
      have hn12 : decide ((((n1 + n2 : Nat) : Int)) < 0) = false := by simp; omega
      simp only [Nat.lt_irrefl, if_false, Nat.zero_lt_one, if_true, Nat.add_zero]
      go_wp2
      go_roundw
      case rel => exact ⟨2, by decide, rfl, trivial, by simp⟩
      case measure => simp [intOf]
    | 2, _ =>
      simp only [show (0 : Nat) < 2 from by decide, show (1 : Nat) < 2 from by decide, if_true]
      go_wp2_with fail
      refine (growNil_any (n1 + n2) hn _).mono ?_
      rintro e w2 ⟨u, rfl, ho, hb2⟩
      have hor : Owi w2 w.heap.size u 0 g := by
        unfold Owi
        have : rowG 2 0 g = [] := by simp [rowG]
        rw [this]
        exact ho
      have HW := hide (And.intro hor hb2)
      clear ho hor hb2
      go_wp2
      go_loopw [6, 27] (fun t i wr2 => ∃ k : Nat, k ≤ 2 ∧ i = .int .i64 k ∧ ∃ m, m = (if 0 < k then n1 else 0) + (if 1 < k then n2 else 0) ∧ Owi wr2 w.heap.size t m g ∧ Hid (Below w.heap.size w wr2)) (fun _ i _ => 2 - (intOf i).toNat)
      case atStart => exact ⟨0, by decide, rfl, 0, rfl, HW.out.1, hide HW.out.2⟩
      case round =>
        obtain ⟨k, hk, rfl, m, hm, hor, HB⟩ := hrel
        clear HW
        have hszr := HB.out.size
        have j0 := keepc HB.out k0
        have j1 := keepc HB.out k1
        match k, hk with
        | 0, _ =>
          simp only [Nat.lt_irrefl, if_false, Nat.not_lt_zero, Nat.add_zero] at hm
          subst hm
          obtain ⟨v', w3, hr, ho3, hg3⟩ := append_wires _ w.heap.size u6 _ 0 n1 g g hog 28 hor (H1.out.below HB.out) (fun j _ i _ => by rw [Nat.zero_add]) (by omega) (by omega) hszr
          have HZ := hide (And.intro ho3 (HB.out.grown hg3 hszr (fun k hk => (World.ownsRow.lt hor k hk).1)))
          clear ho3 hg3 hor
          go_wp2_with (at_builtin; refine Lib.wpList_append_run _ rfl _ _ _ _ rfl _ _ rfl rfl _ _ hr ?_)
          go_roundw
          case rel => exact ⟨1, by decide, rfl, 0 + n1, by simp, HZ.out.1, hide HZ.out.2⟩
          case measure => simp [intOf]
        | 1, _ =>
          simp only [Nat.lt_irrefl, if_false, Nat.zero_lt_one, if_true, Nat.add_zero] at hm
          subst hm
          obtain ⟨v', w3, hr, ho3, hg3⟩ := append_wires _ w.heap.size u6 _ m n2 g h hoh 28 hor (H2.out.below HB.out) HE.out (by omega) (by omega) hszr
          have HZ := hide (And.intro ho3 (HB.out.grown hg3 hszr (fun k hk => (World.ownsRow.lt hor k hk).1)))
          clear ho3 hg3 hor
          go_wp2_with (at_builtin; refine Lib.wpList_append_run _ rfl _ _ _ _ rfl _ _ rfl rfl _ _ hr ?_)
          go_roundw
          case rel => exact ⟨2, by decide, rfl, m + n2, by simp, HZ.out.1, hide HZ.out.2⟩
          case measure => simp [intOf]
        | 2, _ =>
          have HZ : Hid (Owi wr w.heap.size u6 (n1 + n2) g) := hide (by
            simp only [show (0 : Nat) < 2 from by decide, show (1 : Nat) < 2 from by decide, if_true] at hm
            rw [← hm]; exact hor)
          clear hor hm
          go_wp2
          go_ret
          exact ⟨_, rfl, HZ.out, HB.out⟩

end Go.Proofs.Ytnkocikbapbbmaa
