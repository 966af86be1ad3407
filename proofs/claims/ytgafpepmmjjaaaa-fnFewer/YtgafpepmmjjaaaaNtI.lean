/- nets: numbers looked for; who is joined (both sides) -/
import Derived.Test.YtgafpepmmjjaaaaNtH
import Derived.Test.YtgafpepmmjjaaaaNtE
namespace Go.Proofs.Ytgafpepmmjjaaaa
open Go.RowKit
set_option linter.unusedVariables false
set_option linter.unusedSimpArgs false

theorem Ow.snoc {w : World} {base : Nat} {v : Value} {zs : List Int} {x : Int} (h : w.ownsRow base 2 1 v (zs.length + 1) (zs.map (Value.int .i64) ++ [.int .i64 x])) : Ow w base v (zs ++ [x]) := by
  unfold Ow
  simpa using h
theorem Ow.empty_nil (w : World) (base : Nat) : Ow w base (.slice none 0 0) [] := World.ownsRow_nil _ _ _ _
theorem grow_rel {B : Nat} {w wr w1 : World} {v v' : Value} {zs : List Int} {x : Int} (hB : B ≤ wr.heap.size) (hbk : Below B w wr) (hown : Ow wr B v zs)
    (hown' : w1.ownsRow B 2 1 v' (zs.length + 1) (zs.map (Value.int .i64) ++ [.int .i64 x])) (hg : (wr.alloc (.cells #[.int .i64 x] 2)).grownBy w1 v.ownBlock) : Ow w1 B v' (zs ++ [x]) ∧ Below B w w1 := by
  refine ⟨Ow.snoc hown', ?_⟩
  exact (hbk.alloc hB _).grown hg (by simp; omega) (fun k hk => (World.ownsRow.lt hown k hk).1)

set_option maxHeartbeats 1000000 in
theorem index_any (v : Value) (zs : List Int) (x : Int) (w : World) (hs : Sl w v zs) (hl : zs.length ≤ 1048576) :
    Calls Try.prog 50 #[v, .int .i64 x] w fun e w' => (∃ i : Int, e = .returned (.int .i64 i) ∧ decide (0 ≤ i) = zs.contains x) ∧ w' = w := by
  obtain ⟨ad, cap, rfl, ha⟩ := hs
  obtain ⟨n, hn⟩ : ∃ n, zs.length = n := ⟨_, rfl⟩
  rw [hn] at ha hl ⊢
  have HN := hide hn
  clear hn
  go_enter Try.func50, Try.ntmps50
  go_wp2
  go_loopw [8] (fun i wr => ∃ k : Nat, k ≤ n ∧ i = .int .i64 k ∧ wr = w ∧ Hid (∀ j, j < k → zs.getD j 0 ≠ x)) (fun i _ => n - (intOf i).toNat)
  case atStart => exact ⟨0, Nat.zero_le _, rfl, rfl, hide (fun j hj => by omega)⟩
  case round =>
    obtain ⟨k, hk, rfl, rfl, HA⟩ := hrel
    by_cases hlt : k < n
    · obtain ⟨p, off, rfl, hc⟩ := ha (by omega)
      have hck := hc k hlt
      obtain ⟨z, hz⟩ : ∃ z, zs.getD k 0 = z := ⟨_, rfl⟩
      rw [hz] at hck
      have HZ := hide hz
      clear hz hc ha
      by_cases hid : (x == z) = true
      · have HO : Hid (decide (0 ≤ (k : Int)) = zs.contains x) := hide (by
          have e : x = z := by simpa using hid
          have : zs.contains x = true := by
            rw [List.contains_iff_mem, e, ← HZ.out]
            exact gd_mem (by rw [HN.out]; exact hlt)
          rw [this]; simp)
        go_wp2
        go_ret
        exact ⟨⟨_, rfl, HO.out⟩, rfl⟩
      · have hid' : (x == z) = false := by simpa using hid
        have HA2 : Hid (∀ j, j < k + 1 → zs.getD j 0 ≠ x) := hide (fun j hj => by
          by_cases e : j = k
          · subst e; rw [HZ.out]; intro e2; subst e2; simp at hid
          · exact HA.out j (by omega))
        clear hid HA
        go_wp2
        go_roundw
        case rel => exact ⟨k + 1, by omega, by go_num, trivial, HA2⟩
        case measure => simp [intOf]; omega
    · have e : k = n := by omega
      have HO : Hid (decide (0 ≤ (-1 : Int)) = zs.contains x) := hide (by
        have : ¬ zs.contains x = true := by
          rw [List.contains_iff_mem]
          intro hm
          obtain ⟨i, hi, he⟩ := gd_of_mem hm
          exact HA.out i (by rw [HN.out] at hi; omega) he
        have : zs.contains x = false := by simpa using this
        rw [this]; rfl)
      clear e HA
      go_wp2
      go_ret
      exact ⟨⟨_, rfl, HO.out⟩, rfl⟩

set_option maxHeartbeats 1000000 in
theorem contains_any (v : Value) (zs : List Int) (x : Int) (w : World) (hs : Sl w v zs) (hl : zs.length ≤ 1048576) :
    Calls Try.prog 47 #[v, .int .i64 x] w fun e w' => e = .returned (.bool (zs.contains x)) ∧ w' = w := by
  go_enter Try.func47, Try.ntmps47
  go_wp2_with fail
  refine (index_any v zs x _ hs hl).mono ?_
  rintro e w2 ⟨⟨i, rfl, hi⟩, rfl⟩
  have HI := hide hi
  clear hi
  go_wp2
  go_ret
  exact ⟨ret_b HI.out, rfl⟩

theorem jn_no {n : Nat} {f : Nat → Nat → Int} {a b : Int} (h : ∀ j, j < n → ¬ (f j 0 = min a b ∧ f j 1 = max a b)) : false = jn n f a b := by
  cases e : jn n f a b
  · rfl
  · obtain ⟨k, hk, hx⟩ := jn_iff.1 e
    exact absurd hx (h k hk)
theorem eqA2e (x y u v : Int) (W : World) : Sem.run Try.prog (Op.equalIn 10000 31 (.agg #[.int .i64 x, .int .i64 y]) (.agg #[.int .i64 u, .int .i64 v])) W = .ok (x == u && y == v) W := by
  have h3 : ∀ (x u : Int) (d : Nat), Sem.run Try.prog (Op.equalIn (d + 1) 2 (.int .i64 x) (.int .i64 u)) W = .ok (x == u) W := by
    intro x u d
    simp [Op.equalIn, run_underlying Try.underlying2]
  have h2 : ∀ (x u : Int), Sem.run Try.prog (Op.equalIn 9999 2 (.int .i64 x) (.int .i64 u)) W = .ok (x == u) W := fun x u => h3 x u 9998
  have p0 : ∀ a b : Value, Sem.run Try.prog (part 2 #[a, b] 0) W = .ok a W := fun a b => by kernel_rfl
  have p1 : ∀ a b : Value, Sem.run Try.prog (part 2 #[a, b] 1) W = .ok b W := fun a b => by kernel_rfl
  show Sem.run Try.prog (Op.equalIn (9998 + 1 + 1) 31 _ _) W = _
  rw [Op.equalIn]
  cases hx : (x == u) <;> cases hy : (y == v) <;> simp [run_underlying Try.underlying31, h2, hx, hy, List.range', List.forIn_cons, p0, p1]

set_option maxHeartbeats 2000000 in
theorem specJoined_lt (N : Int) (v : Value) (n : Nat) (f : Nat → Nat → Int) (a b : Int) (r : Bool) (lo hi : Int) (w : World) (hs : Sr w v 2 n f) (hl : n ≤ 1048576)
    (hc : (a < b ∧ lo = a ∧ hi = b) ∨ (b < a ∧ lo = b ∧ hi = a) ∨ (a = b ∧ lo = a ∧ hi = a)) (HJ : Hid (r = jn n f a b ∧ min a b = lo ∧ max a b = hi)) :
    Calls Try.prog 43 #[.agg (nt N v), .int .i64 a, .int .i64 b] w fun e w' => e = .returned (.bool r) ∧ Below w.heap.size w w' := by
  obtain ⟨ad, cap, rfl, hs⟩ := hs
  have hB0 : Below w.heap.size w (w.alloc (.cells (nt N (.slice ad n cap)) 26)) := (Below.refl _ _).alloc (Nat.le_refl _) _
  have hbx : (w.alloc (.cells (nt N (.slice ad n cap)) 26)).heap[w.heap.size]? = some (.cells (nt N (.slice ad n cap)) 26 (0, 0)) := heap_alloc_new _ _
  go_enter Try.func43, Try.ntmps43
  go_wp2
  go_loopw [7] (fun i wr => ∃ k : Nat, k ≤ n ∧ i = .int .i64 k ∧ wr.heap[w.heap.size]? = some (.cells (nt N (.slice ad n cap)) 26 (0, 0)) ∧ Below w.heap.size w wr ∧ Hid (∀ j, j < k → ¬ (f j 0 = lo ∧ f j 1 = hi))) (fun i _ => n - (intOf i).toNat)
  case atStart => exact ⟨0, Nat.zero_le _, rfl, hbx, hB0, hide (fun j hj => by omega)⟩
  case round =>
    obtain ⟨k, hk, rfl, hbk0, hbk, HA⟩ := hrel
    clear hbx hB0
    obtain ⟨_, n0, n1⟩ := row2_facts hbk0
    by_cases hlt : k < n
    · obtain ⟨p, off, rfl, hcc⟩ := hs (by omega)
      have q0 : wr.cell? ⟨p, off + k * 2, none⟩ = some (.int .i64 (f k 0)) := Below.keep hbk _ _ (hcc k hlt 0 (by decide))
      have q1 : wr.cell? ⟨p, off + k * 2 + 1, none⟩ = some (.int .i64 (f k 1)) := Below.keep hbk _ _ (hcc k hlt 1 (by decide))
      clear hcc hs
      have heq := eqA2e (f k 0) (f k 1) lo hi wr
      cases hx : (f k 0 == lo && f k 1 == hi)
      · rw [hx] at heq
        have HA2 : Hid (∀ j, j < k + 1 → ¬ (f j 0 = lo ∧ f j 1 = hi)) := hide (fun j hj => by
          by_cases e : j = k
          · subst e; intro e2; rw [e2.1, e2.2] at hx; simp at hx
          · exact HA.out j (by omega))
        clear hx HA HJ
        rcases hc with ⟨c1, rfl, rfl⟩ | ⟨c1, rfl, rfl⟩ | ⟨rfl, rfl, rfl⟩
        · have c2 : lo ≤ hi := by omega
          have c3 : ¬ hi ≤ lo := by omega
          go_wp2
          go_roundw
          case rel => exact ⟨k + 1, by omega, by go_num, hbk0, hbk, HA2⟩
          case measure => simp [intOf]; omega
        · have c2 : lo ≤ hi := by omega
          have c3 : ¬ hi ≤ lo := by omega
          go_wp2
          go_roundw
          case rel => exact ⟨k + 1, by omega, by go_num, hbk0, hbk, HA2⟩
          case measure => simp [intOf]; omega
        · go_wp2
          go_roundw
          case rel => exact ⟨k + 1, by omega, by go_num, hbk0, hbk, HA2⟩
          case measure => simp [intOf]; omega
      · rw [hx] at heq
        have HO : Hid (true = r) := hide (by
          rw [HJ.out.1]
          refine (jn_iff.2 ⟨k, hlt, ?_, ?_⟩).symm
          · rw [HJ.out.2.1]; simp at hx; exact hx.1
          · rw [HJ.out.2.2]; simp at hx; exact hx.2)
        clear hx HA HJ
        rcases hc with ⟨c1, rfl, rfl⟩ | ⟨c1, rfl, rfl⟩ | ⟨rfl, rfl, rfl⟩
        · have c2 : lo ≤ hi := by omega
          have c3 : ¬ hi ≤ lo := by omega
          go_wp2
          go_ret
          exact ⟨ret_b HO.out, hbk⟩
        · have c2 : lo ≤ hi := by omega
          have c3 : ¬ hi ≤ lo := by omega
          go_wp2
          go_ret
          exact ⟨ret_b HO.out, hbk⟩
        · go_wp2
          go_ret
          exact ⟨ret_b HO.out, hbk⟩
    · have HO : Hid (false = r) := hide (by
        rw [HJ.out.1]
        refine jn_no (fun j hj => ?_)
        rw [HJ.out.2.1, HJ.out.2.2]
        exact HA.out j (by omega))
      clear hs HA HJ hc
      go_wp2
      go_ret
      exact ⟨ret_b HO.out, hbk⟩
theorem specJoined_any (N : Int) (v : Value) (n : Nat) (f : Nat → Nat → Int) (a b : Int) (w : World) (hs : Sr w v 2 n f) (hl : n ≤ 1048576) :
    Calls Try.prog 43 #[.agg (nt N v), .int .i64 a, .int .i64 b] w fun e w' => e = .returned (.bool (jn n f a b)) ∧ Below w.heap.size w w' := by
  refine specJoined_lt N v n f a b _ (min a b) (max a b) w hs hl ?_ (hide ⟨rfl, rfl, rfl⟩)
  omega

theorem jl_yes {f : Nat → Nat → Int} {x : Int} {k : Nat} (h0 : f k 0 = x) (h1 : f k 1 ≠ x) : jl f x (k + 1) = jl f x k ++ [f k 1] := by simp [jl, h0, h1]
theorem jl_yes1 {f : Nat → Nat → Int} {x : Int} {k : Nat} (h0 : f k 0 ≠ x) (h1 : f k 1 = x) : jl f x (k + 1) = jl f x k ++ [f k 0] := by simp [jl, h0, h1]
theorem jl_no {f : Nat → Nat → Int} {x : Int} {k : Nat} (h0 : f k 0 ≠ x) (h1 : f k 1 ≠ x) : jl f x (k + 1) = jl f x k := by simp [jl, h0, h1]

set_option maxHeartbeats 2000000 in
theorem implJoined_any (N : Int) (v : Value) (n : Nat) (f : Nat → Nat → Int) (x : Int) (w : World) (hs : Sr w v 2 n f) (hl : n ≤ 1048576) (hne : ∀ k, k < n → f k 0 ≠ f k 1) :
    Calls Try.prog 40 #[.agg (nt N v), .int .i64 x] w fun e w' => ∃ u, e = .returned u ∧ Ow w' w.heap.size u (jl f x n) ∧ Below w.heap.size w w' := by
  obtain ⟨ad, cap, rfl, hs⟩ := hs
  obtain ⟨i0, hi, hz0, hz1, hz2⟩ := info_parts Try.info2
  have hB0 : Below w.heap.size w (w.alloc (.cells (nt N (.slice ad n cap)) 26)) := (Below.refl _ _).alloc (Nat.le_refl _) _
  obtain ⟨x0, x1⟩ := bx2 w (.int .i64 N) (.slice ad n cap) 26
  have HNE := hide hne
  clear hne
  go_enter Try.func40, Try.ntmps40
  go_wp2
  go_loopw [5, 11] (fun t i wr => ∃ k : Nat, k ≤ n ∧ i = .int .i64 k ∧ Ow wr w.heap.size t (jl f x k) ∧ Below w.heap.size w wr) (fun _ i _ => n - (intOf i).toNat)
  case atStart => exact ⟨0, Nat.zero_le _, rfl, Ow.empty_nil _ _, hB0⟩
  case round =>
    obtain ⟨k, hk, rfl, hok, hbk⟩ := hrel
    clear hB0 x0 x1
    have hle := jl_le f x k
    by_cases hlt : k < n
    · obtain ⟨p, off, rfl, hc⟩ := hs (by omega)
      have q0 : wr.cell? ⟨p, off + k * 2, none⟩ = some (.int .i64 (f k 0)) := Below.keep hbk _ _ (hc k hlt 0 (by decide))
      have q1 : wr.cell? ⟨p, off + k * 2 + 1, none⟩ = some (.int .i64 (f k 1)) := Below.keep hbk _ _ (hc k hlt 1 (by decide))
      have hsz : w.heap.size ≤ wr.heap.size := hbk.size
      have hB2 : Below w.heap.size w (wr.alloc (.cells (pr (f k 0) (f k 1)) 31)) := hbk.alloc hsz _
      have hok2 : Ow (wr.alloc (.cells (pr (f k 0) (f k 1)) 31)) w.heap.size u5 (jl f x k) := hok.below ((Below.refl _ _).alloc (Nat.le_refl _) _)
      have e0 : (wr.alloc (.cells (pr (f k 0) (f k 1)) 31)).cell? ⟨wr.heap.size, 0, none⟩ = some (.int .i64 (f k 0)) := cell_of_row _ _ 0 _ _ _ (heap_alloc_new _ _)
      have e1 : (wr.alloc (.cells (pr (f k 0) (f k 1)) 31)).cell? ⟨wr.heap.size, 1, none⟩ = some (.int .i64 (f k 1)) := cell_of_row _ _ 1 _ _ _ (heap_alloc_new _ _)
      have hne := HNE.out k hlt
      have hnew : ∀ z : Value, ∀ j u, [z][j]? = some u → ((wr.alloc (.cells (pr (f k 0) (f k 1)) 31)).alloc (.cells #[z] 2)).cell? ((⟨wr.heap.size + 1, 0, none⟩ : Addr).add j) = some u := fun z => by
        have := cell_one_new (wr.alloc (.cells (pr (f k 0) (f k 1)) 31)) z 2
        rwa [World.size_alloc] at this
      clear hs hc
      by_cases h0 : f k 0 = x
      · have h1 : f k 1 ≠ x := by omega
        have HU := hide (jl_yes h0 h1)
        have b0 : (f k 0 == x) = true := by simpa using h0
        have b1 : (f k 1 == x) = false := by simpa using h1
        have H5 : Hid (∀ k, u5.ownBlock = some k → k < wr.heap.size) := hide (fun k hk => (World.ownsRow.lt hok k hk).2)
        clear h0 h1 hne hok hbk
        go_wp2_with (at_builtin; (refine wpList_append_own _ rfl _ _ 32 rfl w.heap.size 2 i0 (.int .i64 0) 1 8 Try.underlying32 hi hz0 hz1 hz2 rfl (by decide) _ _ _ rfl (World.ownsRow.alloc hok2 _) ⟨wr.heap.size + 1, 0, none⟩ 1 1 [.int .i64 (f k 1)] rfl rfl (hnew (.int .i64 (f k 1))) (by intro u hu; simp at hu; subst hu; rfl) (by unfold maxLen; omega) (by omega) (by simp; omega) ?_))
        intro v' w1 hown' hgrow _
        have R := grow_rel (by simp; omega) hB2 hok2 hown' hgrow
        rw [← HU.out] at R
        have y1 : w1.cell? ⟨wr.heap.size, 1, none⟩ = some (.int .i64 (f k 1)) := by
          have c1 := keepc ((Below.refl _ _).alloc (Nat.le_refl _) (.cells #[.int .i64 (f k 1)] 2)) e1
          exact (World.cell?_of_block (hgrow.block wr.heap.size (by simp; omega) (fun e => by have := H5.out _ e.symm; omega))).trans c1
        have HR := hide R
        clear hown' hgrow R hok2 hB2 q0 q1 e0 e1
        go_wp2
        go_roundw
        case rel => exact ⟨k + 1, by omega, by go_num, HR.out.1, HR.out.2⟩
        case measure => simp [intOf]; omega
      · by_cases h1 : f k 1 = x
        · have HU := hide (jl_yes1 h0 h1)
          have b0 : (f k 0 == x) = false := by simpa using h0
          have b1 : (f k 1 == x) = true := by simpa using h1
          clear h0 h1 hne hok hbk
          go_wp2_with (at_builtin; (refine wpList_append_own _ rfl _ _ 32 rfl w.heap.size 2 i0 (.int .i64 0) 1 8 Try.underlying32 hi hz0 hz1 hz2 rfl (by decide) _ _ _ rfl (World.ownsRow.alloc hok2 _) ⟨wr.heap.size + 1, 0, none⟩ 1 1 [.int .i64 (f k 0)] rfl rfl (hnew (.int .i64 (f k 0))) (by intro u hu; simp at hu; subst hu; rfl) (by unfold maxLen; omega) (by omega) (by simp; omega) ?_))
          intro v' w1 hown' hgrow _
          have R := grow_rel (by simp; omega) hB2 hok2 hown' hgrow
          rw [← HU.out] at R
          have HR := hide R
          clear hown' hgrow R hok2 hB2 q0 q1 e0 e1
          go_wp2
          go_roundw
          case rel => exact ⟨k + 1, by omega, by go_num, HR.out.1, HR.out.2⟩
          case measure => simp [intOf]; omega
        · have HU := hide (jl_no h0 h1)
          have b0 : (f k 0 == x) = false := by simpa using h0
          have b1 : (f k 1 == x) = false := by simpa using h1
          clear h0 h1 hne hok hbk
          have HR := hide (And.intro hok2 hB2)
          clear hok2 hB2
          go_wp2
          go_roundw
          case rel => exact ⟨k + 1, by omega, by go_num, by rw [HU.out]; exact HR.out.1, HR.out.2⟩
          case measure => simp [intOf]; omega
    · have e : k = n := by omega
      subst e
      go_wp2
      go_ret
      exact ⟨_, rfl, hok, hbk⟩

end Go.Proofs.Ytgafpepmmjjaaaa
