/- spec.LinkOk (written by mkLnkF.py) -/
import Derived.Test.YtgflipkhhpkidaaLnkE
import Derived.Maps.AppendAt
namespace Go.Proofs.Ytgflipkhhpkidaa
open Go.RowKit
set_option linter.unusedVariables false
set_option linter.unusedSimpArgs false

theorem step_append_run {P : Program} {ops : Array Oper} {o : Oper} {a : Act} {w : World} {K : Act → World → Prop} {Q : Exit → Act → World → Prop} {E : Prop} (hgd : o.guard = none) (s x : Operand) (t : TypeId)
    (ho : o.op = .call { callee := .builtin .append, args := #[s, x], argTypes := #[t, t] }) {v u v' : Value} {w' : World} (hs : a.eval s = v) (hx : a.eval x = u) (hr : (Builtin.append_ #[t, t] o.type #[v, u]).run P w = .ok v' w') (h : K (a.put o.dst v') w') :
    if Region.wanted o (yielded ops a.tmps) = true then Oper.wp P o a w K Q else E := by
  have hw : Region.wanted o (yielded ops a.tmps) = true := by simp [Region.wanted, hgd]
  rw [if_pos hw]
  unfold Oper.wp execOp
  simp only [ho, resolve, invoke, builtin, Sem.run_bind, Sem.run_pure, Result.andThen_ok, List.map_toArray, List.map_cons, List.map_nil, hs, hx, hr]
  exact h

set_option maxHeartbeats 1000000 in
theorem l1InD (n lo hi : Int) (w : World) : Calls Try.prog 32 #[.int .i64 n, .int .i64 lo, .int .i64 hi] w fun e w' => e = .returned (.bool (decide (lo ≤ n ∧ n ≤ hi))) ∧ w' = w := by
  by_cases h0 : lo ≤ n
  · by_cases h1 : n ≤ hi
    · have HO : Hid (true = decide (lo ≤ n ∧ n ≤ hi)) := hide (decide_eq_true ⟨h0, h1⟩).symm
      generalize decide (lo ≤ n ∧ n ≤ hi) = q at HO ⊢
      go_enter Try.func32, Try.ntmps32
      go_wp2
      go_ret
      exact ⟨retb HO.out, rfl⟩
    · have HO : Hid (false = decide (lo ≤ n ∧ n ≤ hi)) := hide (decide_eq_false (fun h => h1 h.2)).symm
      generalize decide (lo ≤ n ∧ n ≤ hi) = q at HO ⊢
      go_enter Try.func32, Try.ntmps32
      go_wp2
      go_ret
      exact ⟨retb HO.out, rfl⟩
  · have HO : Hid (false = decide (lo ≤ n ∧ n ≤ hi)) := hide (decide_eq_false (fun h => h0 h.1)).symm
    generalize decide (lo ≤ n ∧ n ≤ hi) = q at HO ⊢
    go_enter Try.func32, Try.ntmps32
    go_wp2
    go_ret
    exact ⟨retb HO.out, rfl⟩

set_option maxHeartbeats 2000000 in
theorem specWires_any (v : Value) (n : Nat) (t : Nat → ByteArray) (hh : Nat → Bool) (w : World) (hs : Sg w v 2 n (wF t hh)) (hl : n ≤ 1048576) :
    Calls Try.prog 33 #[v] w fun e w' => e = .returned (.bool (wiB n t)) ∧ w' = w := by
  obtain ⟨ad, cap, rfl, hs⟩ := hs
  go_enter Try.func33, Try.ntmps33
  go_wp2
  go_loopw [3] (fun i wr => ∃ k : Nat, k ≤ n ∧ i = .int .i64 k ∧ wr = w ∧ Hid (∀ j, j < k → 7 ≤ (t j).size ∧ (t j).size ≤ 15)) (fun i _ => n - (intOf i).toNat)
  case atStart => exact ⟨0, Nat.zero_le _, rfl, rfl, hide (fun j hj => absurd hj (by omega))⟩
  case round =>
    obtain ⟨k, hk, rfl, rfl, HK⟩ := hrel
    by_cases hlt : k < n
    · obtain ⟨p, off, rfl, hc⟩ := hs (by omega)
      have q0 : wr.cell? ⟨p, off + k * 2, none⟩ = some (.string (t k)) := hc k hlt 0 (by omega)
      have hk0 : (0 : Int) ≤ (k : Int) := by omega
      have hk1 : (k : Int) < (n : Int) := by omega
      have HK2 : Hid (7 ≤ (t k).size ∧ (t k).size ≤ 15 → ∀ j, j < k + 1 → 7 ≤ (t j).size ∧ (t j).size ≤ 15) := hide (fun h j hj => by
        by_cases e : j = k
        · subst e; exact h
        · exact HK.out j (by omega))
      have HNO : Hid (¬ (7 ≤ (t k).size ∧ (t k).size ≤ 15) → false = wiB n t) := hide (fun h => (decide_eq_false (fun hh => h (hh.1 k hlt))).symm)
      clear hs hc
      generalize t k = tk at q0 HK2 HNO
      by_cases c1 : tk.size < 7
      · have d1 : decide ((tk.size : Int) < 7) = true := by simp; omega
        have HO := hide (HNO.out (by omega))
        go_wp2
        go_ret
        exact ⟨retb HO.out, by first | rfl | trivial⟩
      have d1 : decide ((tk.size : Int) < 7) = false := by simp; omega
      by_cases c2 : 15 < tk.size
      · have d2 : decide ((15 : Int) < (tk.size : Int)) = true := by simp; omega
        have HO := hide (HNO.out (by omega))
        go_wp2
        go_ret
        exact ⟨retb HO.out, by first | rfl | trivial⟩
      have d2 : decide ((15 : Int) < (tk.size : Int)) = false := by simp; omega
      have HK3 := hide (HK2.out (by omega))
      go_wp2
      go_roundw
      case rel => exact ⟨k + 1, by omega, by go_num, by first | rfl | trivial, HK3⟩
      case measure => simp [intOf]; omega
    · have HO : Hid (decide ((n : Int) ≤ 12) = wiB n t) := hide (by
        unfold wiB
        rw [decide_eq_decide]
        exact ⟨fun h => ⟨fun j hj => HK.out j (by omega), by omega⟩, fun h => by have := h.2; omega⟩)
      clear hs
      generalize hq : decide ((n : Int) ≤ 12) = q at HO
      cases q
      all_goals
        go_wp2
        go_ret
        exact ⟨retb HO.out, by first | rfl | trivial⟩

def tl (n : Nat) (s : Nat → ByteArray) : List Value := (List.range n).map fun j => .string (s j)
theorem tl_len (n : Nat) (s : Nat → ByteArray) : (tl n s).length = n := by simp [tl]
theorem tl_get {n j : Nat} {s : Nat → ByteArray} (h : j < n) : (tl n s)[j]? = some (.string (s j)) := by simp [tl, h]
theorem addrN (b o n : Nat) : (⟨b, o, none⟩ : Addr).add n = ⟨b, o + n, none⟩ := by
  by_cases h : n = 0 <;> simp [Addr.add, h]
/-- texts appended to a row of the call's own -/
theorem app_texts (W : World) (base : Nat) (v : Value) (n : Nat) (xs : List Value) (b off m c : Nat) (s : Nat → ByteArray) (ty : TypeId) (ho : W.ownsRow base 9 1 v n xs) (hs : Sg W (.slice (some ⟨b, off, none⟩) m c) 1 m (tF s)) (hb : base ≤ W.heap.size) (hl : n + m ≤ 4194304) :
    ∃ v' w', (Builtin.append_ #[24, 24] ty #[v, .slice (some ⟨b, off, none⟩) m c]).run Try.prog W = .ok v' w' ∧ w'.ownsRow base 9 1 v' (n + m) (xs ++ tl m s) ∧ W.grownBy w' v.ownBlock := by
  obtain ⟨i0, hi, hz0, hz1, hz2⟩ := info_parts infoStr
  obtain ⟨v', w', hr, ho', hg, _, _⟩ := run_append_own_at (P := Try.prog) W base 24 ty 9 i0 _ 1 16 Try.underlying24 hi hz0 hz1 hz2 rfl (by omega) v n xs ho ⟨b, off, none⟩ m c (tl m s) (by rw [tl_len]; omega) (fun j u hu => by
    have hj : j < m := by
      have := (List.getElem?_eq_some_iff.1 hu).1
      rwa [tl_len] at this
    rw [tl_get hj] at hu
    obtain ⟨b', off', e, hc⟩ := hs.at1 (by omega) rfl
    simp only [Option.some.injEq, Addr.mk.injEq] at e
    obtain ⟨rfl, rfl, _⟩ := e
    rw [addrN, hc j hj]
    exact hu) (fun u hu => by
    unfold tl at hu
    obtain ⟨j, _, rfl⟩ := List.mem_map.1 hu
    rfl) (by unfold maxLen; omega) (by omega) hb
  exact ⟨v', w', hr, ho', hg⟩
/-- both lists, one behind the other -/
def al (nw : Nat) (ws gs : Nat → ByteArray) (i : Nat) : ByteArray := if i < nw then ws i else gs (i - nw)
theorem all_sg {w : World} {base : Nat} {v : Value} {nw ng : Nat} {ws gs : Nat → ByteArray} (h : w.ownsRow base 9 1 v (nw + ng) (tl nw ws ++ tl ng gs)) : Sg w v 1 (nw + ng) (tF (al nw ws gs)) ∧ ∃ a c, v = .slice a (nw + ng) c := by
  rcases h.2 with ⟨h', hn⟩ | ⟨g, cap, cur, h', hb, hg, hnc, hcm, hcs, htake⟩
  · exact ⟨⟨none, 0, by rw [hn]; exact h', fun hp => by omega⟩, none, 0, by rw [hn]; exact h'⟩
  · have hh : w.ownsRow base 9 1 (.slice (some ⟨g, 0, none⟩) (nw + ng) cap) (nw + ng) (tl nw ws ++ tl ng gs) := h' ▸ h
    refine ⟨⟨_, cap, h', fun _ => ⟨g, 0, rfl, fun j hj i hi => ?_⟩⟩, _, _, h'⟩
    obtain rfl : i = 0 := by omega
    rw [Nat.mul_one, Nat.add_zero, Nat.zero_add, hh.cellAt j (by omega)]
    by_cases e : j < nw
    · rw [List.getElem?_append_left (by rw [tl_len]; exact e), tl_get e]
      simp [tF, al, e]
    · rw [List.getElem?_append_right (by rw [tl_len]; omega), tl_len, tl_get (by omega)]
      simp [tF, al, e]
theorem tb_all {nw ng : Nat} {ws gs : Nat → ByteArray} : (∀ j, j < nw + ng → (al nw ws gs j).size ≤ 8) ↔ (tbB nw ws = true ∧ tbB ng gs = true) := by
  unfold tbB
  rw [decide_eq_true_iff, decide_eq_true_iff]
  constructor
  · intro h
    refine ⟨fun j hj => ?_, fun j hj => ?_⟩
    · have := h j (by omega)
      rwa [al, if_pos hj] at this
    · have := h (nw + j) (by omega)
      rwa [al, if_neg (by omega), Nat.add_sub_cancel_left] at this
  · rintro ⟨h1, h2⟩ j hj
    unfold al
    split
    · exact h1 j (by assumption)
    · exact h2 (j - nw) (by omega)

set_option maxRecDepth 20000 in
set_option maxHeartbeats 8000000 in
theorem specLinkOk_any (p : Lk) (da ua : Option Addr) (wb wo gb go wc gc dc uc : Nat) (w : World) (hv : Lv w (.slice (some ⟨wb, wo, none⟩) p.nw wc) (.slice (some ⟨gb, go, none⟩) p.ng gc) (.slice da p.nd dc) (.slice ua p.nu uc) p) (hs : Lsm 1048576 p) :
    Calls Try.prog 13 #[.agg (l6 p.base (.slice (some ⟨wb, wo, none⟩) p.nw wc) p.want (.slice (some ⟨gb, go, none⟩) p.ng gc) (.slice da p.nd dc) (.slice ua p.nu uc))] w fun e w' => e = .returned (.bool (lkB p)) ∧ Below w.heap.size w w' := by
  have hB0 : Below w.heap.size w (w.alloc (.cells (l6 p.base (.slice (some ⟨wb, wo, none⟩) p.nw wc) p.want (.slice (some ⟨gb, go, none⟩) p.ng gc) (.slice da p.nd dc) (.slice ua p.nu uc)) 27)) := (Below.refl _ _).alloc (Nat.le_refl _) _
  have qa := heap_alloc_new w (.cells (l6 p.base (.slice (some ⟨wb, wo, none⟩) p.nw wc) p.want (.slice (some ⟨gb, go, none⟩) p.ng gc) (.slice da p.nd dc) (.slice ua p.nu uc)) 27)
  obtain ⟨w5, hE⟩ : ∃ W, w.alloc (.cells (l6 p.base (.slice (some ⟨wb, wo, none⟩) p.nw wc) p.want (.slice (some ⟨gb, go, none⟩) p.ng gc) (.slice da p.nd dc) (.slice ua p.nu uc)) 27) = W := ⟨_, rfl⟩
  rw [hE] at hB0 qa
  have HV := hide (hv.below hB0)
  obtain ⟨_, x0, x1, x2, x3, x4, x5⟩ := box6 qa
  have HLK := hide (lk_eq p)
  obtain ⟨⟨s1, _⟩, ⟨s2, _⟩, ⟨s3, _⟩, ⟨s4, _⟩⟩ := hs
  have HNBF : Hid (¬ nbP p.base p.want p.nw p.ng → false = lkB p) := hide (fun h => by rw [HLK.out, show nbB p.base p.want p.nw p.ng = false from decide_eq_false h]; rfl)
  have HDN := hide (specWires_any _ p.nd p.dt p.dh w5 HV.out.dn s3)
  have HUP := hide (specWires_any _ p.nu p.ut p.uh w5 HV.out.up s4)
  clear hv
  have HI1 := hide (l1InD p.base 0 999900 w5)
  by_cases n1 : ¬ (0 ≤ p.base ∧ p.base ≤ 999900)
  · have HO := hide (HNBF.out (fun h => n1 ⟨h.1, h.2.1⟩))
    rw [show decide (0 ≤ p.base ∧ p.base ≤ 999900) = false from decide_eq_false n1] at HI1
    generalize lkB p = res at HO ⊢
    clear HNBF HLK n1
    go_enter Try.func13, Try.ntmps13
    go_wp2_with fail
    refine HI1.out.mono ?_
    rintro e w1 ⟨rfl, rfl⟩
    go_wp2
    go_ret
    exact ⟨retb HO.out, hB0⟩
  replace n1 := Decidable.of_not_not n1
  rw [show decide (0 ≤ p.base ∧ p.base ≤ 999900) = true from decide_eq_true n1] at HI1
  by_cases n3 : 8 < p.nw
  · have HO := hide (HNBF.out (fun h => by have := h.2.2.1; omega))
    have d3 : decide ((8 : Int) < (p.nw : Int)) = true := by simp; omega
    generalize lkB p = res at HO ⊢
    clear HNBF HLK
    go_enter Try.func13, Try.ntmps13
    go_wp2_with fail
    refine HI1.out.mono ?_
    rintro e w1 ⟨rfl, rfl⟩
    go_wp2
    go_ret
    exact ⟨retb HO.out, hB0⟩
  have d3 : decide ((8 : Int) < (p.nw : Int)) = false := by simp; omega
  have hwr : wrap64 (p.base + (p.nw : Int)) = p.base + p.nw := Go.IntWalk.wrap64_in _ (by omega)
  have HI2 := hide (l1InD p.want p.base (p.base + p.nw) w5)
  by_cases n4 : ¬ (p.base ≤ p.want ∧ p.want ≤ p.base + p.nw)
  · have HO := hide (HNBF.out (fun h => n4 ⟨h.2.2.2.1, h.2.2.2.2.1⟩))
    rw [show decide (p.base ≤ p.want ∧ p.want ≤ p.base + p.nw) = false from decide_eq_false n4] at HI2
    generalize lkB p = res at HO ⊢
    clear HNBF HLK n4
    go_enter Try.func13, Try.ntmps13
    go_wp2_with fail
    refine HI1.out.mono ?_
    rintro e w1 ⟨rfl, rfl⟩
    go_wp2_with fail
    refine HI2.out.mono ?_
    rintro e w1 ⟨rfl, rfl⟩
    go_wp2
    go_ret
    exact ⟨retb HO.out, hB0⟩
  replace n4 := Decidable.of_not_not n4
  rw [show decide (p.base ≤ p.want ∧ p.want ≤ p.base + p.nw) = true from decide_eq_true n4] at HI2
  by_cases n6 : ¬ p.want = (p.ng : Int)
  · have HO := hide (HNBF.out (fun h => n6 h.2.2.2.2.2))
    have d6 : ((p.ng : Int) == p.want) = false := by rw [beq_eq_false_iff_ne]; exact fun e => n6 e.symm
    have d7 : ((p.ng : Int) != p.want) = true := by simpa using fun e => n6 e.symm
    have d8 : ¬ (p.ng : Int) = p.want := fun e => n6 e.symm
    generalize lkB p = res at HO ⊢
    clear HNBF HLK n6
    go_enter Try.func13, Try.ntmps13
    go_wp2_with fail
    refine HI1.out.mono ?_
    rintro e w1 ⟨rfl, rfl⟩
    go_wp2_with fail
    refine HI2.out.mono ?_
    rintro e w1 ⟨rfl, rfl⟩
    go_wp2
    go_ret
    exact ⟨retb HO.out, hB0⟩
  replace n6 := Decidable.of_not_not n6
  obtain ⟨bn, hbn⟩ := Int.eq_ofNat_of_zero_le n1.1
  have HLK2 : Hid (lkB p = (boB bn p.nw p.ng p.ws p.gs && wiB p.nd p.dt && wiB p.nu p.ut)) := hide (by
    rw [HLK.out, show nbB p.base p.want p.nw p.ng = true from decide_eq_true ⟨n1.1, n1.2, by omega, n4.1, n4.2, n6⟩, hbn, Int.toNat_natCast, Bool.true_and])
  have d6 : ((p.ng : Int) == p.want) = true := by rw [n6]; simp
  have hbg : bn ≤ p.ng := by omega
  have hgw : p.ng - bn ≤ p.nw := by omega
  clear HNBF HLK
  rw [hbn, n6] at HI2
  rw [hbn] at HI1 hwr
  rw [hbn] at x0
  rw [n6] at x2 d6
  have hwr2 : (bn : Int) ≤ 999900 := by omega
  rw [hbn, n6] at hE ⊢
  have n6x := n6
  have hbx := hbn
  clear n1 n4 n6 hbn
  generalize lkB p = res at HLK2 ⊢
  generalize wiB p.nd p.dt = wd at HDN HLK2
  generalize wiB p.nu p.ut = wu at HUP HLK2
  go_enter Try.func13, Try.ntmps13
  go_wp2_with fail
  refine HI1.out.mono ?_
  rintro e w1 ⟨rfl, hw1⟩
  rw [hw1]
  clear hw1 w1
  go_wp2_with fail
  refine HI2.out.mono ?_
  rintro e w1 ⟨rfl, hw1⟩
  rw [hw1]
  clear hw1 w1
  go_wp2_with fail
  refine HDN.out.mono ?_
  rintro e w1 ⟨rfl, hw1⟩
  rw [hw1]
  clear hw1 w1
  cases wd with
  | false =>
    have HO : Hid (false = res) := hide (by rw [HLK2.out]; simp)
    go_wp2
    go_ret
    exact ⟨retb HO.out, hB0⟩
  | true =>
    go_wp2_with fail
    refine HUP.out.mono ?_
    rintro e w1 ⟨rfl, hw1⟩
    rw [hw1]
    clear hw1 w1
    cases wu with
    | false =>
      have HO : Hid (false = res) := hide (by rw [HLK2.out]; simp)
      go_wp2
      go_ret
      exact ⟨retb HO.out, hB0⟩
    | true =>
      have hA6 : Below w5.heap.size w5 (w5.drew.alloc (.cells #[] 9)) := ((Below.refl _ _).drew).alloc (Nat.le_refl _) _
      obtain ⟨v7, w7, hrun1, ho7, hg7⟩ := app_texts (w5.drew.alloc (.cells #[] 9)) w5.heap.size (.slice (some ⟨w5.heap.size, 0, none⟩) 0 0) 0 [] wb wo p.nw wc p.ws 24 ⟨rfl, .inr ⟨w5.heap.size, 0, #[], rfl, Nat.le_refl _, heap_alloc_new w5.drew _, Nat.le_refl _, by decide, rfl, rfl⟩⟩ (HV.out.wa.below hA6) hA6.size (by omega)
      have hB7 : Below w5.heap.size w5 w7 := hA6.grown hg7 hA6.size (fun k hk => by simp [Value.ownBlock] at hk; omega)
      obtain ⟨v8, w8, hrun2, ho8, hg8⟩ := app_texts w7 w5.heap.size v7 (0 + p.nw) ([] ++ tl p.nw p.ws) gb go p.ng gc p.gs 24 ho7 (HV.out.go.below hB7) hB7.size (by omega)
      have hB8 : Below w5.heap.size w5 w8 := hB7.grown hg8 hB7.size (fun k hk => (World.ownsRow.lt ho7 k hk).1)
      simp only [List.nil_append, Nat.zero_add] at ho8
      obtain ⟨hsg, va8, vc8, rfl⟩ := all_sg ho8
      clear ho7 ho8 hg7 hg8
      go_wp2
      refine wp_region_held_drew (S := fun w' => Below w5.heap.size w5 w') (by kernel_rfl) ((Below.refl _ _).drew) (fun hHeld => ?_)
      refine th0 1 (.pointer (some ⟨w.heap.size, 1, none⟩)) rfl fun _ => ?_
      refine th 2 (.slice (some ⟨wb, wo, none⟩) p.nw wc) rfl (fun w' hSw => by (try dsimp only at hSw); have z1 := keepc hSw x1; have z3 := keepc hSw x3; go_simp) fun _ => ?_
      refine th0 4 (.pointer (some ⟨w.heap.size, 3, none⟩)) rfl fun _ => ?_
      refine th 5 (.slice (some ⟨gb, go, none⟩) p.ng gc) rfl (fun w' hSw => by (try dsimp only at hSw); have z1 := keepc hSw x1; have z3 := keepc hSw x3; go_simp) fun _ => ?_
      refine wpAnyH_ready (rs := [0]) (by kernel_rfl) (by simp) ?_
      refine AllReadyH.cons rfl (fun K hK => ?_) AllReadyH.nil
      go_simp
      refine hK.out _ _ hA6 (fun hHeld => ?_)
      clear hK K
      try simp only [Act.put, List.getElem_toArray, List.getElem_cons_zero, List.getElem_cons_succ, List.setIfInBounds_toArray, List.set_cons_zero, List.set_cons_succ]
      refine wpAnyH_ready (rs := [3]) (by kernel_rfl) (by simp) ?_
      refine AllReadyH.cons rfl (fun K hK => ?_) AllReadyH.nil
      refine step_append_run (by rfl) _ _ 24 (by rfl) (by rfl) (by rfl) hrun1 ?_
      refine hK.out _ _ hB7 (fun hHeld => ?_)
      clear hK K
      try simp only [Act.put, List.getElem_toArray, List.getElem_cons_zero, List.getElem_cons_succ, List.setIfInBounds_toArray, List.set_cons_zero, List.set_cons_succ]
      refine wpAnyH_ready (rs := [6]) (by kernel_rfl) (by simp) ?_
      refine AllReadyH.cons rfl (fun K hK => ?_) AllReadyH.nil
      refine step_append_run (by rfl) _ _ 24 (by rfl) (by rfl) (by rfl) hrun2 ?_
      refine hK.out _ _ hB8 (fun hHeld => ?_)
      clear hK K
      try simp only [Act.put, List.getElem_toArray, List.getElem_cons_zero, List.getElem_cons_succ, List.setIfInBounds_toArray, List.set_cons_zero, List.set_cons_succ]
      refine th0 7 (.slice va8 (p.nw + p.ng) vc8) rfl fun _ => ?_
      refine wpAnyH_done (by kernel_rfl) ?_ _
      clear hHeld
      have HB8 := hide (hB0.trans (hB8.mono hB0.size))
      have HV8 := hide (HV.out.below hB8)
      have qa8 := heap_bl qa hB8
      have HSG := hide hsg
      clear hrun1 hrun2 hA6 hB7 hB8 hsg x0 x1 x2 x3 x4 x5 hE HV hB0
      rw [n6x, hbx] at qa8
      clear n6x hbx
      obtain ⟨_, x0, x1, x2, x3, x4, x5⟩ := box6 qa8
      obtain ⟨N, hN⟩ : ∃ N, p.nw + p.ng = N := ⟨_, rfl⟩
      have HTB : Hid ((∀ j, j < N → (al p.nw p.ws p.gs j).size ≤ 8) ↔ (tbB p.nw p.ws = true ∧ tbB p.ng p.gs = true)) := hide (by rw [← hN]; exact tb_all)
      rw [hN] at HSG ⊢
      have hNb : N ≤ 2097152 := by omega
      have HTF : Hid (¬ (tbB p.nw p.ws = true ∧ tbB p.ng p.gs = true) → false = res) := hide (fun h => by
        rw [HLK2.out]
        unfold boB
        cases h1 : tbB p.nw p.ws <;> cases h2 : tbB p.ng p.gs <;> simp_all)
      have HTT : Hid ((tbB p.nw p.ws = true ∧ tbB p.ng p.gs = true) → res = maB bn p.ng p.ws p.gs) := hide (fun h => by
        rw [HLK2.out]
        unfold boB
        rw [h.1, h.2]
        simp)
      clear hN HLK2
      go_wp2
      go_loopw [4] (fun i wr => ∃ k : Nat, k ≤ N ∧ i = .int .i64 k ∧ wr = w8 ∧ Hid (∀ j, j < k → (al p.nw p.ws p.gs j).size ≤ 8)) (fun i _ => N - (intOf i).toNat)
      case atStart => exact ⟨0, Nat.zero_le _, rfl, rfl, hide (fun j hj => absurd hj (by omega))⟩
      case round =>
        obtain ⟨k, hk, rfl, hwr8, HK⟩ := hrel
        by_cases hlt : k < N
        · obtain ⟨ab, ao, rfl, hca⟩ := HSG.out.at1 (by omega) rfl
          have ca := hca k hlt
          rw [← hwr8] at ca
          have hk0 : (0 : Int) ≤ (k : Int) := by omega
          have hk1 : (k : Int) < (N : Int) := by omega
          have HK2 : Hid ((al p.nw p.ws p.gs k).size ≤ 8 → ∀ j, j < k + 1 → (al p.nw p.ws p.gs j).size ≤ 8) := hide (fun h j hj => by
            by_cases e : j = k
            · subst e; exact h
            · exact HK.out j (by omega))
          have HNO : Hid (¬ (al p.nw p.ws p.gs k).size ≤ 8 → false = res) := hide (fun h => HTF.out (fun h2 => h (HTB.out.2 h2 k hlt)))
          have HW8 := hide hwr8
          clear hca hwr8
          generalize al p.nw p.ws p.gs k = ak at ca HK2 HNO
          by_cases c1 : 8 < ak.size
          · have d1 : decide ((8 : Int) < (ak.size : Int)) = true := by simp; omega
            have HO := hide (HNO.out (by omega))
            go_wp2
            go_ret
            exact ⟨retb HO.out, by rw [HW8.out]; exact HB8.out⟩
          · have d1 : decide ((8 : Int) < (ak.size : Int)) = false := by simp; omega
            have HK3 := hide (HK2.out (by omega))
            go_wp2
            go_roundw
            case rel => exact ⟨k + 1, by omega, by go_num, HW8.out, HK3⟩
            case measure => simp [intOf]; omega
        · have HRES := hide (HTT.out (HTB.out.1 (fun j hj => HK.out j (by omega))))
          rw [hwr8]
          clear hwr8 HTT HTF HTB HSG HK
          obtain ⟨n, hn⟩ : ∃ n, p.ng - bn = n := ⟨_, rfl⟩
          have HMY : Hid ((∀ j, j < n → p.ws j = p.gs (bn + j)) → true = res) := hide (fun h => by rw [HRES.out]; exact (decide_eq_true (fun j hj => h j (by omega))).symm)
          have HMN : Hid (∀ k, k < n → ¬ p.ws k = p.gs (bn + k) → false = res) := hide (fun k hk h => by rw [HRES.out]; exact (decide_eq_false (fun hh => h (hh k (by omega)))).symm)
          clear HRES
          go_wp2
          go_loopw [5] (fun i wr => ∃ k : Nat, k ≤ n ∧ i = .int .i64 ((bn + k : Nat) : Int) ∧ Hid (Below w8.heap.size w8 wr) ∧ Hid (∀ j, j < k → p.ws j = p.gs (bn + j))) (fun i _ => bn + n - (intOf i).toNat)
          case atStart => exact ⟨0, Nat.zero_le _, by simp, hide (Below.refl _ _), hide (fun j hj => absurd hj (by omega))⟩
          case round =>
            obtain ⟨k, hk, rfl, HBR, HK⟩ := hrel
            have y0 := keepc HBR.out x0
            have y1 := keepc HBR.out x1
            have y2 := keepc HBR.out x2
            have y3 := keepc HBR.out x3
            have HBE := hide (HB8.out.trans (HBR.out.mono HB8.out.size))
            by_cases hlt : k < n
            · obtain ⟨wb', wo', ew, hcw⟩ := HV8.out.wa.at1 (by omega) rfl
              simp only [Option.some.injEq, Addr.mk.injEq] at ew
              obtain ⟨rfl, rfl, _⟩ := ew
              obtain ⟨gb', go', eg, hcg⟩ := HV8.out.go.at1 (by omega) rfl
              simp only [Option.some.injEq, Addr.mk.injEq] at eg
              obtain ⟨rfl, rfl, _⟩ := eg
              have cw := keepc HBR.out (hcw k (by omega))
              have cg := keepc HBR.out (hcg (bn + k) (by omega))
              have hlti : ((bn + k : Nat) : Int) < (p.ng : Int) := by omega
              have hi0 : (0 : Int) ≤ ((bn + k : Nat) : Int) := by omega
              have hsub : wrap64 (((bn + k : Nat) : Int) - (bn : Int)) = (k : Int) := by rw [Go.IntWalk.wrap64_in _ (by omega)]; omega
              have hsub3 : ((bn + k : Nat) : Int) - (bn : Int) = (k : Int) := by omega
              have hk0 : (0 : Int) ≤ (k : Int) := by omega
              have hkw : (k : Int) < (p.nw : Int) := by omega
              clear hcw hcg
              obtain ⟨ix, hix⟩ : ∃ ix, bn + k = ix := ⟨_, rfl⟩
              have HIX := hide hix
              rw [hix] at cg hlti hi0 hsub hsub3 ⊢
              by_cases he : p.ws k = p.gs ix
              · have HK2 : Hid (∀ j, j < k + 1 → p.ws j = p.gs (bn + j)) := hide (fun j hj => by
                  by_cases e : j = k
                  · subst e; rw [HIX.out]; exact he
                  · exact HK.out j (by omega))
                have hself := str_self (p.gs ix)
                rw [he] at cw
                clear he hix
                generalize p.gs ix = gk at cw cg hself
                go_wp2
                go_quiet (fail)
                all_goals go_wp2
                all_goals go_roundw
                case rel => exact ⟨k + 1, by omega, by have hh := HIX.out; rw [show ((bn + (k + 1) : Nat) : Int) = (ix : Int) + 1 by omega], hide (below_drewN HBR.out _), HK2⟩
                case measure => have hh := HIX.out; simp [intOf]; omega
              · have HO := hide (HMN.out k hlt (by rw [HIX.out]; exact he))
                have hq := byt_ne (fun e => he e.symm)
                clear he hix
                generalize p.gs ix = gk at cg hq
                generalize p.ws k = wk at cw hq
                go_wp2
                go_quiet (fail)
                all_goals go_wp2
                all_goals go_ret
                all_goals exact ⟨retb HO.out, below_drewN HBE.out _⟩
            · have hlti : ¬ ((bn + k : Nat) : Int) < (p.ng : Int) := by omega
              have HO := hide (HMY.out (fun j hj => HK.out j (by omega)))
              go_wp2
              go_ret
              exact ⟨retb HO.out, HBE.out⟩

end Go.Proofs.Ytgflipkhhpkidaa
