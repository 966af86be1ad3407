/- LnkD, LnkE, LnkF -/
import Derived.Test.YtnkocikbapbbmaaYnkPlay3
import Derived.Maps.AppendAt
/- impl.bodiesOk, impl.LinkOk -/
namespace Go.Proofs.Ytnkocikbapbbmaa
open Go.RowKit
set_option linter.unusedVariables false
set_option linter.unusedSimpArgs false

theorem byt_ne {a b : ByteArray} (h : ¬ a = b) : (a.toList == b.toList) = false := by
  rw [beq_eq_false_iff_ne]
  intro e
  apply h
  rw [ByteArray.toList_eq, ByteArray.toList_eq] at e
  exact ByteArray.ext (Array.toList_inj.1 e)
theorem Sg.at1 {w : World} {ad : Option Addr} {n m cap : Nat} {s : Nat → ByteArray} (h : Sg w (.slice ad n cap) 1 m (tF s)) (hp : 0 < n) (hnm : n = m) : ∃ b off, ad = some ⟨b, off, none⟩ ∧ ∀ j, j < n → w.cell? ⟨b, off + j, none⟩ = some (.string (s j)) := by
  subst hnm
  obtain ⟨ad', cap', e, hc⟩ := h
  simp only [Value.slice.injEq] at e
  obtain ⟨rfl, _, rfl⟩ := e
  obtain ⟨b, off, rfl, hd⟩ := hc hp
  refine ⟨b, off, rfl, fun j hj => ?_⟩
  have := hd j hj 0 (by omega)
  rwa [Nat.mul_one, Nat.add_zero] at this

/-- what bodiesOk answers -/
def boB (bn nw ng : Nat) (ws gs : Nat → ByteArray) : Bool := maB bn ng ws gs && (tbB nw ws && tbB ng gs)
theorem bo_no {bn nw ng k : Nat} {ws gs : Nat → ByteArray} (hk : k < ng - bn) (h : ¬ ws k = gs (bn + k)) : false = boB bn nw ng ws gs := by
  unfold boB
  rw [show maB bn ng ws gs = false from decide_eq_false (fun hh => h (hh k hk)), Bool.false_and]

set_option maxRecDepth 20000 in
set_option maxHeartbeats 4000000 in
theorem bodies_any (pk : Int) (bn : Nat) (wa da ua : Option Addr) (gb go nw ng nd nu wc gc dc uc : Nat) (ws gs : Nat → ByteArray) (w : World) (hw : Sg w (.slice wa nw wc) 1 nw (tF ws)) (hg : Sg w (.slice (some ⟨gb, go, none⟩) ng gc) 1 ng (tF gs)) (h1 : bn ≤ ng) (h2 : ng - bn ≤ nw) (h3 : ng ≤ gc) (h4 : ng ≤ 1048576) (h5 : nw ≤ 1048576) :
    Calls Try.prog 36 #[.agg (l6 (bn : Int) (.slice wa nw wc) pk (.slice (some ⟨gb, go, none⟩) ng gc) (.slice da nd dc) (.slice ua nu uc))] w fun e w' => e = .returned (.bool (boB bn nw ng ws gs)) ∧ Below w.heap.size w w' := by
  have hB0 : Below w.heap.size w (w.alloc (.cells (l6 (bn : Int) (.slice wa nw wc) pk (.slice (some ⟨gb, go, none⟩) ng gc) (.slice da nd dc) (.slice ua nu uc)) 30)) := (Below.refl _ _).alloc (Nat.le_refl _) _
  obtain ⟨_, x0, x1, x2, x3, x4, x5⟩ := box6 (heap_alloc_new w (.cells (l6 (bn : Int) (.slice wa nw wc) pk (.slice (some ⟨gb, go, none⟩) ng gc) (.slice da nd dc) (.slice ua nu uc)) 30))
  obtain ⟨W, hE⟩ : ∃ W, w.alloc (.cells (l6 (bn : Int) (.slice wa nw wc) pk (.slice (some ⟨gb, go, none⟩) ng gc) (.slice da nd dc) (.slice ua nu uc)) 30) = W := ⟨_, rfl⟩
  rw [hE] at hB0 x0 x1 x2 x3 x4 x5
  have HW := hide (hw.below hB0)
  have HG := hide (hg.below hB0)
  have HTW := hide (implTexts_any _ nw ws W HW.out h5)
  have HTG := hide (implTexts_any _ ng gs W HG.out h4)
  clear hw hg
  -- the end: all that was got is there
  have fin : Hid (∀ (tw tg : Bool), tbB nw ws = tw → tbB ng gs = tg → (∀ j, j < ng - bn → ws j = gs (bn + j)) → (tw && tg) = boB bn nw ng ws gs) := hide (fun tw tg e1 e2 h => by
    unfold boB
    rw [show maB bn ng ws gs = true from decide_eq_true h, e1, e2, Bool.true_and])
  obtain ⟨tw, htw⟩ : ∃ tw, tbB nw ws = tw := ⟨_, rfl⟩
  obtain ⟨tg, htg⟩ : ∃ tg, tbB ng gs = tg := ⟨_, rfl⟩
  rw [htw] at HTW
  rw [htg] at HTG
  have FIN := hide (fin.out tw tg htw htg)
  clear fin htw htg
  have hbn : (0 : Int) ≤ (bn : Int) := by omega
  have hbn2 : (bn : Int) ≤ (ng : Int) := by omega
  by_cases hz : gc = bn
  · have hng : ng = bn := by omega
    subst hng
    subst hz
    have HF := hide (FIN.out (fun j hj => absurd hj (by omega)))
    go_enter Try.func36, Try.ntmps36
    go_wp2
    go_loopw [11] (fun j wr => j = .int .i64 0 ∧ wr = W) (fun _ _ => 0)
    case atStart => exact ⟨rfl, rfl⟩
    case round =>
      obtain ⟨rfl, rfl⟩ := hrel
      go_wp2_with fail
      refine HTW.out.mono ?_
      rintro e w2 ⟨rfl, rfl⟩
      cases tw with
      | false =>
        go_wp2
        go_ret
        exact ⟨retb HF.out, hB0⟩
      | true =>
        go_wp2_with fail
        refine HTG.out.mono ?_
        rintro e w2 ⟨rfl, rfl⟩
        go_wp2
        go_ret
        exact ⟨retb HF.out, hB0⟩
  · have hz2 : ¬ gc - bn = 0 := by omega
    obtain ⟨n, hn⟩ : ∃ n, ng - bn = n := ⟨_, rfl⟩
    have HNO : Hid (∀ k, k < n → ¬ ws k = gs (bn + k) → false = boB bn nw ng ws gs) := hide (fun k hk h => bo_no (by omega) h)
    have FIN2 : Hid ((∀ j, j < n → ws j = gs (bn + j)) → (tw && tg) = boB bn nw ng ws gs) := hide (fun h => FIN.out (fun j hj => h j (by omega)))
    have hgcn : bn < gc := by omega
    clear FIN
    go_enter Try.func36, Try.ntmps36
    go_wp2
    clear hE
    go_loopw [11] (fun j wr => ∃ k : Nat, k ≤ n ∧ j = .int .i64 k ∧ wr = W ∧ Hid (∀ j, j < k → ws j = gs (bn + j))) (fun j _ => n - (intOf j).toNat)
    case atStart => exact ⟨0, Nat.zero_le _, rfl, rfl, hide (fun j hj => absurd hj (by omega))⟩
    case round =>
      obtain ⟨k, hk, rfl, rfl, HK⟩ := hrel
      by_cases hlt : k < n
      · obtain ⟨wb, wo, rfl, hcw⟩ := HW.out.at1 (by omega) rfl
        obtain ⟨gb', go', eg, hcg⟩ := HG.out.at1 (by omega) rfl
        simp only [Option.some.injEq, Addr.mk.injEq] at eg
        obtain ⟨rfl, rfl, _⟩ := eg
        have cw := hcw k (by omega)
        have cg : wr.cell? ⟨gb, go + bn + k, none⟩ = some (.string (gs (bn + k))) := by
          have := hcg (bn + k) (by omega)
          rwa [← Nat.add_assoc] at this
        have hk0 : (0 : Int) ≤ (k : Int) := by omega
        have hkn : (k : Int) < ((ng - bn : Nat) : Int) := by omega
        have hkw : (k : Int) < (nw : Int) := by omega
        clear hcw hcg
        by_cases he : ws k = gs (bn + k)
        · have HK2 : Hid (∀ j, j < k + 1 → ws j = gs (bn + j)) := hide (fun j hj => by
            by_cases e : j = k
            · subst e; exact he
            · exact HK.out j (by omega))
          have hself := str_self (gs (bn + k))
          rw [he] at cw
          clear he
          generalize gs (bn + k) = gk at cw cg hself
          go_wp2
          go_roundw
          case rel => exact ⟨k + 1, by omega, by go_num, by first | rfl | trivial, HK2⟩
          case measure => simp [intOf]; omega
        · have HO := hide (HNO.out k hlt he)
          have hq := byt_ne he
          clear he
          generalize gs (bn + k) = gk at cg hq
          generalize ws k = wk at cw hq
          go_wp2
          go_ret
          exact ⟨retb HO.out, hB0⟩
      · have HF := hide (FIN2.out (fun j hj => HK.out j (by omega)))
        have hnk : ¬ (k : Int) < ((ng - bn : Nat) : Int) := by omega
        go_wp2_with fail
        refine HTW.out.mono ?_
        rintro e w2 ⟨rfl, rfl⟩
        cases tw with
        | false =>
          go_wp2
          go_ret
          exact ⟨retb HF.out, hB0⟩
        | true =>
          go_wp2_with fail
          refine HTG.out.mono ?_
          rintro e w2 ⟨rfl, rfl⟩
          go_wp2
          go_ret
          exact ⟨retb HF.out, hB0⟩

end Go.Proofs.Ytnkocikbapbbmaa

/- impl.LinkOk -/
namespace Go.Proofs.Ytnkocikbapbbmaa
open Go.RowKit
set_option linter.unusedVariables false
set_option linter.unusedSimpArgs false

theorem lk_eq (p : Lk) : lkB p = (nbB p.base p.want p.nw p.ng && boB p.base.toNat p.nw p.ng p.ws p.gs && wiB p.nd p.dt && wiB p.nu p.ut) := rfl

end Go.Proofs.Ytnkocikbapbbmaa

/- spec.LinkOk (written by mkLnkF.py) -/
namespace Go.Proofs.Ytnkocikbapbbmaa
open Go.RowKit
set_option linter.unusedVariables false
set_option linter.unusedSimpArgs false

theorem step_append_run {P : Program} {ops : Array Oper} {o : Oper} {a : Act} {w : World} {K : Act → World → Prop} {Q : Exit → Act → World → Prop} {E : Prop} (hgd : o.guard = none) (s x : Operand) (t : TypeId)
    (ho : o.op = .call { callee := .builtin .append, args := #[s, x], argTypes := #[t, t] }) {v u v' : Value} {w' : World} (hs : a.eval s = v) (hx : a.eval x = u) (hr : (Builtin.append_ #[t, t] o.type #[v, u]).run P w = .ok v' w') (h : K (a.put o.dst v') w') :
    if Region.wanted o (yielded ops a.tmps) = true then Oper.wp P o a w K Q else E := by
  have hw : Region.wanted o (yielded ops a.tmps) = true := by simp [Region.wanted, hgd]
  rw [if_pos hw]
  unfold Oper.wp execOp
  simp only [ho, resolve, invoke, builtin, Sem.run_bind, Sem.run_pure, Result.andThen_ok, List.map_toArray, List.map_cons, List.map_nil, hs, hx, hr]
  exact h

set_option maxHeartbeats 1000000 in
theorem l1InD (n lo hi : Int) (w : World) : Calls Try.prog 31 #[.int .i64 n, .int .i64 lo, .int .i64 hi] w fun e w' => e = .returned (.bool (decide (lo ≤ n ∧ n ≤ hi))) ∧ w' = w := by
  by_cases h0 : lo ≤ n
  · by_cases h1 : n ≤ hi
    · have HO : Hid (true = decide (lo ≤ n ∧ n ≤ hi)) := hide (decide_eq_true ⟨h0, h1⟩).symm
      generalize decide (lo ≤ n ∧ n ≤ hi) = q at HO ⊢
      go_enter Try.func31, Try.ntmps31
      go_wp2
      go_ret
      exact ⟨retb HO.out, rfl⟩
    · have HO : Hid (false = decide (lo ≤ n ∧ n ≤ hi)) := hide (decide_eq_false (fun h => h1 h.2)).symm
      generalize decide (lo ≤ n ∧ n ≤ hi) = q at HO ⊢
      go_enter Try.func31, Try.ntmps31
      go_wp2
      go_ret
      exact ⟨retb HO.out, rfl⟩
  · have HO : Hid (false = decide (lo ≤ n ∧ n ≤ hi)) := hide (decide_eq_false (fun h => h0 h.1)).symm
    generalize decide (lo ≤ n ∧ n ≤ hi) = q at HO ⊢
    go_enter Try.func31, Try.ntmps31
    go_wp2
    go_ret
    exact ⟨retb HO.out, rfl⟩

set_option maxHeartbeats 2000000 in
theorem specWires_any (v : Value) (n : Nat) (t : Nat → ByteArray) (hh : Nat → Bool) (w : World) (hs : Sg w v 2 n (wF t hh)) (hl : n ≤ 1048576) :
    Calls Try.prog 32 #[v] w fun e w' => e = .returned (.bool (wiB n t)) ∧ w' = w := by
  obtain ⟨ad, cap, rfl, hs⟩ := hs
  go_enter Try.func32, Try.ntmps32
  go_wp2
  go_loopw [3] (fun i wr => ∃ k : Nat, k ≤ n ∧ i = .int .i64 k ∧ wr = w ∧ Hid (∀ j, j < k → 7 ≤ (t j).size ∧ (t j).size ≤ 15)) (fun i _ => n - (intOf i).toNat)
  case atStart => exact ⟨0, Nat.zero_le _, rfl, rfl, hide (fun j hj => absurd hj (by omega))⟩
  case round =>
    obtain ⟨k, hk, rfl, rfl, HK⟩ := hrel
    by_cases hlt : k < n
    · obtain ⟨p, off, rfl, hc⟩ := hs (by omega)
      have q0 : wr.cell? ⟨p, off + k * 2, none⟩ = some (.string (t k)) := hc k hlt 0 (by omega)
      have hk0 : (0 : Int) ≤ (k : Int) := by omega
      have hk1 : (k : Int) < (n : Int) := by omega
      have HK2 : Hid (7 ≤ (t k).size ∧ (t k).size ≤ 15 → ∀ j, j < k + 1 → 7 ≤ (t j).size ∧ (t j).size ≤ 15) := hide (fun h j hj => by
        by_cases e : j = k
        · subst e; exact h
        · exact HK.out j (by omega))
      have HNO : Hid (¬ (7 ≤ (t k).size ∧ (t k).size ≤ 15) → false = wiB n t) := hide (fun h => (decide_eq_false (fun hh => h (hh.1 k hlt))).symm)
      clear hs hc
      generalize t k = tk at q0 HK2 HNO
      by_cases c1 : tk.size < 7
      · have d1 : decide ((tk.size : Int) < 7) = true := by simp; omega
        have HO := hide (HNO.out (by omega))
        go_wp2
        go_ret
        exact ⟨retb HO.out, by first | rfl | trivial⟩
      have d1 : decide ((tk.size : Int) < 7) = false := by simp; omega
      by_cases c2 : 15 < tk.size
      · have d2 : decide ((15 : Int) < (tk.size : Int)) = true := by simp; omega
        have HO := hide (HNO.out (by omega))
        go_wp2
        go_ret
        exact ⟨retb HO.out, by first | rfl | trivial⟩
      have d2 : decide ((15 : Int) < (tk.size : Int)) = false := by simp; omega
      have HK3 := hide (HK2.out (by omega))
      go_wp2
      go_roundw
      case rel => exact ⟨k + 1, by omega, by go_num, by first | rfl | trivial, HK3⟩
      case measure => simp [intOf]; omega
    · have HO : Hid (decide ((n : Int) ≤ 12) = wiB n t) := hide (by
        unfold wiB
        rw [decide_eq_decide]
        exact ⟨fun h => ⟨fun j hj => HK.out j (by omega), by omega⟩, fun h => by have := h.2; omega⟩)
      clear hs
      generalize hq : decide ((n : Int) ≤ 12) = q at HO
      cases q
      all_goals
        go_wp2
        go_ret
        exact ⟨retb HO.out, by first | rfl | trivial⟩

def tl (n : Nat) (s : Nat → ByteArray) : List Value := (List.range n).map fun j => .string (s j)
theorem tl_len (n : Nat) (s : Nat → ByteArray) : (tl n s).length = n := by simp [tl]
theorem tl_get {n j : Nat} {s : Nat → ByteArray} (h : j < n) : (tl n s)[j]? = some (.string (s j)) := by simp [tl, h]
theorem addrN (b o n : Nat) : (⟨b, o, none⟩ : Addr).add n = ⟨b, o + n, none⟩ := by
  by_cases h : n = 0 <;> simp [Addr.add, h]
/-- texts appended to a row of the call's own -/
theorem app_texts (W : World) (base : Nat) (v : Value) (n : Nat) (xs : List Value) (b off m c : Nat) (s : Nat → ByteArray) (ty : TypeId) (ho : W.ownsRow base 9 1 v n xs) (hs : Sg W (.slice (some ⟨b, off, none⟩) m c) 1 m (tF s)) (hb : base ≤ W.heap.size) (hl : n + m ≤ 4194304) :
    ∃ v' w', (Builtin.append_ #[22, 22] ty #[v, .slice (some ⟨b, off, none⟩) m c]).run Try.prog W = .ok v' w' ∧ w'.ownsRow base 9 1 v' (n + m) (xs ++ tl m s) ∧ W.grownBy w' v.ownBlock := by
  obtain ⟨i0, hi, hz0, hz1, hz2⟩ := info_parts infoStr
  obtain ⟨v', w', hr, ho', hg, _, _⟩ := run_append_own_at (P := Try.prog) W base 22 ty 9 i0 _ 1 16 Try.underlying22 hi hz0 hz1 hz2 rfl (by omega) v n xs ho ⟨b, off, none⟩ m c (tl m s) (by rw [tl_len]; omega) (fun j u hu => by
    have hj : j < m := by
      have := (List.getElem?_eq_some_iff.1 hu).1
      rwa [tl_len] at this
    rw [tl_get hj] at hu
    obtain ⟨b', off', e, hc⟩ := hs.at1 (by omega) rfl
    simp only [Option.some.injEq, Addr.mk.injEq] at e
    obtain ⟨rfl, rfl, _⟩ := e
    rw [addrN, hc j hj]
    exact hu) (fun u hu => by
    unfold tl at hu
    obtain ⟨j, _, rfl⟩ := List.mem_map.1 hu
    rfl) (by unfold maxLen; omega) (by omega) hb
  exact ⟨v', w', hr, ho', hg⟩
/-- both lists, one behind the other -/
def al (nw : Nat) (ws gs : Nat → ByteArray) (i : Nat) : ByteArray := if i < nw then ws i else gs (i - nw)
theorem all_sg {w : World} {base : Nat} {v : Value} {nw ng : Nat} {ws gs : Nat → ByteArray} (h : w.ownsRow base 9 1 v (nw + ng) (tl nw ws ++ tl ng gs)) : Sg w v 1 (nw + ng) (tF (al nw ws gs)) ∧ ∃ a c, v = .slice a (nw + ng) c := by
  rcases h.2 with ⟨h', hn⟩ | ⟨g, cap, cur, h', hb, hg, hnc, hcm, hcs, htake⟩
  · exact ⟨⟨none, 0, by rw [hn]; exact h', fun hp => by omega⟩, none, 0, by rw [hn]; exact h'⟩
  · have hh : w.ownsRow base 9 1 (.slice (some ⟨g, 0, none⟩) (nw + ng) cap) (nw + ng) (tl nw ws ++ tl ng gs) := h' ▸ h
    refine ⟨⟨_, cap, h', fun _ => ⟨g, 0, rfl, fun j hj i hi => ?_⟩⟩, _, _, h'⟩
    obtain rfl : i = 0 := by omega
    rw [Nat.mul_one, Nat.add_zero, Nat.zero_add, hh.cellAt j (by omega)]
    by_cases e : j < nw
    · rw [List.getElem?_append_left (by rw [tl_len]; exact e), tl_get e]
      simp [tF, al, e]
    · rw [List.getElem?_append_right (by rw [tl_len]; omega), tl_len, tl_get (by omega)]
      simp [tF, al, e]
theorem tb_all {nw ng : Nat} {ws gs : Nat → ByteArray} : (∀ j, j < nw + ng → (al nw ws gs j).size ≤ 8) ↔ (tbB nw ws = true ∧ tbB ng gs = true) := by
  unfold tbB
  rw [decide_eq_true_iff, decide_eq_true_iff]
  constructor
  · intro h
    refine ⟨fun j hj => ?_, fun j hj => ?_⟩
    · have := h j (by omega)
      rwa [al, if_pos hj] at this
    · have := h (nw + j) (by omega)
      rwa [al, if_neg (by omega), Nat.add_sub_cancel_left] at this
  · rintro ⟨h1, h2⟩ j hj
    unfold al
    split
    · exact h1 j (by assumption)
    · exact h2 (j - nw) (by omega)

end Go.Proofs.Ytnkocikbapbbmaa
