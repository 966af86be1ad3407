/- idsIn; a machine's slot; is it a line of the machine -/
import Derived.Test.YtfckacabaajnkaaDoorOwC
import Derived.Deep.RegionHeld3
namespace Go.Proofs.YtfckacabaajnkaaDoor
open Go.RowKit
set_option linter.unusedVariables false
set_option linter.unusedSimpArgs false

theorem Ow.empty_nil (w : World) (base : Nat) : Ow w base (.slice none 0 0) [] := World.ownsRow_nil _ _ _ _

/-- the first k numbers 1, 2, .. that meet p -/
def upTo (p : Int → Bool) : Nat → List Int
  | 0 => []
  | k + 1 => upTo p k ++ if p ((k : Int) + 1) then [(k : Int) + 1] else []
theorem upTo_le (p : Int → Bool) (k : Nat) : (upTo p k).length ≤ k := by
  induction k with
  | zero => simp [upTo]
  | succ k ih => simp only [upTo, List.length_append]; split <;> simp <;> omega
theorem upTo_yes (p : Int → Bool) (k : Nat) (h : p ((k : Int) + 1) = true) : upTo p (k + 1) = upTo p k ++ [(k : Int) + 1] := by simp [upTo, h]
theorem upTo_no (p : Int → Bool) (k : Nat) (h : p ((k : Int) + 1) = false) : upTo p (k + 1) = upTo p k := by simp [upTo, h]
theorem upTo_five (p : Int → Bool) : upTo p 5 = [1, 2, 3, 4, 5].filter p := by
  have e : upTo p 5 = (((([] ++ if p 1 then [1] else []) ++ if p 2 then [2] else []) ++ if p 3 then [3] else []) ++ if p 4 then [4] else []) ++ if p 5 then [5] else [] := rfl
  rw [e]
  simp only [List.filter]
  cases p 1 <;> cases p 2 <;> cases p 3 <;> cases p 4 <;> cases p 5 <;> rfl

/-- one element appended -/
theorem grow_rel {B : Nat} {w wr w1 : World} {v v' : Value} {zs : List Int} {x : Int} (hB : B = w.heap.size) (hbk : Below B w wr) (hown : Ow wr B v zs)
    (hown' : w1.ownsRow B 2 1 v' (zs.length + 1) (zs.map (Value.int .i64) ++ [.int .i64 x])) (hg : (wr.alloc (.cells #[.int .i64 x] 2)).grownBy w1 v.ownBlock) : Ow w1 B v' (zs ++ [x]) ∧ Below B w w1 := by
  refine ⟨Ow.snoc hown', ?_⟩
  have hs : B ≤ wr.heap.size := by rw [hB]; exact hbk.size
  exact (hbk.alloc hs _).grown hg (by simp; omega) (fun k hk => (World.ownsRow.lt hown k hk).1)

def bitB (s : Int) (n : Int) : Bool := s / 2 ^ n.toNat % 2 == 1

theorem bitB_and (s : Int) (k : Nat) (h0 : 0 ≤ s) (h : s < 64) : (bits BinOp.and IntKind.u64 (s / 2 ^ (k + 1)) 1 == 1) = bitB s ((k : Int) + 1) := by
  have e : ((k : Int) + 1).toNat = k + 1 := by omega
  unfold bitB
  rw [e]
  have hp : (0 : Int) < 2 ^ (k + 1) := Int.pow_pos (by decide)
  have h1 : 0 ≤ s / 2 ^ (k + 1) := Int.ediv_nonneg h0 (Int.le_of_lt hp)
  have h2 : s / 2 ^ (k + 1) ≤ s := Int.ediv_le_self _ h0
  obtain ⟨m, hm⟩ := fin_of (s / 2 ^ (k + 1)) h1 (by omega)
  rw [hm, and_fin m]

set_option maxHeartbeats 1000000 in
theorem idsIn_any (s : Int) (w : World) (h0 : 0 ≤ s) (h64 : s < 64) :
    Calls Tryd.prog 41 #[.int .u64 s] w fun e w' => ∃ u, e = .returned u ∧ Ow w' w.heap.size u (Ids.inSet s) ∧ Below w.heap.size w w' := by
  obtain ⟨i0, hi, hz0, hz1, hz2⟩ := info_parts Tryd.info2
  go_enter Tryd.func41, Tryd.ntmps41
  go_wp2
  go_loopw [3, 4] (fun v i wr => ∃ k : Nat, k ≤ 5 ∧ i = .int .i64 ((k : Int) + 1) ∧ Ow wr w.heap.size v (upTo (bitB s) k) ∧ Below w.heap.size w wr) (fun _ i _ => 6 - (intOf i).toNat)
  case atStart => exact ⟨0, Nat.zero_le _, rfl, Ow.empty_nil _ _, Below.refl _ _⟩
  case round =>
    obtain ⟨k, hk, rfl, hok, hbk⟩ := hrel
    have hle := upTo_le (bitB s) k
    by_cases hlt : k < 5
    · have hbb := bitB_and s k h0 h64
      have hc5 : decide ((k : Int) + 1 ≤ 5) = true := by simp; omega
      by_cases hbit : bitB s ((k : Int) + 1) = true
      · rw [hbit] at hbb
        have HU := hide (upTo_yes (bitB s) k hbit)
        have hsz : w.heap.size ≤ wr.heap.size := hbk.size
        clear hbit
        go_wp2_with (first | (at_builtin; refine wpList_append_own _ rfl _ _ 28 rfl w.heap.size 2 i0 (.int .i64 0) 1 8 Tryd.underlying28 hi hz0 hz1 hz2 rfl (by decide) _ _ _ rfl (World.ownsRow.alloc hok _) ⟨wr.heap.size, 0, none⟩ 1 1 [.int .i64 ((k : Int) + 1)] rfl rfl (cell_one_new _ _ _) (by intro u hu; simp at hu; subst hu; rfl) (by unfold maxLen; omega) (by omega) (by simp; omega) ?_) | go_in)
        intro v' w1 hown' hgrow _
        have R := grow_rel rfl hbk hok hown' hgrow
        rw [← HU.out] at R
        have HR := hide R
        clear hown' hgrow R hok hbk
        go_wp2
        go_roundw
        case rel => exact ⟨k + 1, by omega, by go_num, HR.out.1, HR.out.2⟩
        case measure => simp [intOf]; omega
      · have hbit' : bitB s ((k : Int) + 1) = false := by simpa using hbit
        rw [hbit'] at hbb
        have HU := hide (upTo_no (bitB s) k hbit')
        clear hbit hbit'
        go_wp2
        go_roundw
        case rel => exact ⟨k + 1, by omega, by go_num, by rw [HU.out]; exact hok, hbk⟩
        case measure => simp [intOf]; omega
    · have e : k = 5 := by omega
      have HU : Hid (upTo (bitB s) k = Ids.inSet s) := hide (by rw [e]; exact upTo_five _)
      have hc5 : decide ((k : Int) + 1 ≤ 5) = false := by simp; omega
      clear e
      go_wp2
      go_ret
      exact ⟨_, rfl, by rw [← HU.out]; exact hok, hbk⟩


set_option maxHeartbeats 1000000 in
theorem slotOf_any (sa : Option Addr) (C sc : Nat) (lv mv : Value) (L : Nat → Nat) (F : Nat → Nat → Nat → Int) (N c line : Nat) (w : World) (hs : Ss w (.slice sa C sc) C L F) (hC : C ≤ 5) (hL : ∀ c, c < C → L c = N) (hN : N ≤ 1048576) (hc : c < C) (hli : line < N) :
    Calls Tryd.prog 43 #[.agg (mc3 (.slice sa C sc) lv mv), .int .i64 ((c : Int) + 1), .int .i64 (line : Int)] w fun e w' => e = .returned (.agg #[.int .i64 (F c line 0), .int .i64 (F c line 1), .int .i64 (F c line 2), .int .i64 (F c line 3)]) ∧ Below w.heap.size w w' := by
  have mb := mb_box w (.slice sa C sc) lv mv 34
  obtain ⟨ad, cap, hv, hs⟩ := hs
  simp only [Value.slice.injEq, true_and] at hv
  obtain ⟨rfl, rfl⟩ := hv
  obtain ⟨p, off, rfl, hcc⟩ := hs (by omega)
  obtain ⟨ia, ic, q0', hr⟩ := hcc c hc
  have hLk := hL c hc
  rw [hLk] at q0' hr
  obtain ⟨iad, icap, hiv, hr⟩ := hr
  simp only [Value.slice.injEq, true_and] at hiv
  obtain ⟨rfl, rfl⟩ := hiv
  obtain ⟨pi, oi, rfl, hx⟩ := hr (by omega)
  have mB := mb.next ((Below.refl _ _).alloc (Nat.le_refl _) (.cells #[.int .i64 0, .int .i64 0, .int .i64 0, .int .i64 0] 60))
  obtain ⟨hb0, c0, c1, c2⟩ := id mB
  have q0 := Below.keep hb0 _ _ q0'
  have x0 : ((w.alloc (.cells (mc3 (.slice (some ⟨p, off, none⟩) C sc) lv mv) 34)).alloc (.cells #[.int .i64 0, .int .i64 0, .int .i64 0, .int .i64 0] 60)).cell? ⟨pi, oi + line * 4, none⟩ = some (.int .i64 (F c line 0)) := Below.keep hb0 _ _ (hx line hli 0 (by decide))
  have x1 : ((w.alloc (.cells (mc3 (.slice (some ⟨p, off, none⟩) C sc) lv mv) 34)).alloc (.cells #[.int .i64 0, .int .i64 0, .int .i64 0, .int .i64 0] 60)).cell? ⟨pi, oi + line * 4 + 1, none⟩ = some (.int .i64 (F c line 1)) := Below.keep hb0 _ _ (hx line hli 1 (by decide))
  have x2 : ((w.alloc (.cells (mc3 (.slice (some ⟨p, off, none⟩) C sc) lv mv) 34)).alloc (.cells #[.int .i64 0, .int .i64 0, .int .i64 0, .int .i64 0] 60)).cell? ⟨pi, oi + line * 4 + 2, none⟩ = some (.int .i64 (F c line 2)) := Below.keep hb0 _ _ (hx line hli 2 (by decide))
  have x3 : ((w.alloc (.cells (mc3 (.slice (some ⟨p, off, none⟩) C sc) lv mv) 34)).alloc (.cells #[.int .i64 0, .int .i64 0, .int .i64 0, .int .i64 0] 60)).cell? ⟨pi, oi + line * 4 + 3, none⟩ = some (.int .i64 (F c line 3)) := Below.keep hb0 _ _ (hx line hli 3 (by decide))
  generalize F c line 0 = a0 at x0 ⊢
  generalize F c line 1 = a1 at x1 ⊢
  generalize F c line 2 = a2 at x2 ⊢
  generalize F c line 3 = a3 at x3 ⊢
  have hw : (c : Int) + 1 - 1 = (c : Int) := by omega
  clear hs hcc q0' hLk hx hr mb
  go_enter Tryd.func43, Tryd.ntmps43
  go_wp2
  refine bodyPost_ret (v := .agg #[.int .i64 a0, .int .i64 a1, .int .i64 a2, .int .i64 a3]) (by simp [results, Tryd.results43, go_sem]) rfl ⟨rfl, ?_⟩
  exact ((Below.refl _ _).alloc (Nat.le_refl _) _).alloc (by simp) _

set_option maxHeartbeats 1000000 in
theorem isLineOf_any (sa : Option Addr) (C sc : Nat) (la : Option Addr) (N lc : Nat) (qa : Option Addr) (n qc : Nat) (L : Nat → Nat) (F : Nat → Nat → Nat → Int) (G : Nat → LnD) (f : Nat → Nat → Int) (i : Int) (w : World) (ht : Tab w) (hs : Ss w (.slice sa C sc) C L F) (hl : Ls w (.slice la N lc) N G) (hq : Sr w (.slice qa n qc) 6 n f)
    (hC : C ≤ 1048576) (hL : ∀ c, c < C → L c ≤ 1048576) (hN : N ≤ 1048576) (hG : ∀ c, c < N → (G c).zs.length ≤ 1048576 ∧ (G c).qn ≤ 1048576) (hn : n ≤ 1048576) :
    Calls Tryd.prog 40 #[.agg (mc3 (.slice sa C sc) (.slice la N lc) (.slice qa n qc)), .int .i64 i] w fun e w' => e = .returned (.bool (machB C L F N G n f && hlB i N)) ∧ Below w.heap.size w w' := by
  have mb := mb_box w (.slice sa C sc) (.slice la N lc) (.slice qa n qc) 34
  have hb0 : Below w.heap.size w (w.alloc (.cells (mc3 (.slice sa C sc) (.slice la N lc) (.slice qa n qc)) 34)) := (Below.refl _ _).alloc (Nat.le_refl _) _
  have hmo := implMachineOk_any sa C sc la N lc qa n qc L F G f (w.alloc (.cells (mc3 (.slice sa C sc) (.slice la N lc) (.slice qa n qc)) 34)) (ht.below hb0) (hs.below hb0) (hl.below hb0) (hq.below hb0) hC hL hN hG hn
  clear hb0 hs hl hq ht
  generalize machB C L F N G n f = z at hmo ⊢
  go_enter Tryd.func40, Tryd.ntmps40
  go_wp2_with fail
  refine hmo.mono ?_
  rintro e w1 ⟨rfl, hb1⟩
  have m1 := mb.next hb1
  clear mb hb1 hmo
  obtain ⟨_, c0, c1, c2⟩ := id m1
  cases z
  · go_wp2
    go_ret
    exact ⟨rfl, m1.1⟩
  · go_wp2_with fail
    refine (hasLine_any (.slice sa C sc) la N lc (.slice qa n qc) i _).mono ?_
    rintro e w2 ⟨rfl, hb2⟩
    have m2 := m1.next hb2
    clear m1 hb2 c0 c1 c2
    obtain ⟨y, hy⟩ : ∃ y, y = hlB i N := ⟨_, rfl⟩
    rw [← hy]
    have HY := hide hy
    clear hy
    go_wp2
    go_ret
    exact ⟨ret_bool (by rw [Bool.true_and]; exact HY.out), m2.1⟩

theorem in_hl (i : Int) (N : Nat) (h : N ≤ 1048576) : inB i 0 ((N : Int) - 1) = hlB i N := by
  unfold inB hlB
  by_cases h1 : i < (N : Int)
  · rw [decide_eq_true h1, decide_eq_true (show i ≤ (N : Int) - 1 by omega)]
  · rw [decide_eq_false h1, decide_eq_false (show ¬ i ≤ (N : Int) - 1 by omega)]

set_option maxHeartbeats 1000000 in
theorem l6Line_any (sa : Option Addr) (C sc : Nat) (la : Option Addr) (N lc : Nat) (qa : Option Addr) (n qc : Nat) (L : Nat → Nat) (F : Nat → Nat → Nat → Int) (G : Nat → LnD) (f : Nat → Nat → Int) (i : Int) (w : World) (hs : Ss w (.slice sa C sc) C L F) (hl : Ls w (.slice la N lc) N G) (hq : Sr w (.slice qa n qc) 6 n f)
    (hC : C ≤ 1048576) (hL : ∀ c, c < C → L c ≤ 1048576) (hN : N ≤ 1048576) (hG : ∀ c, c < N → (G c).zs.length ≤ 1048576 ∧ (G c).qn ≤ 1048576) (hn : n ≤ 1048576) :
    Calls Tryd.prog 28 #[.agg (mc3 (.slice sa C sc) (.slice la N lc) (.slice qa n qc)), .int .i64 i] w fun e w' => e = .returned (.bool (machB C L F N G n f && hlB i N)) ∧ Below w.heap.size w w' := by
  have mb := mb_box w (.slice sa C sc) (.slice la N lc) (.slice qa n qc) 34
  have hb0 : Below w.heap.size w (w.alloc (.cells (mc3 (.slice sa C sc) (.slice la N lc) (.slice qa n qc)) 34)) := (Below.refl _ _).alloc (Nat.le_refl _) _
  have hmo := specMachineOk_any sa C sc la N lc qa n qc L F G f (w.alloc (.cells (mc3 (.slice sa C sc) (.slice la N lc) (.slice qa n qc)) 34)) (hs.below hb0) (hl.below hb0) (hq.below hb0) hC hL hN hG hn
  clear hb0 hs hl hq
  have HH := hide (in_hl i N hN)
  generalize machB C L F N G n f = z at hmo ⊢
  go_enter Tryd.func28, Tryd.ntmps28
  go_wp2_with fail
  refine hmo.mono ?_
  rintro e w1 ⟨rfl, hb1⟩
  have m1 := mb.next hb1
  clear mb hb1 hmo
  obtain ⟨_, c0, c1, c2⟩ := id m1
  cases z
  · go_wp2
    go_ret
    exact ⟨rfl, m1.1⟩
  · go_wp2_with fail
    refine (in_any i 0 _ _).mono ?_
    rintro e w2 ⟨rfl, rfl⟩
    go_wp2
    go_ret
    refine ⟨ret_bool ?_, m1.1⟩
    rw [Bool.true_and]; exact HH.out
end Go.Proofs.YtfckacabaajnkaaDoor
