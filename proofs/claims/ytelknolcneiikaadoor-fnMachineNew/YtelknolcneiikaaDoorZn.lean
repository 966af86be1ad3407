/- OwC, NwA, NwB, MkD, MkE, in one text -/
import Derived.Test.YtelknolcneiikaaDoorOwB
import Derived.Test.YtelknolcneiikaaDoorMsG
import Derived.Test.YtelknolcneiikaaDoorQtB
import Derived.Deep.RegionHeld3
import Derived.Test.YtelknolcneiikaaDoorMkC
/- OneWriter -/
namespace Go.Proofs.YtelknolcneiikaaDoor
open Go.RowKit
set_option linter.unusedVariables false
set_option linter.unusedSimpArgs false

theorem mach_facts {C : Nat} {L : Nat → Nat} {F : Nat → Nat → Nat → Int} {N : Nat} {G : Nat → LnD} {n : Nat} {f : Nat → Nat → Int} (h : machB C L F N G n f = true) : C ≤ 5 ∧ N ≤ 4 ∧ ∀ c, c < C → L c = N := by
  unfold machB at h
  simp only [Bool.and_eq_true] at h
  obtain ⟨⟨⟨h1, h2⟩, _⟩, _⟩ := h
  unfold sizeB inB at h1
  simp at h1
  have h3 : slotsP C L F N := by
    by_cases h4 : slotsP C L F N
    · exact h4
    · have := slotsB_no h4
      rw [h2] at this
      cases this
  exact ⟨by omega, by omega, fun c hc => (h3 c hc).1⟩

/-- one line is well held -/
def okL (F : Nat → Nat → Nat → Int) (C line : Nat) : Bool := !(decide (1 < cnt (pS F line 2) C) || (decide (0 < cnt (pS F line 2) C) && decide (0 < cnt (pS F line 1) C)))
def oneK (F : Nat → Nat → Nat → Int) (C k : Nat) : Bool := decide (∀ j, j < k → okL F C j = true)
theorem oneK_zero (F : Nat → Nat → Nat → Int) (C : Nat) : oneK F C 0 = true := decide_eq_true (fun j hj => by omega)
theorem oneK_no {F : Nat → Nat → Nat → Int} {C N k : Nat} (hk : k < N) (h : okL F C k = false) : oneK F C N = false := decide_eq_false (fun h2 => by have := h2 k hk; rw [h] at this; cases this)
theorem oneK_yes {F : Nat → Nat → Nat → Int} {C k : Nat} (h0 : oneK F C k = true) (h : okL F C k = true) : oneK F C (k + 1) = true := by
  have h1 := of_decide_eq_true h0
  refine decide_eq_true (fun j hj => ?_)
  by_cases e : j = k
  · subst e; exact h
  · exact h1 j (by omega)
noncomputable def oneB (C : Nat) (L : Nat → Nat) (F : Nat → Nat → Nat → Int) (N : Nat) (G : Nat → LnD) (n : Nat) (f : Nat → Nat → Int) : Bool := machB C L F N G n f && oneK F C N
theorem oneB_no {C : Nat} {L : Nat → Nat} {F : Nat → Nat → Nat → Int} {N : Nat} {G : Nat → LnD} {n : Nat} {f : Nat → Nat → Int} (h : machB C L F N G n f = false) : oneB C L F N G n f = false := by unfold oneB; rw [h]; rfl
theorem oneB_yes {C : Nat} {L : Nat → Nat} {F : Nat → Nat → Nat → Int} {N : Nat} {G : Nat → LnD} {n : Nat} {f : Nat → Nat → Int} (h : machB C L F N G n f = true) : oneB C L F N G n f = oneK F C N := by unfold oneB; rw [h]; rfl
theorem okL_cases (F : Nat → Nat → Nat → Int) (C line : Nat) (hC : C ≤ 5) : okL F C line = !(many (cwn (pS F line 2) C) || ((cwn (pS F line 2) C != 0) && (cwn (pS F line 1) C != 0))) := by
  unfold okL
  rw [(many_cnt _ C hC).1, (many_cnt _ C hC).2, (many_cnt _ C hC).2]
theorem int_ne (x : Nat) : (((x : Nat) : Int) != 0) = (x != 0) := by
  by_cases h : x = 0
  · subst h; rfl
  · have h1 : (x != 0) = true := by simp [h]
    rw [h1]; simp; omega

theorem okL_cnt (F : Nat → Nat → Nat → Int) (C line : Nat) : okL F C line = !(decide (1 < cnt (pS F line 2) C) || (decide (cnt (pS F line 2) C = 1) && decide (0 < cnt (pS F line 1) C))) := by
  unfold okL
  by_cases h : 1 < cnt (pS F line 2) C
  · rw [decide_eq_true h]; rfl
  · rw [decide_eq_false h]
    by_cases h1 : cnt (pS F line 2) C = 1
    · rw [decide_eq_true h1, decide_eq_true (show 0 < cnt (pS F line 2) C by omega)]
    · rw [decide_eq_false h1, decide_eq_false (show ¬ 0 < cnt (pS F line 2) C by omega)]

end Go.Proofs.YtelknolcneiikaaDoor

/- idsIn; a machine's slot; is it a line of the machine -/
namespace Go.Proofs.YtelknolcneiikaaDoor
open Go.RowKit
set_option linter.unusedVariables false
set_option linter.unusedSimpArgs false

theorem Ow.empty_nil (w : World) (base : Nat) : Ow w base (.slice none 0 0) [] := World.ownsRow_nil _ _ _ _

/-- the first k numbers 1, 2, .. that meet p -/
def upTo (p : Int → Bool) : Nat → List Int
  | 0 => []
  | k + 1 => upTo p k ++ if p ((k : Int) + 1) then [(k : Int) + 1] else []
theorem upTo_le (p : Int → Bool) (k : Nat) : (upTo p k).length ≤ k := by
  induction k with
  | zero => simp [upTo]
  | succ k ih => simp only [upTo, List.length_append]; split <;> simp <;> omega
theorem upTo_yes (p : Int → Bool) (k : Nat) (h : p ((k : Int) + 1) = true) : upTo p (k + 1) = upTo p k ++ [(k : Int) + 1] := by simp [upTo, h]
theorem upTo_no (p : Int → Bool) (k : Nat) (h : p ((k : Int) + 1) = false) : upTo p (k + 1) = upTo p k := by simp [upTo, h]
theorem upTo_five (p : Int → Bool) : upTo p 5 = [1, 2, 3, 4, 5].filter p := by
  have e : upTo p 5 = (((([] ++ if p 1 then [1] else []) ++ if p 2 then [2] else []) ++ if p 3 then [3] else []) ++ if p 4 then [4] else []) ++ if p 5 then [5] else [] := rfl
  rw [e]
  simp only [List.filter]
  cases p 1 <;> cases p 2 <;> cases p 3 <;> cases p 4 <;> cases p 5 <;> rfl

/-- one element appended -/
theorem grow_rel {B : Nat} {w wr w1 : World} {v v' : Value} {zs : List Int} {x : Int} (hB : B = w.heap.size) (hbk : Below B w wr) (hown : Ow wr B v zs)
    (hown' : w1.ownsRow B 2 1 v' (zs.length + 1) (zs.map (Value.int .i64) ++ [.int .i64 x])) (hg : (wr.alloc (.cells #[.int .i64 x] 2)).grownBy w1 v.ownBlock) : Ow w1 B v' (zs ++ [x]) ∧ Below B w w1 := by
  refine ⟨Ow.snoc hown', ?_⟩
  have hs : B ≤ wr.heap.size := by rw [hB]; exact hbk.size
  exact (hbk.alloc hs _).grown hg (by simp; omega) (fun k hk => (World.ownsRow.lt hown k hk).1)

def bitB (s : Int) (n : Int) : Bool := s / 2 ^ n.toNat % 2 == 1

theorem bitB_and (s : Int) (k : Nat) (h0 : 0 ≤ s) (h : s < 64) : (bits BinOp.and IntKind.u64 (s / 2 ^ (k + 1)) 1 == 1) = bitB s ((k : Int) + 1) := by
  have e : ((k : Int) + 1).toNat = k + 1 := by omega
  unfold bitB
  rw [e]
  have hp : (0 : Int) < 2 ^ (k + 1) := Int.pow_pos (by decide)
  have h1 : 0 ≤ s / 2 ^ (k + 1) := Int.ediv_nonneg h0 (Int.le_of_lt hp)
  have h2 : s / 2 ^ (k + 1) ≤ s := Int.ediv_le_self _ h0
  obtain ⟨m, hm⟩ := fin_of (s / 2 ^ (k + 1)) h1 (by omega)
  rw [hm, and_fin m]

set_option maxHeartbeats 1000000 in
theorem idsIn_any (s : Int) (w : World) (h0 : 0 ≤ s) (h64 : s < 64) :
    Calls Tryd.prog 21 #[.int .u64 s] w fun e w' => ∃ u, e = .returned u ∧ Ow w' w.heap.size u (Ids.inSet s) ∧ Below w.heap.size w w' := by
  obtain ⟨i0, hi, hz0, hz1, hz2⟩ := info_parts Tryd.info2
  go_enter Tryd.func21, Tryd.ntmps21
  go_wp2
  go_loopw [3, 4] (fun v i wr => ∃ k : Nat, k ≤ 5 ∧ i = .int .i64 ((k : Int) + 1) ∧ Ow wr w.heap.size v (upTo (bitB s) k) ∧ Below w.heap.size w wr) (fun _ i _ => 6 - (intOf i).toNat)
  case atStart => exact ⟨0, Nat.zero_le _, rfl, Ow.empty_nil _ _, Below.refl _ _⟩
  case round =>
    obtain ⟨k, hk, rfl, hok, hbk⟩ := hrel
    have hle := upTo_le (bitB s) k
    by_cases hlt : k < 5
    · have hbb := bitB_and s k h0 h64
      have hc5 : decide ((k : Int) + 1 ≤ 5) = true := by simp; omega
      by_cases hbit : bitB s ((k : Int) + 1) = true
      · rw [hbit] at hbb
        have HU := hide (upTo_yes (bitB s) k hbit)
        have hsz : w.heap.size ≤ wr.heap.size := hbk.size
        clear hbit
        go_wp2_with (first | (at_builtin; refine wpList_append_own _ rfl _ _ 36 rfl w.heap.size 2 i0 (.int .i64 0) 1 8 Tryd.underlying36 hi hz0 hz1 hz2 rfl (by decide) _ _ _ rfl (World.ownsRow.alloc hok _) ⟨wr.heap.size, 0, none⟩ 1 1 [.int .i64 ((k : Int) + 1)] rfl rfl (cell_one_new _ _ _) (by intro u hu; simp at hu; subst hu; rfl) (by unfold maxLen; omega) (by omega) (by simp; omega) ?_) | go_in)
        intro v' w1 hown' hgrow _
        have R := grow_rel rfl hbk hok hown' hgrow
        rw [← HU.out] at R
        have HR := hide R
        clear hown' hgrow R hok hbk
        go_wp2
        go_roundw
        case rel => exact ⟨k + 1, by omega, by go_num, HR.out.1, HR.out.2⟩
        case measure => simp [intOf]; omega
      · have hbit' : bitB s ((k : Int) + 1) = false := by simpa using hbit
        rw [hbit'] at hbb
        have HU := hide (upTo_no (bitB s) k hbit')
        clear hbit hbit'
        go_wp2
        go_roundw
        case rel => exact ⟨k + 1, by omega, by go_num, by rw [HU.out]; exact hok, hbk⟩
        case measure => simp [intOf]; omega
    · have e : k = 5 := by omega
      have HU : Hid (upTo (bitB s) k = Ids.inSet s) := hide (by rw [e]; exact upTo_five _)
      have hc5 : decide ((k : Int) + 1 ≤ 5) = false := by simp; omega
      clear e
      go_wp2
      go_ret
      exact ⟨_, rfl, by rw [← HU.out]; exact hok, hbk⟩


set_option maxHeartbeats 1000000 in
theorem slotOf_any (sa : Option Addr) (C sc : Nat) (lv mv : Value) (L : Nat → Nat) (F : Nat → Nat → Nat → Int) (N c line : Nat) (w : World) (hs : Ss w (.slice sa C sc) C L F) (hC : C ≤ 5) (hL : ∀ c, c < C → L c = N) (hN : N ≤ 1048576) (hc : c < C) (hli : line < N) :
    Calls Tryd.prog 23 #[.agg (mc3 (.slice sa C sc) lv mv), .int .i64 ((c : Int) + 1), .int .i64 (line : Int)] w fun e w' => e = .returned (.agg #[.int .i64 (F c line 0), .int .i64 (F c line 1), .int .i64 (F c line 2), .int .i64 (F c line 3)]) ∧ Below w.heap.size w w' := by
  have mb := mb_box w (.slice sa C sc) lv mv 30
  obtain ⟨ad, cap, hv, hs⟩ := hs
  simp only [Value.slice.injEq, true_and] at hv
  obtain ⟨rfl, rfl⟩ := hv
  obtain ⟨p, off, rfl, hcc⟩ := hs (by omega)
  obtain ⟨ia, ic, q0', hr⟩ := hcc c hc
  have hLk := hL c hc
  rw [hLk] at q0' hr
  obtain ⟨iad, icap, hiv, hr⟩ := hr
  simp only [Value.slice.injEq, true_and] at hiv
  obtain ⟨rfl, rfl⟩ := hiv
  obtain ⟨pi, oi, rfl, hx⟩ := hr (by omega)
  have mB := mb.next ((Below.refl _ _).alloc (Nat.le_refl _) (.cells #[.int .i64 0, .int .i64 0, .int .i64 0, .int .i64 0] 47))
  obtain ⟨hb0, c0, c1, c2⟩ := id mB
  have q0 := Below.keep hb0 _ _ q0'
  have x0 : ((w.alloc (.cells (mc3 (.slice (some ⟨p, off, none⟩) C sc) lv mv) 30)).alloc (.cells #[.int .i64 0, .int .i64 0, .int .i64 0, .int .i64 0] 47)).cell? ⟨pi, oi + line * 4, none⟩ = some (.int .i64 (F c line 0)) := Below.keep hb0 _ _ (hx line hli 0 (by decide))
  have x1 : ((w.alloc (.cells (mc3 (.slice (some ⟨p, off, none⟩) C sc) lv mv) 30)).alloc (.cells #[.int .i64 0, .int .i64 0, .int .i64 0, .int .i64 0] 47)).cell? ⟨pi, oi + line * 4 + 1, none⟩ = some (.int .i64 (F c line 1)) := Below.keep hb0 _ _ (hx line hli 1 (by decide))
  have x2 : ((w.alloc (.cells (mc3 (.slice (some ⟨p, off, none⟩) C sc) lv mv) 30)).alloc (.cells #[.int .i64 0, .int .i64 0, .int .i64 0, .int .i64 0] 47)).cell? ⟨pi, oi + line * 4 + 2, none⟩ = some (.int .i64 (F c line 2)) := Below.keep hb0 _ _ (hx line hli 2 (by decide))
  have x3 : ((w.alloc (.cells (mc3 (.slice (some ⟨p, off, none⟩) C sc) lv mv) 30)).alloc (.cells #[.int .i64 0, .int .i64 0, .int .i64 0, .int .i64 0] 47)).cell? ⟨pi, oi + line * 4 + 3, none⟩ = some (.int .i64 (F c line 3)) := Below.keep hb0 _ _ (hx line hli 3 (by decide))
  generalize F c line 0 = a0 at x0 ⊢
  generalize F c line 1 = a1 at x1 ⊢
  generalize F c line 2 = a2 at x2 ⊢
  generalize F c line 3 = a3 at x3 ⊢
  have hw : (c : Int) + 1 - 1 = (c : Int) := by omega
  clear hs hcc q0' hLk hx hr mb
  go_enter Tryd.func23, Tryd.ntmps23
  go_wp2
  refine bodyPost_ret (v := .agg #[.int .i64 a0, .int .i64 a1, .int .i64 a2, .int .i64 a3]) (by simp [results, Tryd.results23, go_sem]) rfl ⟨rfl, ?_⟩
  exact ((Below.refl _ _).alloc (Nat.le_refl _) _).alloc (by simp) _

set_option maxHeartbeats 1000000 in
theorem isLineOf_any (sa : Option Addr) (C sc : Nat) (la : Option Addr) (N lc : Nat) (qa : Option Addr) (n qc : Nat) (L : Nat → Nat) (F : Nat → Nat → Nat → Int) (G : Nat → LnD) (f : Nat → Nat → Int) (i : Int) (w : World) (ht : Tab w) (hs : Ss w (.slice sa C sc) C L F) (hl : Ls w (.slice la N lc) N G) (hq : Sr w (.slice qa n qc) 6 n f)
    (hC : C ≤ 1048576) (hL : ∀ c, c < C → L c ≤ 1048576) (hN : N ≤ 1048576) (hG : ∀ c, c < N → (G c).zs.length ≤ 1048576 ∧ (G c).qn ≤ 1048576) (hn : n ≤ 1048576) :
    Calls Tryd.prog 20 #[.agg (mc3 (.slice sa C sc) (.slice la N lc) (.slice qa n qc)), .int .i64 i] w fun e w' => e = .returned (.bool (machB C L F N G n f && hlB i N)) ∧ Below w.heap.size w w' := by
  have mb := mb_box w (.slice sa C sc) (.slice la N lc) (.slice qa n qc) 30
  have hb0 : Below w.heap.size w (w.alloc (.cells (mc3 (.slice sa C sc) (.slice la N lc) (.slice qa n qc)) 30)) := (Below.refl _ _).alloc (Nat.le_refl _) _
  have hmo := implMachineOk_any sa C sc la N lc qa n qc L F G f (w.alloc (.cells (mc3 (.slice sa C sc) (.slice la N lc) (.slice qa n qc)) 30)) (ht.below hb0) (hs.below hb0) (hl.below hb0) (hq.below hb0) hC hL hN hG hn
  clear hb0 hs hl hq ht
  generalize machB C L F N G n f = z at hmo ⊢
  go_enter Tryd.func20, Tryd.ntmps20
  go_wp2_with fail
  refine hmo.mono ?_
  rintro e w1 ⟨rfl, hb1⟩
  have m1 := mb.next hb1
  clear mb hb1 hmo
  obtain ⟨_, c0, c1, c2⟩ := id m1
  cases z
  · go_wp2
    go_ret
    exact ⟨rfl, m1.1⟩
  · go_wp2_with fail
    refine (hasLine_any (.slice sa C sc) la N lc (.slice qa n qc) i _).mono ?_
    rintro e w2 ⟨rfl, hb2⟩
    have m2 := m1.next hb2
    clear m1 hb2 c0 c1 c2
    obtain ⟨y, hy⟩ : ∃ y, y = hlB i N := ⟨_, rfl⟩
    rw [← hy]
    have HY := hide hy
    clear hy
    go_wp2
    go_ret
    exact ⟨ret_bool (by rw [Bool.true_and]; exact HY.out), m2.1⟩

theorem in_hl (i : Int) (N : Nat) (h : N ≤ 1048576) : inB i 0 ((N : Int) - 1) = hlB i N := by
  unfold inB hlB
  by_cases h1 : i < (N : Int)
  · rw [decide_eq_true h1, decide_eq_true (show i ≤ (N : Int) - 1 by omega)]
  · rw [decide_eq_false h1, decide_eq_false (show ¬ i ≤ (N : Int) - 1 by omega)]

end Go.Proofs.YtelknolcneiikaaDoor

/- NewestOf: what it says, and impl.NewestOf -/
namespace Go.Proofs.YtelknolcneiikaaDoor
open Go.RowKit
set_option linter.unusedVariables false
set_option linter.unusedSimpArgs false

theorem mach_owner {C : Nat} {L : Nat → Nat} {F : Nat → Nat → Nat → Int} {N : Nat} {G : Nat → LnD} {n : Nat} {f : Nat → Nat → Int} (h : machB C L F N G n f = true) {k : Nat} (hk : k < N) : (G k).ow = 0 ∨ ∃ o : Nat, o < C ∧ (G k).ow = (o : Int) + 1 := by
  unfold machB at h
  simp only [Bool.and_eq_true] at h
  obtain ⟨⟨⟨_, _⟩, h3⟩, _⟩ := h
  have h4 : linesP C N G := by
    by_cases h4 : linesP C N G
    · exact h4
    · have := linesB_no h4
      rw [h3] at this
      cases this
  obtain ⟨h5, h6⟩ := h4 k hk
  have h7 : lineP (G k).mem (G k).ow (G k).zs (G k).bu (G k).wt (G k).ac (G k).qn (G k).f := by
    by_cases h7 : lineP (G k).mem (G k).ow (G k).zs (G k).bu (G k).wt (G k).ac (G k).qn (G k).f
    · exact h7
    · have := lineB_no h7
      rw [h5] at this
      cases this
  have h8 : withinP (G k).ow (G k).bu (G k).zs (G k).qn (G k).f (C : Int) := by
    by_cases h8 : withinP (G k).ow (G k).bu (G k).zs (G k).qn (G k).f (C : Int)
    · exact h8
    · have := withinB_no h8
      rw [h6] at this
      cases this
  have h9 := h7.2.1
  have h10 := h8.1
  by_cases h0 : (G k).ow = 0
  · exact Or.inl h0
  · exact Or.inr ⟨((G k).ow - 1).toNat, by omega, by omega⟩

theorem stL_cases (p : Nat → Bool) : ∀ C, stL p C = [] ∨ ∃ (c : Nat) (xs : List Int), c < C ∧ stL p C = ((c : Int) + 1) :: xs
  | 0 => Or.inl rfl
  | k + 1 => by
    have e : stL p (k + 1) = stL p k ++ cond (p k) [(k : Int) + 1] [] := rfl
    rw [e]
    rcases stL_cases p k with h | ⟨c, xs, hc, h⟩
    · rw [h]
      cases p k
      · exact Or.inl rfl
      · exact Or.inr ⟨k, [], by omega, rfl⟩
    · rw [h]
      exact Or.inr ⟨c, _, by omega, rfl⟩

/-- the mail holds the line's data -/
def hitB (f : Nat → Nat → Int) (line : Int) (j : Nat) : Bool := (f j 0 == 7) && (f j 3 == line)
/-- the first such message of the m from i on -/
def mvF (f : Nat → Nat → Int) (line d : Int) : Nat → Nat → Int
  | 0, _ => d
  | m + 1, i => cond (hitB f line i) (f i 5) (mvF f line d m (i + 1))
theorem mvF_yes {f : Nat → Nat → Int} {line d : Int} {n j : Nat} (hj : j < n) (h : hitB f line j = true) : mvF f line d (n - j) j = f j 5 := by
  obtain ⟨m, hm⟩ : ∃ m, n - j = m + 1 := ⟨n - j - 1, by omega⟩
  rw [hm]; show cond (hitB f line j) _ _ = _; rw [h]; rfl
theorem mvF_no {f : Nat → Nat → Int} {line d : Int} {n j : Nat} (hj : j < n) (h : hitB f line j = false) : mvF f line d (n - j) j = mvF f line d (n - (j + 1)) (j + 1) := by
  obtain ⟨m, hm⟩ : ∃ m, n - j = m + 1 := ⟨n - j - 1, by omega⟩
  have e : n - (j + 1) = m := by omega
  rw [hm, e]; show cond (hitB f line j) _ _ = _; rw [h]; rfl
theorem mvF_end {f : Nat → Nat → Int} {line d : Int} (j : Nat) : mvF f line d (j - j) j = d := by rw [Nat.sub_self]; rfl
/-- what stands at the home, or at the owner that leaves -/
def endV (F : Nat → Nat → Nat → Int) (g : LnD) (k : Nat) : Int := if g.ow = 0 then g.mem else cond (F (g.ow - 1).toNat k 0 == 3) (F (g.ow - 1).toNat k 1) g.mem
def headV (F : Nat → Nat → Nat → Int) (k : Nat) (d : Int) : List Int → Int
  | [] => d
  | x :: _ => F (x - 1).toNat k 1
def newV (C : Nat) (F : Nat → Nat → Nat → Int) (G : Nat → LnD) (n : Nat) (f : Nat → Nat → Int) (k : Nat) : Int := headV F k (mvF f (k : Int) (endV F (G k) k) (n - 0) 0) (stL (pS F k 2) C)
theorem newV_own {C : Nat} {F : Nat → Nat → Nat → Int} {G : Nat → LnD} {n : Nat} {f : Nat → Nat → Int} {k c : Nat} {xs : List Int} (h : stL (pS F k 2) C = ((c : Int) + 1) :: xs) : newV C F G n f k = F c k 1 := by
  unfold newV; rw [h]
  show F ((c : Int) + 1 - 1).toNat k 1 = _
  have e : ((c : Int) + 1 - 1).toNat = c := by omega
  rw [e]
theorem newV_none {C : Nat} {F : Nat → Nat → Nat → Int} {G : Nat → LnD} {n : Nat} {f : Nat → Nat → Int} {k : Nat} (h : stL (pS F k 2) C = []) : newV C F G n f k = mvF f (k : Int) (endV F (G k) k) (n - 0) 0 := by unfold newV; rw [h]; rfl
theorem endV_zero {F : Nat → Nat → Nat → Int} {g : LnD} {k : Nat} (h : g.ow = 0) : endV F g k = g.mem := by unfold endV; rw [if_pos h]
theorem endV_own {F : Nat → Nat → Nat → Int} {g : LnD} {k o : Nat} (h : g.ow = (o : Int) + 1) : endV F g k = cond (F o k 0 == 3) (F o k 1) g.mem := by
  unfold endV
  have e : ((o : Int) + 1 - 1).toNat = o := by omega
  rw [if_neg (by omega), h, e]
noncomputable def nvB (C : Nat) (L : Nat → Nat) (F : Nat → Nat → Nat → Int) (N : Nat) (G : Nat → LnD) (n : Nat) (f : Nat → Nat → Int) (i : Int) : Bool := machB C L F N G n f && hlB i N
noncomputable def nvI (C : Nat) (L : Nat → Nat) (F : Nat → Nat → Nat → Int) (N : Nat) (G : Nat → LnD) (n : Nat) (f : Nat → Nat → Int) (i : Int) : Int := cond (nvB C L F N G n f i) (newV C F G n f i.toNat) 0
theorem nv_parts {C : Nat} {L : Nat → Nat} {F : Nat → Nat → Nat → Int} {N : Nat} {G : Nat → LnD} {n : Nat} {f : Nat → Nat → Int} {i : Int} (h : nvB C L F N G n f i = true) : machB C L F N G n f = true ∧ ∃ k : Nat, i = (k : Int) ∧ k < N ∧ nvI C L F N G n f i = newV C F G n f k := by
  have h0 := h
  unfold nvB at h
  simp only [Bool.and_eq_true] at h
  obtain ⟨h1, h2⟩ := h
  unfold hlB at h2
  simp at h2
  refine ⟨h1, i.toNat, by omega, by omega, ?_⟩
  unfold nvI; rw [h0]; rfl
theorem nv_no {C : Nat} {L : Nat → Nat} {F : Nat → Nat → Nat → Int} {N : Nat} {G : Nat → LnD} {n : Nat} {f : Nat → Nat → Int} {i : Int} (h : nvB C L F N G n f i = false) : nvI C L F N G n f i = 0 := by unfold nvI; rw [h]; rfl

theorem field0 (a b c d : Int) (W : World) : (Instr.field 47 (.agg #[.int .i64 a, .int .i64 b, .int .i64 c, .int .i64 d]) 0).run Tryd.prog W = .ok (.int .i64 a) W := by kernel_rfl
theorem field1 (a b c d : Int) (W : World) : (Instr.field 47 (.agg #[.int .i64 a, .int .i64 b, .int .i64 c, .int .i64 d]) 1).run Tryd.prog W = .ok (.int .i64 b) W := by kernel_rfl
theorem keepN4 {w W W' : World} {p0 p1 p2 p3 : Addr} {x0 x1 x2 x3 : Value} (h : Below w.heap.size w W ∧ W.cell? p0 = some x0 ∧ W.cell? p1 = some x1 ∧ W.cell? p2 = some x2 ∧ W.cell? p3 = some x3) (hb : Below W.heap.size W W') : Below w.heap.size w W' ∧ W'.cell? p0 = some x0 ∧ W'.cell? p1 = some x1 ∧ W'.cell? p2 = some x2 ∧ W'.cell? p3 = some x3 := ⟨h.1.trans (hb.mono h.1.size), keepc hb h.2.1, keepc hb h.2.2.1, keepc hb h.2.2.2.1, keepc hb h.2.2.2.2⟩
theorem ret_newest {a b : Int} {x y : Bool} (h1 : a = b) (h2 : x = y) : Ending.returned (.tuple #[.int .i64 a, .bool x]) = Ending.returned (.tuple #[.int .i64 b, .bool y]) := by rw [h1, h2]

set_option maxHeartbeats 8000000 in
set_option maxRecDepth 20000 in
theorem implNewest_any (sa : Option Addr) (C sc : Nat) (la : Option Addr) (N lc : Nat) (qa : Option Addr) (n qc : Nat) (L : Nat → Nat) (F : Nat → Nat → Nat → Int) (G : Nat → LnD) (f : Nat → Nat → Int) (i : Int) (w : World) (ht : Tab w) (hs : Ss w (.slice sa C sc) C L F) (hl : Ls w (.slice la N lc) N G) (hq : Sr w (.slice qa n qc) 6 n f)
    (hC : C ≤ 1048576) (hL : ∀ c, c < C → L c ≤ 1048576) (hN : N ≤ 1048576) (hG : ∀ c, c < N → (G c).zs.length ≤ 1048576 ∧ (G c).qn ≤ 1048576) (hn : n ≤ 1048576) :
    Calls Tryd.prog 9 #[.agg (mc3 (.slice sa C sc) (.slice la N lc) (.slice qa n qc)), .int .i64 i] w fun e w' => e = .returned (.tuple #[.int .i64 (nvI C L F N G n f i), .bool (nvB C L F N G n f i)]) ∧ Below w.heap.size w w' := by
  have mb := mb_box w (.slice sa C sc) (.slice la N lc) (.slice qa n qc) 30
  have hb0 : Below w.heap.size w (w.alloc (.cells (mc3 (.slice sa C sc) (.slice la N lc) (.slice qa n qc)) 30)) := (Below.refl _ _).alloc (Nat.le_refl _) _
  have hmo := isLineOf_any sa C sc la N lc qa n qc L F G f i (w.alloc (.cells (mc3 (.slice sa C sc) (.slice la N lc) (.slice qa n qc)) 30)) (ht.below hb0) (hs.below hb0) (hl.below hb0) (hq.below hb0) hC hL hN hG hn
  clear hb0
  have e : (machB C L F N G n f && hlB i N) = nvB C L F N G n f i := rfl
  rw [e] at hmo
  clear e
  cases hm : nvB C L F N G n f i
  · rw [nv_no hm]
    rw [hm] at hmo
    clear hm
    go_enter Tryd.func9, Tryd.ntmps9
    go_wp2_with fail
    refine hmo.mono ?_
    rintro e w1 ⟨rfl, hb1⟩
    have m1 := mb.next hb1
    clear mb hb1 hmo
    go_wp2
    go_ret2
    exact ⟨rfl, m1.1⟩
  · rw [hm] at hmo
    obtain ⟨hM, k, rfl, hkN, hV⟩ := nv_parts hm
    rw [hV]
    obtain ⟨hC5, hN4, hLN⟩ := mach_facts hM
    have HOW := hide (mach_owner hM hkN)
    have hO := fun (W : World) (hb : Below w.heap.size w W) => coresWith_any sa C sc (.slice la N lc) (.slice qa n qc) L F N k 2 W (hs.below hb) hC5 hLN hN hkN
    have hX := set_cw (pS F k 2) C hC5
    have hxl := cwn_lt (pS F k 2) C hC5
    have hSC := stL_cases (pS F k 2) C
    have hlen : (stL (pS F k 2) C).length ≤ 5 := by rw [stL_len]; have := cnt_le (pS F k 2) C; omega
    have HNO : Hid (∀ c xs, stL (pS F k 2) C = (((c : Nat) : Int) + 1) :: xs → newV C F G n f k = F c k 1) := hide (fun c xs h => newV_own h)
    have HNN : Hid (stL (pS F k 2) C = [] → newV C F G n f k = mvF f (k : Int) (endV F (G k) k) (n - 0) 0) := hide (fun h => newV_none h)
    generalize newV C F G n f k = V at HNO HNN ⊢
    generalize cwn (pS F k 2) C = x at hO hX hxl
    generalize stL (pS F k 2) C = X at hX hSC hlen HNO HNN
    clear hm hM hV
    have hf0 := field0
    have hf1 := field1
    go_enter Tryd.func9, Tryd.ntmps9
    go_wp2_with fail
    refine hmo.mono ?_
    rintro e w1 ⟨rfl, hb1⟩
    have m1 := mb.next hb1
    clear mb hb1 hmo
    obtain ⟨_, c0, c1, c2⟩ := id m1
    go_wp2_with fail
    refine (hO _ m1.1).mono ?_
    rintro e w2 ⟨rfl, hb2⟩
    have m2 := m1.next hb2
    clear m1 hb2 c0 c1 c2 hO
    go_wp2_with fail
    refine (idsIn_any (x : Int) _ (by omega) (by omega)).mono ?_
    rintro e w3 ⟨u, rfl, ho, hb3⟩
    rw [hX] at ho
    have m3 := m2.next hb3
    clear m2 hb3 hX
    obtain ⟨_, c0, c1, c2⟩ := id m3
    rcases hSC with h | ⟨c, xs, hc, h⟩
    · have HV := hide (HNN.out h)
      subst h
      obtain ⟨ad3, cap3, rfl, _⟩ := ho.form
      clear ho HNN HNO hlen
      obtain ⟨qad, qcap, hqv, hq⟩ := hq
      simp only [Value.slice.injEq, true_and] at hqv
      obtain ⟨rfl, rfl⟩ := hqv
      go_wp2
      go_loopw [31] (fun i wr => ∃ j : Nat, j ≤ n ∧ i = .int .i64 j ∧ MB w w.heap.size (.slice sa C sc) (.slice la N lc) (.slice qa n qc) wr ∧ Hid (V = mvF f (k : Int) (endV F (G k) k) (n - j) j)) (fun i _ => n - (intOf i).toNat)
      case atStart => exact ⟨0, Nat.zero_le _, rfl, m3, HV⟩
      case round =>
        obtain ⟨j, hj, rfl, mk, HK⟩ := hrel
        clear m3 HV c0 c1 c2
        obtain ⟨_, c0, c1, c2⟩ := id mk
        by_cases hlt : j < n
        · obtain ⟨p, off, rfl, hc⟩ := hq (by omega)
          have x0 : wr.cell? ⟨p, off + j * 6, none⟩ = some (.int .i64 (f j 0)) := Below.keep mk.1 _ _ (hc j hlt 0 (by decide))
          have x1 : wr.cell? ⟨p, off + j * 6 + 1, none⟩ = some (.int .i64 (f j 1)) := Below.keep mk.1 _ _ (hc j hlt 1 (by decide))
          have x2 : wr.cell? ⟨p, off + j * 6 + 2, none⟩ = some (.int .i64 (f j 2)) := Below.keep mk.1 _ _ (hc j hlt 2 (by decide))
          have x3 : wr.cell? ⟨p, off + j * 6 + 3, none⟩ = some (.int .i64 (f j 3)) := Below.keep mk.1 _ _ (hc j hlt 3 (by decide))
          have x4 : wr.cell? ⟨p, off + j * 6 + 4, none⟩ = some (.int .i64 (f j 4)) := Below.keep mk.1 _ _ (hc j hlt 4 (by decide))
          have x5 : wr.cell? ⟨p, off + j * 6 + 5, none⟩ = some (.int .i64 (f j 5)) := Below.keep mk.1 _ _ (hc j hlt 5 (by decide))
          have HH : Hid (hitB f (k : Int) j = ((f j 0 == 7) && (f j 3 == (k : Int)))) := hide rfl
          have HF : Hid (hitB f (k : Int) j = true → V = f j 5) := hide (fun h => by rw [HK.out]; exact mvF_yes hlt h)
          have HN : Hid (hitB f (k : Int) j = false → V = mvF f (k : Int) (endV F (G k) k) (n - (j + 1)) (j + 1)) := hide (fun h => by rw [HK.out]; exact mvF_no hlt h)
          generalize f j 0 = a0 at x0 HH
          generalize f j 1 = a1 at x1
          generalize f j 2 = a2 at x2
          generalize f j 3 = a3 at x3 HH
          generalize f j 4 = a4 at x4
          generalize f j 5 = a5 at x5 HF
          have ma := mk.next ((Below.refl _ _).alloc (Nat.le_refl _) (.cells #[.int .i64 a0, .int .i64 a1, .int .i64 a2, .int .i64 a3, .int .i64 a4, .int .i64 a5] 59))
          clear hq hc HK mk
          by_cases h0 : a0 = 7
          · subst h0
            by_cases h3 : a3 = (k : Int)
            · subst h3
              have HR := hide (HF.out (by rw [HH.out]; simp))
              clear HF HN HH
              go_wp2
              go_ret2
              exact ⟨ret_newest HR.out.symm rfl, ma.1⟩
            · have hq3 : (a3 == (k : Int)) = false := by simp [h3]
              have HR := hide (HN.out (by rw [HH.out, hq3]; rfl))
              clear HF HN HH h3
              go_wp2
              go_roundw
              case rel => exact ⟨j + 1, by omega, by go_num, ma, HR⟩
              case measure => simp [intOf]; omega
          · have hq0 : (a0 == 7) = false := by simp [h0]
            have HR := hide (HN.out (by rw [HH.out, hq0]; rfl))
            clear HF HN HH h0
            go_wp2
            go_roundw
            case rel => exact ⟨j + 1, by omega, by go_num, ma, HR⟩
            case measure => simp [intOf]; omega
        · have e : j = n := by omega
          subst e
          have HV : Hid (V = endV F (G k) k) := hide (HK.out.trans (mvF_end _))
          clear hq HK hlt hj
          have hSL := fun (c : Nat) (hc : c < C) (W : World) (hb : Below w.heap.size w W) => slotOf_any sa C sc (.slice la N lc) (.slice qa j qc) L F N c k W (hs.below hb) hC5 hLN hN hc hkN
          obtain ⟨lad, lcap, hlv, hl⟩ := hl
          simp only [Value.slice.injEq, true_and] at hlv
          obtain ⟨rfl, rfl⟩ := hlv
          obtain ⟨p, off, rfl, hc⟩ := hl (by omega)
          obtain ⟨s1, s2, s3, s4, ⟨y0, y1, y2, y3, y4, y5, y6⟩, _, _⟩ := hc k hkN
          replace y0 := Below.keep mk.1 _ _ y0
          replace y1 := Below.keep mk.1 _ _ y1
          replace y2 := Below.keep mk.1 _ _ y2
          replace y3 := Below.keep mk.1 _ _ y3
          replace y4 := Below.keep mk.1 _ _ y4
          replace y5 := Below.keep mk.1 _ _ y5
          replace y6 := Below.keep mk.1 _ _ y6
          have HE0 : Hid ((G k).ow = 0 → V = (G k).mem) := hide (fun h => by rw [HV.out]; exact endV_zero h)
          have HE1 : Hid (∀ o : Nat, (G k).ow = (o : Int) + 1 → V = cond (F o k 0 == 3) (F o k 1) (G k).mem) := hide (fun o h => by rw [HV.out]; exact endV_own h)
          clear hc hl hs HV hG
          generalize (G k).mem = mem at y0 HE0 HE1
          generalize (G k).ow = ow at y1 HE0 HE1 HOW
          generalize (G k).bu = bu at y3
          generalize (G k).wt = wt at y4
          generalize (G k).ac = ac at y5
          generalize (G k).zs.length = zn at y2
          generalize (G k).qn = qn at y6
          have lb := lb_here mk.1 mem ow (.slice s1 zn s2) bu wt ac (.slice s3 qn s4) 51
          have ma := mk.next ((Below.refl _ _).alloc (Nat.le_refl _) (.cells (ln7 mem ow (.slice s1 zn s2) bu wt ac (.slice s3 qn s4)) 51))
          rcases HOW.out with h0 | ⟨o, ho, h0⟩
          · have HR := hide (HE0.out h0)
            subst h0
            clear HE0 HE1 HOW hSL
            go_wp2
            go_ret2
            exact ⟨ret_newest HR.out.symm rfl, lb.1⟩
          · have HR := hide (HE1.out o h0)
            subst h0
            clear HE0 HE1 HOW
            have hSo := hSL o ho
            clear hSL
            generalize F o k 0 = b0 at hSo HR
            generalize F o k 1 = b1 at hSo HR
            generalize F o k 2 = b2 at hSo
            generalize F o k 3 = b3 at hSo
            have hne : (((o : Int) + 1) != 0) = true := by simp; omega
            obtain ⟨_, d0, d1, d2⟩ := id ma
            go_wp2_with fail
            refine (hSo _ ma.1).mono ?_
            rintro e w5 ⟨rfl, hb5⟩
            have mc := ma.next hb5
            have lc' := lb.next hb5
            clear mk c0 c1 c2 ma lb hb5 d0 d1 d2 y0 y1 y2 y3 y4 y5 y6
            obtain ⟨_, d0, d1, d2⟩ := id mc
            obtain ⟨_, z0, z1, z2, z3, z4, z5, z6⟩ := id lc'
            by_cases hb : b0 = 3
            · subst hb
              go_wp2_with fail
              refine (hSo _ mc.1).mono ?_
              rintro e w6 ⟨rfl, hb6⟩
              have md := mc.next hb6
              clear mc lc' hb6 d0 d1 d2 z0 z1 z2 z3 z4 z5 z6
              go_wp2
              go_ret2
              exact ⟨ret_newest HR.out.symm rfl, md.1⟩
            · have hq0 : (b0 == 3) = false := by simp [hb]
              have HR2 : Hid (V = mem) := hide (by rw [HR.out, hq0]; rfl)
              clear hb HR
              go_wp2
              go_ret2
              exact ⟨ret_newest HR2.out.symm rfl, mc.1⟩
    · have HV := hide (HNO.out c xs h)
      subst h
      obtain ⟨ad3, cap3, rfl, hsl⟩ := ho.sl
      obtain ⟨p3, o3, rfl, hcell⟩ := hsl (by simp)
      have z0 : w3.cell? ⟨p3, o3, none⟩ = some (.int .i64 ((c : Int) + 1)) := hcell 0 (by simp)
      have hSo := fun (W : World) (hb : Below w.heap.size w W) => slotOf_any sa C sc (.slice la N lc) (.slice qa n qc) L F N c k W (hs.below hb) hC5 hLN hN hc hkN
      clear ho hsl hcell HNN HNO hs hl hq
      generalize F c k 0 = b0 at hSo
      generalize F c k 1 = b1 at hSo HV
      generalize F c k 2 = b2 at hSo
      generalize F c k 3 = b3 at hSo
      have hz : ∃ zl, ((((c : Int) + 1) :: xs).length) = zl ∧ 0 < zl := ⟨_, rfl, by simp⟩
      obtain ⟨zl, hzl, hz0⟩ := hz
      rw [hzl] at hlen ⊢
      clear hzl
      go_wp2
      go_region_held3 (fun w' => Below w.heap.size w w' ∧ w'.cell? ⟨w.heap.size, 0, none⟩ = some (.slice sa C sc) ∧ w'.cell? ⟨w.heap.size, 1, none⟩ = some (.slice la N lc) ∧ w'.cell? ⟨w.heap.size, 2, none⟩ = some (.slice qa n qc) ∧ w'.cell? ⟨p3, o3, none⟩ = some (.int .i64 ((c : Int) + 1))) (first | exact ⟨m3.1.drew, c0, c1, c2, z0⟩ | exact keepN4 (by assumption) hbk) (first | (go_at_call 23; refine (hSo _ m3.1.drew).mono ?_; rintro e w5 ⟨rfl, hbk⟩))
      all_goals go_wp2
      all_goals go_ret2
      all_goals rename_i hH
      all_goals exact ⟨ret_newest HV.out.symm rfl, hH.1⟩
end Go.Proofs.YtelknolcneiikaaDoor

/- toMachine: a copy that may be written (written by mkMkD.py) -/
namespace Go.Proofs.YtelknolcneiikaaDoor
open Go.RowKit
set_option linter.unusedVariables false
set_option linter.unusedSimpArgs false

end Go.Proofs.YtelknolcneiikaaDoor

/- who owns, who shares: impl and spec (written by mkMkE.py) -/
namespace Go.Proofs.YtelknolcneiikaaDoor
open Go.RowKit
set_option linter.unusedVariables false
set_option linter.unusedSimpArgs false

/-- the cores that are told -/
noncomputable def csL (st : Int) (C : Nat) (L : Nat → Nat) (F : Nat → Nat → Nat → Int) (N : Nat) (G : Nat → LnD) (n : Nat) (f : Nat → Nat → Int) (i : Int) : List Int := cond (nvB C L F N G n f i) (stL (pS F i.toNat st) C) []
theorem csL_no {st : Int} {C : Nat} {L : Nat → Nat} {F : Nat → Nat → Nat → Int} {N : Nat} {G : Nat → LnD} {n : Nat} {f : Nat → Nat → Int} {i : Int} (h : nvB C L F N G n f i = false) : csL st C L F N G n f i = [] := by unfold csL; rw [h]; rfl
theorem csL_yes {st : Int} {C : Nat} {L : Nat → Nat} {F : Nat → Nat → Nat → Int} {N : Nat} {G : Nat → LnD} {n : Nat} {f : Nat → Nat → Int} {k : Nat} (h : nvB C L F N G n f (k : Int) = true) : csL st C L F N G n f (k : Int) = stL (pS F k st) C := by unfold csL; rw [h]; rfl
theorem csL_le {st : Int} {C : Nat} {L : Nat → Nat} {F : Nat → Nat → Nat → Int} {N : Nat} {G : Nat → LnD} {n : Nat} {f : Nat → Nat → Int} {i : Int} : (csL st C L F N G n f i).length ≤ 5 := by
  cases h : nvB C L F N G n f i
  · rw [csL_no h]; simp
  · obtain ⟨hM, k, rfl, _, _⟩ := nv_parts h
    rw [csL_yes h, stL_len]
    have h1 := cnt_le (pS F k st) C
    have h2 := (mach_facts hM).1
    omega

set_option maxHeartbeats 4000000 in
theorem coresAt_any (sa : Option Addr) (C sc : Nat) (la : Option Addr) (N lc : Nat) (qa : Option Addr) (n qc : Nat) (L : Nat → Nat) (F : Nat → Nat → Nat → Int) (G : Nat → LnD) (f : Nat → Nat → Int) (i : Int) (st : Int) (w : World) (ht : Tab w) (hs : Ss w (.slice sa C sc) C L F) (hl : Ls w (.slice la N lc) N G) (hq : Sr w (.slice qa n qc) 6 n f)
    (hC : C ≤ 1048576) (hL : ∀ c, c < C → L c ≤ 1048576) (hN : N ≤ 1048576) (hG : ∀ c, c < N → (G c).zs.length ≤ 1048576 ∧ (G c).qn ≤ 1048576) (hn : n ≤ 1048576) :
    Calls Tryd.prog 24 #[.agg (mc3 (.slice sa C sc) (.slice la N lc) (.slice qa n qc)), .int .i64 i, .int .i64 st] w fun e w' => ∃ u, e = .returned u ∧ Ow w' w.heap.size u (csL st C L F N G n f i) ∧ Below w.heap.size w w' := by
  have mb := mb_box w (.slice sa C sc) (.slice la N lc) (.slice qa n qc) 30
  have hb0 : Below w.heap.size w (w.alloc (.cells (mc3 (.slice sa C sc) (.slice la N lc) (.slice qa n qc)) 30)) := (Below.refl _ _).alloc (Nat.le_refl _) _
  have hmo := isLineOf_any sa C sc la N lc qa n qc L F G f i (w.alloc (.cells (mc3 (.slice sa C sc) (.slice la N lc) (.slice qa n qc)) 30)) (ht.below hb0) (hs.below hb0) (hl.below hb0) (hq.below hb0) hC hL hN hG hn
  clear hb0
  have e : (machB C L F N G n f && hlB i N) = nvB C L F N G n f i := rfl
  rw [e] at hmo
  clear e
  cases hm : nvB C L F N G n f i
  · rw [csL_no hm]
    rw [hm] at hmo
    clear hm
    go_enter Tryd.func24, Tryd.ntmps24
    go_wp2_with fail
    refine hmo.mono ?_
    rintro e w1 ⟨rfl, hb1⟩
    have m1 := mb.next hb1
    clear mb hb1 hmo
    go_wp2
    go_ret
    exact ⟨_, rfl, Ow.empty_nil _ _, m1.1⟩
  · rw [hm] at hmo
    obtain ⟨hM, k, rfl, hkN, _⟩ := nv_parts hm
    rw [csL_yes hm]
    obtain ⟨hC5, hN4, hLN⟩ := mach_facts hM
    have hO := fun (W : World) (hb : Below w.heap.size w W) => coresWith_any sa C sc (.slice la N lc) (.slice qa n qc) L F N k st W (hs.below hb) hC5 hLN hN hkN
    have hX := set_cw (pS F k st) C hC5
    have hxl := cwn_lt (pS F k st) C hC5
    generalize cwn (pS F k st) C = x at hO hX hxl
    clear hm hM
    go_enter Tryd.func24, Tryd.ntmps24
    go_wp2_with fail
    refine hmo.mono ?_
    rintro e w1 ⟨rfl, hb1⟩
    have m1 := mb.next hb1
    clear mb hb1 hmo
    obtain ⟨_, c0, c1, c2⟩ := id m1
    go_wp2_with fail
    refine (hO _ m1.1).mono ?_
    rintro e w2 ⟨rfl, hb2⟩
    have m2 := m1.next hb2
    clear m1 hb2 c0 c1 c2 hO
    go_wp2_with fail
    refine (idsIn_any (x : Int) _ (by omega) (by omega)).mono ?_
    rintro e w3 ⟨u, rfl, ho, hb3⟩
    rw [hX] at ho
    have m3 := m2.next hb3
    have HO := hide (ho.mono m2.1.size)
    clear m2 hb3 hX ho
    go_wp2
    go_ret
    exact ⟨_, rfl, HO.out, m3.1⟩

set_option maxHeartbeats 4000000 in
theorem implOwnersOf_any (sa : Option Addr) (C sc : Nat) (la : Option Addr) (N lc : Nat) (qa : Option Addr) (n qc : Nat) (L : Nat → Nat) (F : Nat → Nat → Nat → Int) (G : Nat → LnD) (f : Nat → Nat → Int) (i : Int) (w : World) (ht : Tab w) (hs : Ss w (.slice sa C sc) C L F) (hl : Ls w (.slice la N lc) N G) (hq : Sr w (.slice qa n qc) 6 n f)
    (hC : C ≤ 1048576) (hL : ∀ c, c < C → L c ≤ 1048576) (hN : N ≤ 1048576) (hG : ∀ c, c < N → (G c).zs.length ≤ 1048576 ∧ (G c).qn ≤ 1048576) (hn : n ≤ 1048576) :
    Calls Tryd.prog 10 #[.agg (mc3 (.slice sa C sc) (.slice la N lc) (.slice qa n qc)), .int .i64 i] w fun e w' => ∃ u, e = .returned u ∧ Ow w' w.heap.size u (csL 2 C L F N G n f i) ∧ Below w.heap.size w w' := by
  have mb := mb_box w (.slice sa C sc) (.slice la N lc) (.slice qa n qc) 30
  have hb0 : Below w.heap.size w (w.alloc (.cells (mc3 (.slice sa C sc) (.slice la N lc) (.slice qa n qc)) 30)) := (Below.refl _ _).alloc (Nat.le_refl _) _
  have hmo := coresAt_any sa C sc la N lc qa n qc L F G f i 2 (w.alloc (.cells (mc3 (.slice sa C sc) (.slice la N lc) (.slice qa n qc)) 30)) (ht.below hb0) (hs.below hb0) (hl.below hb0) (hq.below hb0) hC hL hN hG hn
  clear hb0
  go_enter Tryd.func10, Tryd.ntmps10
  go_wp2_with fail
  refine hmo.mono ?_
  rintro e w1 ⟨u, rfl, ho, hb1⟩
  have m1 := mb.next hb1
  have HO := hide (ho.mono (show w.heap.size ≤ _ by simp))
  clear mb hb1 hmo ho
  go_wp2
  go_ret
  exact ⟨_, rfl, HO.out, m1.1⟩

set_option maxHeartbeats 4000000 in
theorem implSharersOf_any (sa : Option Addr) (C sc : Nat) (la : Option Addr) (N lc : Nat) (qa : Option Addr) (n qc : Nat) (L : Nat → Nat) (F : Nat → Nat → Nat → Int) (G : Nat → LnD) (f : Nat → Nat → Int) (i : Int) (w : World) (ht : Tab w) (hs : Ss w (.slice sa C sc) C L F) (hl : Ls w (.slice la N lc) N G) (hq : Sr w (.slice qa n qc) 6 n f)
    (hC : C ≤ 1048576) (hL : ∀ c, c < C → L c ≤ 1048576) (hN : N ≤ 1048576) (hG : ∀ c, c < N → (G c).zs.length ≤ 1048576 ∧ (G c).qn ≤ 1048576) (hn : n ≤ 1048576) :
    Calls Tryd.prog 11 #[.agg (mc3 (.slice sa C sc) (.slice la N lc) (.slice qa n qc)), .int .i64 i] w fun e w' => ∃ u, e = .returned u ∧ Ow w' w.heap.size u (csL 1 C L F N G n f i) ∧ Below w.heap.size w w' := by
  have mb := mb_box w (.slice sa C sc) (.slice la N lc) (.slice qa n qc) 30
  have hb0 : Below w.heap.size w (w.alloc (.cells (mc3 (.slice sa C sc) (.slice la N lc) (.slice qa n qc)) 30)) := (Below.refl _ _).alloc (Nat.le_refl _) _
  have hmo := coresAt_any sa C sc la N lc qa n qc L F G f i 1 (w.alloc (.cells (mc3 (.slice sa C sc) (.slice la N lc) (.slice qa n qc)) 30)) (ht.below hb0) (hs.below hb0) (hl.below hb0) (hq.below hb0) hC hL hN hG hn
  clear hb0
  go_enter Tryd.func11, Tryd.ntmps11
  go_wp2_with fail
  refine hmo.mono ?_
  rintro e w1 ⟨u, rfl, ho, hb1⟩
  have m1 := mb.next hb1
  have HO := hide (ho.mono (show w.heap.size ≤ _ by simp))
  clear mb hb1 hmo ho
  go_wp2
  go_ret
  exact ⟨_, rfl, HO.out, m1.1⟩

theorem ow_chg {S : Nat → Prop} {w w' : World} {base : Nat} {v : Value} {zs : List Int} (h : Ow w base v zs) (hc : Chg S w w') (hS : ∀ k, v.ownBlock = some k → ¬ S k) : Ow w' base v zs := by
  obtain ⟨h0, h⟩ := h
  refine ⟨h0, ?_⟩
  rcases h with h | ⟨g, cap, cur, hv, hb, hg, h1, h2, h3, h4⟩
  · exact Or.inl h
  · refine Or.inr ⟨g, cap, cur, hv, hb, ?_, h1, h2, h3, h4⟩
    rw [hc.block g (lt_of_block hg) (hS g (by rw [hv]; rfl))]; exact hg
theorem chg_below {B E A : Nat} {w w' : World} (hc : Chg (fun j => B ≤ j ∧ j < E) w w') (hA : A ≤ B) (hs : A ≤ w.heap.size) : Below A w w' :=
  ⟨hc.os, hc.tape, hc.output, hc.size, fun j hj => hc.block j (by omega) (fun h => by have h : B ≤ j ∧ j < E := h; omega)⟩

end Go.Proofs.YtelknolcneiikaaDoor
