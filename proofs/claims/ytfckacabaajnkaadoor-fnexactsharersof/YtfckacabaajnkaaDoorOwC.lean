/- OneWriter -/
import Derived.Test.YtfckacabaajnkaaDoorOwB
import Derived.Test.YtfckacabaajnkaaDoorMsG
import Derived.Test.YtfckacabaajnkaaDoorMsH
namespace Go.Proofs.YtfckacabaajnkaaDoor
open Go.RowKit
set_option linter.unusedVariables false
set_option linter.unusedSimpArgs false

theorem mach_facts {C : Nat} {L : Nat → Nat} {F : Nat → Nat → Nat → Int} {N : Nat} {G : Nat → LnD} {n : Nat} {f : Nat → Nat → Int} (h : machB C L F N G n f = true) : C ≤ 5 ∧ N ≤ 4 ∧ ∀ c, c < C → L c = N := by
  unfold machB at h
  simp only [Bool.and_eq_true] at h
  obtain ⟨⟨⟨h1, h2⟩, _⟩, _⟩ := h
  unfold sizeB inB at h1
  simp at h1
  have h3 : slotsP C L F N := by
    by_cases h4 : slotsP C L F N
    · exact h4
    · have := slotsB_no h4
      rw [h2] at this
      cases this
  exact ⟨by omega, by omega, fun c hc => (h3 c hc).1⟩

/-- one line is well held -/
def okL (F : Nat → Nat → Nat → Int) (C line : Nat) : Bool := !(decide (1 < cnt (pS F line 2) C) || (decide (0 < cnt (pS F line 2) C) && decide (0 < cnt (pS F line 1) C)))
def oneK (F : Nat → Nat → Nat → Int) (C k : Nat) : Bool := decide (∀ j, j < k → okL F C j = true)
theorem oneK_zero (F : Nat → Nat → Nat → Int) (C : Nat) : oneK F C 0 = true := decide_eq_true (fun j hj => by omega)
theorem oneK_no {F : Nat → Nat → Nat → Int} {C N k : Nat} (hk : k < N) (h : okL F C k = false) : oneK F C N = false := decide_eq_false (fun h2 => by have := h2 k hk; rw [h] at this; cases this)
theorem oneK_yes {F : Nat → Nat → Nat → Int} {C k : Nat} (h0 : oneK F C k = true) (h : okL F C k = true) : oneK F C (k + 1) = true := by
  have h1 := of_decide_eq_true h0
  refine decide_eq_true (fun j hj => ?_)
  by_cases e : j = k
  · subst e; exact h
  · exact h1 j (by omega)
noncomputable def oneB (C : Nat) (L : Nat → Nat) (F : Nat → Nat → Nat → Int) (N : Nat) (G : Nat → LnD) (n : Nat) (f : Nat → Nat → Int) : Bool := machB C L F N G n f && oneK F C N
theorem oneB_no {C : Nat} {L : Nat → Nat} {F : Nat → Nat → Nat → Int} {N : Nat} {G : Nat → LnD} {n : Nat} {f : Nat → Nat → Int} (h : machB C L F N G n f = false) : oneB C L F N G n f = false := by unfold oneB; rw [h]; rfl
theorem oneB_yes {C : Nat} {L : Nat → Nat} {F : Nat → Nat → Nat → Int} {N : Nat} {G : Nat → LnD} {n : Nat} {f : Nat → Nat → Int} (h : machB C L F N G n f = true) : oneB C L F N G n f = oneK F C N := by unfold oneB; rw [h]; rfl
theorem okL_cases (F : Nat → Nat → Nat → Int) (C line : Nat) (hC : C ≤ 5) : okL F C line = !(many (cwn (pS F line 2) C) || ((cwn (pS F line 2) C != 0) && (cwn (pS F line 1) C != 0))) := by
  unfold okL
  rw [(many_cnt _ C hC).1, (many_cnt _ C hC).2, (many_cnt _ C hC).2]
theorem int_ne (x : Nat) : (((x : Nat) : Int) != 0) = (x != 0) := by
  by_cases h : x = 0
  · subst h; rfl
  · have h1 : (x != 0) = true := by simp [h]
    rw [h1]; simp; omega

set_option maxHeartbeats 8000000 in
theorem implOne_any (sa : Option Addr) (C sc : Nat) (la : Option Addr) (N lc : Nat) (qa : Option Addr) (n qc : Nat) (L : Nat → Nat) (F : Nat → Nat → Nat → Int) (G : Nat → LnD) (f : Nat → Nat → Int) (w : World) (ht : Tab w) (hs : Ss w (.slice sa C sc) C L F) (hl : Ls w (.slice la N lc) N G) (hq : Sr w (.slice qa n qc) 6 n f)
    (hC : C ≤ 1048576) (hL : ∀ c, c < C → L c ≤ 1048576) (hN : N ≤ 1048576) (hG : ∀ c, c < N → (G c).zs.length ≤ 1048576 ∧ (G c).qn ≤ 1048576) (hn : n ≤ 1048576) :
    Calls Tryd.prog 22 #[.agg (mc3 (.slice sa C sc) (.slice la N lc) (.slice qa n qc))] w fun e w' => e = .returned (.bool (oneB C L F N G n f)) ∧ Below w.heap.size w w' := by
  have mb := mb_box w (.slice sa C sc) (.slice la N lc) (.slice qa n qc) 34
  have hb0 : Below w.heap.size w (w.alloc (.cells (mc3 (.slice sa C sc) (.slice la N lc) (.slice qa n qc)) 34)) := (Below.refl _ _).alloc (Nat.le_refl _) _
  have hmo := implMachineOk_any sa C sc la N lc qa n qc L F G f (w.alloc (.cells (mc3 (.slice sa C sc) (.slice la N lc) (.slice qa n qc)) 34)) (ht.below hb0) (hs.below hb0) (hl.below hb0) (hq.below hb0) hC hL hN hG hn
  clear hb0
  cases hm : machB C L F N G n f
  · rw [oneB_no hm]
    rw [hm] at hmo
    clear hm
    go_enter Tryd.func22, Tryd.ntmps22
    go_wp2_with fail
    refine hmo.mono ?_
    rintro e w1 ⟨rfl, hb1⟩
    have m1 := mb.next hb1
    clear mb hb1 hmo
    go_wp2
    go_ret
    exact ⟨rfl, m1.1⟩
  · rw [hm] at hmo
    obtain ⟨hC5, hN4, hLN⟩ := mach_facts hm
    rw [oneB_yes hm]
    clear hm
    go_enter Tryd.func22, Tryd.ntmps22
    go_wp2_with fail
    refine hmo.mono ?_
    rintro e w1 ⟨rfl, hb1⟩
    have m1 := mb.next hb1
    clear mb hb1 hmo
    obtain ⟨_, c0, c1, c2⟩ := id m1
    go_wp2_with fail
    refine (lines_any (.slice sa C sc) la N lc (.slice qa n qc) _).mono ?_
    rintro e w2 ⟨rfl, hb2⟩
    have m2 := m1.next hb2
    clear m1 hb2 c0 c1 c2
    go_wp2
    go_loopw [11] (fun i wr => ∃ k : Nat, k ≤ N ∧ i = .int .i64 k ∧ MB w w.heap.size (.slice sa C sc) (.slice la N lc) (.slice qa n qc) wr ∧ Hid (oneK F C k = true)) (fun i _ => N - (intOf i).toNat)
    case atStart => exact ⟨0, Nat.zero_le _, rfl, m2, hide (oneK_zero F C)⟩
    case round =>
      obtain ⟨k, hk, rfl, mk, HK⟩ := hrel
      clear m2
      by_cases hlt : k < N
      · have hO := fun (W : World) (hb : Below w.heap.size w W) => coresWith_any sa C sc (.slice la N lc) (.slice qa n qc) L F N k 2 W (hs.below hb) hC5 hLN hN hlt
        have hS := fun (W : World) (hb : Below w.heap.size w W) => coresWith_any sa C sc (.slice la N lc) (.slice qa n qc) L F N k 1 W (hs.below hb) hC5 hLN hN hlt
        have HC := hide (okL_cases F C k hC5)
        have hxl := cwn_lt (pS F k 2) C hC5
        have hyl := cwn_lt (pS F k 1) C hC5
        generalize cwn (pS F k 2) C = x at hO HC hxl
        generalize cwn (pS F k 1) C = y at hS HC hyl
        have hM := fun w => isMany_any x w hxl
        have ex := int_ne x
        have ey := int_ne y
        generalize many x = bm at hM HC
        generalize (x != 0) = bx at ex HC
        generalize (y != 0) = b_y at ey HC
        obtain ⟨_, c0, c1, c2⟩ := id mk
        go_wp2_with fail
        refine (hO _ mk.1).mono ?_
        rintro e w3 ⟨rfl, hb3⟩
        have m3 := mk.next hb3
        clear mk hb3 c0 c1 c2 hO
        obtain ⟨_, c0, c1, c2⟩ := id m3
        go_wp2_with fail
        refine (hS _ m3.1).mono ?_
        rintro e w4 ⟨rfl, hb4⟩
        have m4 := m3.next hb4
        clear m3 hb4 c0 c1 c2 hS
        cases bm <;> cases bx <;> cases b_y
        all_goals go_wp2_with (go_at_call 47; refine (hM _).mono ?_; rintro e w5 ⟨rfl, rfl⟩)
        all_goals first
          | (go_roundw
             case rel => exact ⟨k + 1, by omega, by go_num, m4, hide (oneK_yes HK.out HC.out)⟩
             case measure => simp [intOf]; omega)
          | (go_ret
             exact ⟨ret_bool (oneK_no hlt HC.out).symm, m4.1⟩)
      · have e : k = N := by omega
        subst e
        go_wp2
        go_ret
        exact ⟨ret_bool HK.out.symm, mk.1⟩

theorem okL_cnt (F : Nat → Nat → Nat → Int) (C line : Nat) : okL F C line = !(decide (1 < cnt (pS F line 2) C) || (decide (cnt (pS F line 2) C = 1) && decide (0 < cnt (pS F line 1) C))) := by
  unfold okL
  by_cases h : 1 < cnt (pS F line 2) C
  · rw [decide_eq_true h]; rfl
  · rw [decide_eq_false h]
    by_cases h1 : cnt (pS F line 2) C = 1
    · rw [decide_eq_true h1, decide_eq_true (show 0 < cnt (pS F line 2) C by omega)]
    · rw [decide_eq_false h1, decide_eq_false (show ¬ 0 < cnt (pS F line 2) C by omega)]

set_option maxHeartbeats 8000000 in
theorem specOne_any (sa : Option Addr) (C sc : Nat) (la : Option Addr) (N lc : Nat) (qa : Option Addr) (n qc : Nat) (L : Nat → Nat) (F : Nat → Nat → Nat → Int) (G : Nat → LnD) (f : Nat → Nat → Int) (w : World) (hs : Ss w (.slice sa C sc) C L F) (hl : Ls w (.slice la N lc) N G) (hq : Sr w (.slice qa n qc) 6 n f)
    (hC : C ≤ 1048576) (hL : ∀ c, c < C → L c ≤ 1048576) (hN : N ≤ 1048576) (hG : ∀ c, c < N → (G c).zs.length ≤ 1048576 ∧ (G c).qn ≤ 1048576) (hn : n ≤ 1048576) :
    Calls Tryd.prog 21 #[.agg (mc3 (.slice sa C sc) (.slice la N lc) (.slice qa n qc))] w fun e w' => e = .returned (.bool (oneB C L F N G n f)) ∧ Below w.heap.size w w' := by
  have mb := mb_box w (.slice sa C sc) (.slice la N lc) (.slice qa n qc) 34
  have hb0 : Below w.heap.size w (w.alloc (.cells (mc3 (.slice sa C sc) (.slice la N lc) (.slice qa n qc)) 34)) := (Below.refl _ _).alloc (Nat.le_refl _) _
  have hmo := specMachineOk_any sa C sc la N lc qa n qc L F G f (w.alloc (.cells (mc3 (.slice sa C sc) (.slice la N lc) (.slice qa n qc)) 34)) (hs.below hb0) (hl.below hb0) (hq.below hb0) hC hL hN hG hn
  clear hb0
  cases hm : machB C L F N G n f
  · rw [oneB_no hm]
    rw [hm] at hmo
    clear hm
    go_enter Tryd.func21, Tryd.ntmps21
    go_wp2_with fail
    refine hmo.mono ?_
    rintro e w1 ⟨rfl, hb1⟩
    have m1 := mb.next hb1
    clear mb hb1 hmo
    go_wp2
    go_ret
    exact ⟨rfl, m1.1⟩
  · rw [hm] at hmo
    obtain ⟨hC5, hN4, hLN⟩ := mach_facts hm
    rw [oneB_yes hm]
    clear hm
    go_enter Tryd.func21, Tryd.ntmps21
    go_wp2_with fail
    refine hmo.mono ?_
    rintro e w1 ⟨rfl, hb1⟩
    have m1 := mb.next hb1
    clear mb hb1 hmo
    go_wp2
    go_loopw [3] (fun i wr => ∃ k : Nat, k ≤ N ∧ i = .int .i64 k ∧ MB w w.heap.size (.slice sa C sc) (.slice la N lc) (.slice qa n qc) wr ∧ Hid (oneK F C k = true)) (fun i _ => N - (intOf i).toNat)
    case atStart => exact ⟨0, Nat.zero_le _, rfl, m1, hide (oneK_zero F C)⟩
    case round =>
      obtain ⟨k, hk, rfl, mk, HK⟩ := hrel
      clear m1
      obtain ⟨_, c0, c1, c2⟩ := id mk
      by_cases hlt : k < N
      · have hO := fun (W : World) (hb : Below w.heap.size w W) => l6State_any sa C sc (.slice la N lc) (.slice qa n qc) L F N k 2 W (hs.below hb) hC5 hLN hN hlt
        have hS := fun (W : World) (hb : Below w.heap.size w W) => l6State_any sa C sc (.slice la N lc) (.slice qa n qc) L F N k 1 W (hs.below hb) hC5 hLN hN hlt
        have HC := hide (okL_cnt F C k)
        have ex := stL_len (pS F k 2) C
        have ey := stL_len (pS F k 1) C
        have lx := cnt_le (pS F k 2) C
        have l_y := cnt_le (pS F k 1) C
        generalize stL (pS F k 2) C = X at hO ex
        generalize stL (pS F k 1) C = Y at hS ey
        generalize cnt (pS F k 2) C = x at HC ex lx
        generalize cnt (pS F k 1) C = y at HC ey l_y
        go_wp2_with fail
        refine (hO _ mk.1).mono ?_
        rintro e w3 ⟨u, rfl, ho3, hb3⟩
        obtain ⟨ad3, cap3, rfl, _⟩ := ho3.form
        rw [ex]
        have m3 := mk.next hb3
        clear mk hb3 c0 c1 c2 hO ho3 ex
        obtain ⟨_, c0, c1, c2⟩ := id m3
        by_cases h1 : 1 < x
        · have HR : Hid (okL F C k = false) := hide (by rw [HC.out, decide_eq_true h1]; rfl)
          go_wp2
          go_ret
          exact ⟨ret_bool (oneK_no hlt HR.out).symm, m3.1⟩
        · by_cases h2 : x = 1
          · subst h2
            clear h1
            go_wp2_with fail
            refine (hS _ m3.1).mono ?_
            rintro e w4 ⟨u, rfl, ho4, hb4⟩
            obtain ⟨ad4, cap4, rfl, _⟩ := ho4.form
            rw [ey]
            have m4 := m3.next hb4
            clear m3 hb4 c0 c1 c2 hS ho4 ey
            by_cases h3 : 0 < y
            · have HR : Hid (okL F C k = false) := hide (by rw [HC.out, decide_eq_true h3]; rfl)
              go_wp2
              go_ret
              exact ⟨ret_bool (oneK_no hlt HR.out).symm, m4.1⟩
            · have HR : Hid (okL F C k = true) := hide (by rw [HC.out, decide_eq_false h3]; rfl)
              go_wp2
              go_roundw
              case rel => exact ⟨k + 1, by omega, by go_num, m4, hide (oneK_yes HK.out HR.out)⟩
              case measure => simp [intOf]; omega
          · have hq : ((x : Int) == 1) = false := by simp; omega
            have HR : Hid (okL F C k = true) := hide (by rw [HC.out, decide_eq_false h1, decide_eq_false h2]; rfl)
            clear h2
            go_wp2
            go_roundw
            case rel => exact ⟨k + 1, by omega, by go_num, m3, hide (oneK_yes HK.out HR.out)⟩
            case measure => simp [intOf]; omega
      · have e : k = N := by omega
        subst e
        go_wp2
        go_ret
        exact ⟨ret_bool HK.out.symm, mk.1⟩
end Go.Proofs.YtfckacabaajnkaaDoor
