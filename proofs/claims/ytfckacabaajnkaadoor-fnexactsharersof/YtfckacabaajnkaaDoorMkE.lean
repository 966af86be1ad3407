/- who owns, who shares: impl and spec (written by mkMkE.py) -/
import Derived.Test.YtfckacabaajnkaaDoorNwB
import Derived.Test.YtfckacabaajnkaaDoorMkD
namespace Go.Proofs.YtfckacabaajnkaaDoor
open Go.RowKit
set_option linter.unusedVariables false
set_option linter.unusedSimpArgs false

/-- the cores that are told -/
noncomputable def csL (st : Int) (C : Nat) (L : Nat → Nat) (F : Nat → Nat → Nat → Int) (N : Nat) (G : Nat → LnD) (n : Nat) (f : Nat → Nat → Int) (i : Int) : List Int := cond (nvB C L F N G n f i) (stL (pS F i.toNat st) C) []
theorem csL_no {st : Int} {C : Nat} {L : Nat → Nat} {F : Nat → Nat → Nat → Int} {N : Nat} {G : Nat → LnD} {n : Nat} {f : Nat → Nat → Int} {i : Int} (h : nvB C L F N G n f i = false) : csL st C L F N G n f i = [] := by unfold csL; rw [h]; rfl
theorem csL_yes {st : Int} {C : Nat} {L : Nat → Nat} {F : Nat → Nat → Nat → Int} {N : Nat} {G : Nat → LnD} {n : Nat} {f : Nat → Nat → Int} {k : Nat} (h : nvB C L F N G n f (k : Int) = true) : csL st C L F N G n f (k : Int) = stL (pS F k st) C := by unfold csL; rw [h]; rfl
theorem csL_le {st : Int} {C : Nat} {L : Nat → Nat} {F : Nat → Nat → Nat → Int} {N : Nat} {G : Nat → LnD} {n : Nat} {f : Nat → Nat → Int} {i : Int} : (csL st C L F N G n f i).length ≤ 5 := by
  cases h : nvB C L F N G n f i
  · rw [csL_no h]; simp
  · obtain ⟨hM, k, rfl, _, _⟩ := nv_parts h
    rw [csL_yes h, stL_len]
    have h1 := cnt_le (pS F k st) C
    have h2 := (mach_facts hM).1
    omega

set_option maxHeartbeats 4000000 in
theorem coresAt_any (sa : Option Addr) (C sc : Nat) (la : Option Addr) (N lc : Nat) (qa : Option Addr) (n qc : Nat) (L : Nat → Nat) (F : Nat → Nat → Nat → Int) (G : Nat → LnD) (f : Nat → Nat → Int) (i : Int) (st : Int) (w : World) (ht : Tab w) (hs : Ss w (.slice sa C sc) C L F) (hl : Ls w (.slice la N lc) N G) (hq : Sr w (.slice qa n qc) 6 n f)
    (hC : C ≤ 1048576) (hL : ∀ c, c < C → L c ≤ 1048576) (hN : N ≤ 1048576) (hG : ∀ c, c < N → (G c).zs.length ≤ 1048576 ∧ (G c).qn ≤ 1048576) (hn : n ≤ 1048576) :
    Calls Tryd.prog 33 #[.agg (mc3 (.slice sa C sc) (.slice la N lc) (.slice qa n qc)), .int .i64 i, .int .i64 st] w fun e w' => ∃ u, e = .returned u ∧ Ow w' w.heap.size u (csL st C L F N G n f i) ∧ Below w.heap.size w w' := by
  have mb := mb_box w (.slice sa C sc) (.slice la N lc) (.slice qa n qc) 34
  have hb0 : Below w.heap.size w (w.alloc (.cells (mc3 (.slice sa C sc) (.slice la N lc) (.slice qa n qc)) 34)) := (Below.refl _ _).alloc (Nat.le_refl _) _
  have hmo := isLineOf_any sa C sc la N lc qa n qc L F G f i (w.alloc (.cells (mc3 (.slice sa C sc) (.slice la N lc) (.slice qa n qc)) 34)) (ht.below hb0) (hs.below hb0) (hl.below hb0) (hq.below hb0) hC hL hN hG hn
  clear hb0
  have e : (machB C L F N G n f && hlB i N) = nvB C L F N G n f i := rfl
  rw [e] at hmo
  clear e
  cases hm : nvB C L F N G n f i
  · rw [csL_no hm]
    rw [hm] at hmo
    clear hm
    go_enter Tryd.func33, Tryd.ntmps33
    go_wp2_with fail
    refine hmo.mono ?_
    rintro e w1 ⟨rfl, hb1⟩
    have m1 := mb.next hb1
    clear mb hb1 hmo
    go_wp2
    go_ret
    exact ⟨_, rfl, Ow.empty_nil _ _, m1.1⟩
  · rw [hm] at hmo
    obtain ⟨hM, k, rfl, hkN, _⟩ := nv_parts hm
    rw [csL_yes hm]
    obtain ⟨hC5, hN4, hLN⟩ := mach_facts hM
    have hO := fun (W : World) (hb : Below w.heap.size w W) => coresWith_any sa C sc (.slice la N lc) (.slice qa n qc) L F N k st W (hs.below hb) hC5 hLN hN hkN
    have hX := set_cw (pS F k st) C hC5
    have hxl := cwn_lt (pS F k st) C hC5
    generalize cwn (pS F k st) C = x at hO hX hxl
    clear hm hM
    go_enter Tryd.func33, Tryd.ntmps33
    go_wp2_with fail
    refine hmo.mono ?_
    rintro e w1 ⟨rfl, hb1⟩
    have m1 := mb.next hb1
    clear mb hb1 hmo
    obtain ⟨_, c0, c1, c2⟩ := id m1
    go_wp2_with fail
    refine (hO _ m1.1).mono ?_
    rintro e w2 ⟨rfl, hb2⟩
    have m2 := m1.next hb2
    clear m1 hb2 c0 c1 c2 hO
    go_wp2_with fail
    refine (idsIn_any (x : Int) _ (by omega) (by omega)).mono ?_
    rintro e w3 ⟨u, rfl, ho, hb3⟩
    rw [hX] at ho
    have m3 := m2.next hb3
    have HO := hide (ho.mono m2.1.size)
    clear m2 hb3 hX ho
    go_wp2
    go_ret
    exact ⟨_, rfl, HO.out, m3.1⟩

set_option maxHeartbeats 4000000 in
theorem implOwnersOf_any (sa : Option Addr) (C sc : Nat) (la : Option Addr) (N lc : Nat) (qa : Option Addr) (n qc : Nat) (L : Nat → Nat) (F : Nat → Nat → Nat → Int) (G : Nat → LnD) (f : Nat → Nat → Int) (i : Int) (w : World) (ht : Tab w) (hs : Ss w (.slice sa C sc) C L F) (hl : Ls w (.slice la N lc) N G) (hq : Sr w (.slice qa n qc) 6 n f)
    (hC : C ≤ 1048576) (hL : ∀ c, c < C → L c ≤ 1048576) (hN : N ≤ 1048576) (hG : ∀ c, c < N → (G c).zs.length ≤ 1048576 ∧ (G c).qn ≤ 1048576) (hn : n ≤ 1048576) :
    Calls Tryd.prog 11 #[.agg (mc3 (.slice sa C sc) (.slice la N lc) (.slice qa n qc)), .int .i64 i] w fun e w' => ∃ u, e = .returned u ∧ Ow w' w.heap.size u (csL 2 C L F N G n f i) ∧ Below w.heap.size w w' := by
  have mb := mb_box w (.slice sa C sc) (.slice la N lc) (.slice qa n qc) 34
  have hb0 : Below w.heap.size w (w.alloc (.cells (mc3 (.slice sa C sc) (.slice la N lc) (.slice qa n qc)) 34)) := (Below.refl _ _).alloc (Nat.le_refl _) _
  have hmo := coresAt_any sa C sc la N lc qa n qc L F G f i 2 (w.alloc (.cells (mc3 (.slice sa C sc) (.slice la N lc) (.slice qa n qc)) 34)) (ht.below hb0) (hs.below hb0) (hl.below hb0) (hq.below hb0) hC hL hN hG hn
  clear hb0
  go_enter Tryd.func11, Tryd.ntmps11
  go_wp2_with fail
  refine hmo.mono ?_
  rintro e w1 ⟨u, rfl, ho, hb1⟩
  have m1 := mb.next hb1
  have HO := hide (ho.mono (show w.heap.size ≤ _ by simp))
  clear mb hb1 hmo ho
  go_wp2
  go_ret
  exact ⟨_, rfl, HO.out, m1.1⟩

set_option maxHeartbeats 4000000 in
theorem implSharersOf_any (sa : Option Addr) (C sc : Nat) (la : Option Addr) (N lc : Nat) (qa : Option Addr) (n qc : Nat) (L : Nat → Nat) (F : Nat → Nat → Nat → Int) (G : Nat → LnD) (f : Nat → Nat → Int) (i : Int) (w : World) (ht : Tab w) (hs : Ss w (.slice sa C sc) C L F) (hl : Ls w (.slice la N lc) N G) (hq : Sr w (.slice qa n qc) 6 n f)
    (hC : C ≤ 1048576) (hL : ∀ c, c < C → L c ≤ 1048576) (hN : N ≤ 1048576) (hG : ∀ c, c < N → (G c).zs.length ≤ 1048576 ∧ (G c).qn ≤ 1048576) (hn : n ≤ 1048576) :
    Calls Tryd.prog 18 #[.agg (mc3 (.slice sa C sc) (.slice la N lc) (.slice qa n qc)), .int .i64 i] w fun e w' => ∃ u, e = .returned u ∧ Ow w' w.heap.size u (csL 1 C L F N G n f i) ∧ Below w.heap.size w w' := by
  have mb := mb_box w (.slice sa C sc) (.slice la N lc) (.slice qa n qc) 34
  have hb0 : Below w.heap.size w (w.alloc (.cells (mc3 (.slice sa C sc) (.slice la N lc) (.slice qa n qc)) 34)) := (Below.refl _ _).alloc (Nat.le_refl _) _
  have hmo := coresAt_any sa C sc la N lc qa n qc L F G f i 1 (w.alloc (.cells (mc3 (.slice sa C sc) (.slice la N lc) (.slice qa n qc)) 34)) (ht.below hb0) (hs.below hb0) (hl.below hb0) (hq.below hb0) hC hL hN hG hn
  clear hb0
  go_enter Tryd.func18, Tryd.ntmps18
  go_wp2_with fail
  refine hmo.mono ?_
  rintro e w1 ⟨u, rfl, ho, hb1⟩
  have m1 := mb.next hb1
  have HO := hide (ho.mono (show w.heap.size ≤ _ by simp))
  clear mb hb1 hmo ho
  go_wp2
  go_ret
  exact ⟨_, rfl, HO.out, m1.1⟩

set_option maxHeartbeats 4000000 in
theorem specOwnersOf_any (sa : Option Addr) (C sc : Nat) (la : Option Addr) (N lc : Nat) (qa : Option Addr) (n qc : Nat) (L : Nat → Nat) (F : Nat → Nat → Nat → Int) (G : Nat → LnD) (f : Nat → Nat → Int) (i : Int) (w : World) (hs : Ss w (.slice sa C sc) C L F) (hl : Ls w (.slice la N lc) N G) (hq : Sr w (.slice qa n qc) 6 n f)
    (hC : C ≤ 1048576) (hL : ∀ c, c < C → L c ≤ 1048576) (hN : N ≤ 1048576) (hG : ∀ c, c < N → (G c).zs.length ≤ 1048576 ∧ (G c).qn ≤ 1048576) (hn : n ≤ 1048576) :
    Calls Tryd.prog 9 #[.agg (mc3 (.slice sa C sc) (.slice la N lc) (.slice qa n qc)), .int .i64 i] w fun e w' => ∃ u, e = .returned u ∧ Ow w' w.heap.size u (csL 2 C L F N G n f i) ∧ Below w.heap.size w w' := by
  have mb := mb_box w (.slice sa C sc) (.slice la N lc) (.slice qa n qc) 34
  have hb0 : Below w.heap.size w (w.alloc (.cells (mc3 (.slice sa C sc) (.slice la N lc) (.slice qa n qc)) 34)) := (Below.refl _ _).alloc (Nat.le_refl _) _
  have hmo := l6Line_any sa C sc la N lc qa n qc L F G f i (w.alloc (.cells (mc3 (.slice sa C sc) (.slice la N lc) (.slice qa n qc)) 34)) (hs.below hb0) (hl.below hb0) (hq.below hb0) hC hL hN hG hn
  clear hb0
  have e : (machB C L F N G n f && hlB i N) = nvB C L F N G n f i := rfl
  rw [e] at hmo
  clear e
  cases hm : nvB C L F N G n f i
  · rw [csL_no hm]
    rw [hm] at hmo
    clear hm
    go_enter Tryd.func9, Tryd.ntmps9
    go_wp2_with fail
    refine hmo.mono ?_
    rintro e w1 ⟨rfl, hb1⟩
    have m1 := mb.next hb1
    clear mb hb1 hmo
    go_wp2
    go_ret
    exact ⟨_, rfl, (Ow.empty_made w1).mono m1.1.size, m1.1.alloc m1.1.size _⟩
  · rw [hm] at hmo
    obtain ⟨hM, k, rfl, hkN, _⟩ := nv_parts hm
    rw [csL_yes hm]
    obtain ⟨hC5, hN4, hLN⟩ := mach_facts hM
    have hO := fun (W : World) (hb : Below w.heap.size w W) => l6State_any sa C sc (.slice la N lc) (.slice qa n qc) L F N k 2 W (hs.below hb) hC5 hLN hN hkN
    clear hm hM
    go_enter Tryd.func9, Tryd.ntmps9
    go_wp2_with fail
    refine hmo.mono ?_
    rintro e w1 ⟨rfl, hb1⟩
    have m1 := mb.next hb1
    clear mb hb1 hmo
    obtain ⟨_, c0, c1, c2⟩ := id m1
    go_wp2_with fail
    refine (hO _ m1.1).mono ?_
    rintro e w3 ⟨u, rfl, ho, hb3⟩
    have m3 := m1.next hb3
    have HO := hide (ho.mono m1.1.size)
    clear m1 hb3 c0 c1 c2 hO ho
    go_wp2
    go_ret
    exact ⟨_, rfl, HO.out, m3.1⟩

set_option maxHeartbeats 4000000 in
theorem specSharersOf_any (sa : Option Addr) (C sc : Nat) (la : Option Addr) (N lc : Nat) (qa : Option Addr) (n qc : Nat) (L : Nat → Nat) (F : Nat → Nat → Nat → Int) (G : Nat → LnD) (f : Nat → Nat → Int) (i : Int) (w : World) (hs : Ss w (.slice sa C sc) C L F) (hl : Ls w (.slice la N lc) N G) (hq : Sr w (.slice qa n qc) 6 n f)
    (hC : C ≤ 1048576) (hL : ∀ c, c < C → L c ≤ 1048576) (hN : N ≤ 1048576) (hG : ∀ c, c < N → (G c).zs.length ≤ 1048576 ∧ (G c).qn ≤ 1048576) (hn : n ≤ 1048576) :
    Calls Tryd.prog 17 #[.agg (mc3 (.slice sa C sc) (.slice la N lc) (.slice qa n qc)), .int .i64 i] w fun e w' => ∃ u, e = .returned u ∧ Ow w' w.heap.size u (csL 1 C L F N G n f i) ∧ Below w.heap.size w w' := by
  have mb := mb_box w (.slice sa C sc) (.slice la N lc) (.slice qa n qc) 34
  have hb0 : Below w.heap.size w (w.alloc (.cells (mc3 (.slice sa C sc) (.slice la N lc) (.slice qa n qc)) 34)) := (Below.refl _ _).alloc (Nat.le_refl _) _
  have hmo := l6Line_any sa C sc la N lc qa n qc L F G f i (w.alloc (.cells (mc3 (.slice sa C sc) (.slice la N lc) (.slice qa n qc)) 34)) (hs.below hb0) (hl.below hb0) (hq.below hb0) hC hL hN hG hn
  clear hb0
  have e : (machB C L F N G n f && hlB i N) = nvB C L F N G n f i := rfl
  rw [e] at hmo
  clear e
  cases hm : nvB C L F N G n f i
  · rw [csL_no hm]
    rw [hm] at hmo
    clear hm
    go_enter Tryd.func17, Tryd.ntmps17
    go_wp2_with fail
    refine hmo.mono ?_
    rintro e w1 ⟨rfl, hb1⟩
    have m1 := mb.next hb1
    clear mb hb1 hmo
    go_wp2
    go_ret
    exact ⟨_, rfl, (Ow.empty_made w1).mono m1.1.size, m1.1.alloc m1.1.size _⟩
  · rw [hm] at hmo
    obtain ⟨hM, k, rfl, hkN, _⟩ := nv_parts hm
    rw [csL_yes hm]
    obtain ⟨hC5, hN4, hLN⟩ := mach_facts hM
    have hO := fun (W : World) (hb : Below w.heap.size w W) => l6State_any sa C sc (.slice la N lc) (.slice qa n qc) L F N k 1 W (hs.below hb) hC5 hLN hN hkN
    clear hm hM
    go_enter Tryd.func17, Tryd.ntmps17
    go_wp2_with fail
    refine hmo.mono ?_
    rintro e w1 ⟨rfl, hb1⟩
    have m1 := mb.next hb1
    clear mb hb1 hmo
    obtain ⟨_, c0, c1, c2⟩ := id m1
    go_wp2_with fail
    refine (hO _ m1.1).mono ?_
    rintro e w3 ⟨u, rfl, ho, hb3⟩
    have m3 := m1.next hb3
    have HO := hide (ho.mono m1.1.size)
    clear m1 hb3 c0 c1 c2 hO ho
    go_wp2
    go_ret
    exact ⟨_, rfl, HO.out, m3.1⟩

theorem ow_chg {S : Nat → Prop} {w w' : World} {base : Nat} {v : Value} {zs : List Int} (h : Ow w base v zs) (hc : Chg S w w') (hS : ∀ k, v.ownBlock = some k → ¬ S k) : Ow w' base v zs := by
  obtain ⟨h0, h⟩ := h
  refine ⟨h0, ?_⟩
  rcases h with h | ⟨g, cap, cur, hv, hb, hg, h1, h2, h3, h4⟩
  · exact Or.inl h
  · refine Or.inr ⟨g, cap, cur, hv, hb, ?_, h1, h2, h3, h4⟩
    rw [hc.block g (lt_of_block hg) (hS g (by rw [hv]; rfl))]; exact hg
theorem chg_below {B E A : Nat} {w w' : World} (hc : Chg (fun j => B ≤ j ∧ j < E) w w') (hA : A ≤ B) (hs : A ≤ w.heap.size) : Below A w w' :=
  ⟨hc.os, hc.tape, hc.output, hc.size, fun j hj => hc.block j (by omega) (fun h => by have h : B ≤ j ∧ j < E := h; omega)⟩

end Go.Proofs.YtfckacabaajnkaaDoor
