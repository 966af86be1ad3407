/- LqC -/
import Derived.Test.YtlalldlbgnlbjaaGreatDoorYomeGot19
/- impl.LineOk, spec.LineOk by one answer (written by mkLqC.py) -/
namespace Go.Proofs.YtlalldlbgnlbjaaGreatDoor
open Go.RowKit
set_option linter.unusedVariables false
set_option linter.unusedSimpArgs false

set_option maxHeartbeats 2000000 in
theorem il_m (mem ow : Int) (sv : Value) (zs : List Int) (bu wt ac : Int) (qa : Option Addr) (qc n : Nat) (f : Nat → Nat → Int) (w : World) (hs : Sl w sv zs) (hl : zs.length ≤ 1048576) (hq : Sr w (.slice qa n qc) 2 n f) (hn : n ≤ 1048576) (h1 : ¬ (0 ≤ mem ∧ mem ≤ 1000000)) : Calls Tryz.prog 21 #[.agg (ln7 mem ow sv bu wt ac (.slice qa n qc))] w fun e w' => e = .returned (.bool (lineB mem ow zs bu wt ac n f)) ∧ Below w.heap.size w w' := by
  have lb := lb_box w mem ow sv bu wt ac (.slice qa n qc) 31
  have HR : Hid (false = lineB mem ow zs bu wt ac n f) := hide (lineB_no fun ⟨h, _⟩ => h1 h)
  go_enter Tryz.func21, Tryz.ntmps21
  have e1 := inB_no h1
  clear h1
  go_wp2_with fail
  refine (isValue_any _ _).mono ?_
  rintro e w1 ⟨rfl, rfl⟩
  rw [e1]
  go_wp2
  go_ret
  exact ⟨ret_bool HR.out, lb.1⟩

set_option maxHeartbeats 2000000 in
theorem il_o (mem ow : Int) (sv : Value) (zs : List Int) (bu wt ac : Int) (qa : Option Addr) (qc n : Nat) (f : Nat → Nat → Int) (w : World) (hs : Sl w sv zs) (hl : zs.length ≤ 1048576) (hq : Sr w (.slice qa n qc) 2 n f) (hn : n ≤ 1048576) (h1 : 0 ≤ mem ∧ mem ≤ 1000000) (h2 : ¬ (0 ≤ ow ∧ ow ≤ 5)) : Calls Tryz.prog 21 #[.agg (ln7 mem ow sv bu wt ac (.slice qa n qc))] w fun e w' => e = .returned (.bool (lineB mem ow zs bu wt ac n f)) ∧ Below w.heap.size w w' := by
  have lb := lb_box w mem ow sv bu wt ac (.slice qa n qc) 31
  have HR : Hid (false = lineB mem ow zs bu wt ac n f) := hide (lineB_no fun ⟨_, h, _⟩ => h2 h)
  go_enter Tryz.func21, Tryz.ntmps21
  have e1 := inB_yes h1.1 h1.2
  clear h1
  have e2 : inB ow 1 5 = false := inB_no (by omega)
  have e0 : (ow != 0) = true := by simp; omega
  clear h2
  go_wp2_with fail
  refine (isValue_any _ _).mono ?_
  rintro e w1 ⟨rfl, rfl⟩
  rw [e1]
  go_wp2_with fail
  refine (isCore_any _ _).mono ?_
  rintro e w1 ⟨rfl, rfl⟩
  rw [e2]
  go_wp2
  go_ret
  exact ⟨ret_bool HR.out, lb.1⟩

set_option maxHeartbeats 2000000 in
theorem il_i0 (mem ow : Int) (sv : Value) (zs : List Int) (bu wt ac : Int) (qa : Option Addr) (qc n : Nat) (f : Nat → Nat → Int) (w : World) (hs : Sl w sv zs) (hl : zs.length ≤ 1048576) (hq : Sr w (.slice qa n qc) 2 n f) (hn : n ≤ 1048576) (h1 : 0 ≤ mem ∧ mem ≤ 1000000) (h2 : ow = 0) (h3 : Ids.ok zs = false) : Calls Tryz.prog 21 #[.agg (ln7 mem ow sv bu wt ac (.slice qa n qc))] w fun e w' => e = .returned (.bool (lineB mem ow zs bu wt ac n f)) ∧ Below w.heap.size w w' := by
  have lb := lb_box w mem ow sv bu wt ac (.slice qa n qc) 31
  have HR : Hid (false = lineB mem ow zs bu wt ac n f) := hide (lineB_no fun ⟨_, _, h, _⟩ => by rw [h3] at h; cases h)
  go_enter Tryz.func21, Tryz.ntmps21
  have e1 := inB_yes h1.1 h1.2
  clear h1
  subst h2
  go_wp2_with fail
  refine (isValue_any _ _).mono ?_
  rintro e w1 ⟨rfl, rfl⟩
  rw [e1]
  go_wp2_with fail
  refine (implIdsOk_any sv zs _ (hs.below lb.1) hl).mono ?_
  rintro e w1 ⟨rfl, rfl⟩
  rw [h3]
  go_wp2
  go_ret
  exact ⟨ret_bool HR.out, lb.1⟩

set_option maxHeartbeats 2000000 in
theorem il_b0 (mem ow : Int) (sv : Value) (zs : List Int) (bu wt ac : Int) (qa : Option Addr) (qc n : Nat) (f : Nat → Nat → Int) (w : World) (hs : Sl w sv zs) (hl : zs.length ≤ 1048576) (hq : Sr w (.slice qa n qc) 2 n f) (hn : n ≤ 1048576) (h1 : 0 ≤ mem ∧ mem ≤ 1000000) (h2 : ow = 0) (h3 : Ids.ok zs = true) (h4 : ¬ bu = 0) : Calls Tryz.prog 21 #[.agg (ln7 mem ow sv bu wt ac (.slice qa n qc))] w fun e w' => e = .returned (.bool (lineB mem ow zs bu wt ac n f)) ∧ Below w.heap.size w w' := by
  have lb := lb_box w mem ow sv bu wt ac (.slice qa n qc) 31
  have HR : Hid (busyB bu wt ac n f = lineB mem ow zs bu wt ac n f) := hide (by
    by_cases h : busyP bu wt ac n f
    · rw [← busyB_yes h]; exact lineB_yes ⟨h1, by omega, h3, .inr h⟩
    · rw [← busyB_no h]; exact lineB_no fun ⟨_, _, _, h'⟩ => by
        rcases h' with h' | h'
        · exact h4 h'.1
        · exact h h')
  have e4 : (bu != 0) = true := by simp [h4]
  clear h4
  have hbo := fun w hq => busyOk_any mem ow sv bu wt ac qa qc n f w hq hn
  generalize busyB bu wt ac n f = r at HR hbo
  go_enter Tryz.func21, Tryz.ntmps21
  have e1 := inB_yes h1.1 h1.2
  clear h1
  subst h2
  go_wp2_with fail
  refine (isValue_any _ _).mono ?_
  rintro e w1 ⟨rfl, rfl⟩
  rw [e1]
  go_wp2_with fail
  refine (implIdsOk_any sv zs _ (hs.below lb.1) hl).mono ?_
  rintro e w1 ⟨rfl, rfl⟩
  rw [h3]
  obtain ⟨_, c0, c1, c2, c3, c4, c5, c6⟩ := id lb
  go_wp2_with fail
  refine (isBusy_any _ _ _ _ _ _ _ _).mono ?_
  rintro e w2 ⟨rfl, hb⟩
  clear c0 c1 c2 c3 c4 c5 c6
  replace lb := lb.next hb
  clear hb
  obtain ⟨_, c0, c1, c2, c3, c4, c5, c6⟩ := id lb
  rw [e4]
  go_wp2_with fail
  refine (hbo _ (hq.below lb.1)).mono ?_
  rintro e w3 ⟨rfl, hb⟩
  clear c0 c1 c2 c3 c4 c5 c6
  replace lb := lb.next hb
  clear hb hbo
  go_wp2
  go_ret
  exact ⟨ret_bool HR.out, lb.1⟩

set_option maxHeartbeats 2000000 in
theorem il_w0 (mem ow : Int) (sv : Value) (zs : List Int) (wt ac : Int) (qa : Option Addr) (qc n : Nat) (f : Nat → Nat → Int) (w : World) (hs : Sl w sv zs) (hl : zs.length ≤ 1048576) (hq : Sr w (.slice qa n qc) 2 n f) (hn : n ≤ 1048576) (h1 : 0 ≤ mem ∧ mem ≤ 1000000) (h2 : ow = 0) (h3 : Ids.ok zs = true) (h5 : ¬ wt = 0) : Calls Tryz.prog 21 #[.agg (ln7 mem ow sv 0 wt ac (.slice qa n qc))] w fun e w' => e = .returned (.bool (lineB mem ow zs 0 wt ac n f)) ∧ Below w.heap.size w w' := by
  have lb := lb_box w mem ow sv 0 wt ac (.slice qa n qc) 31
  have HR : Hid (false = lineB mem ow zs 0 wt ac n f) := hide (lineB_no fun ⟨_, _, _, h'⟩ => by rcases h' with h' | h' <;> omega)
  go_enter Tryz.func21, Tryz.ntmps21
  have e5 : (wt == 0) = false := by simp [h5]
  clear h5
  have e1 := inB_yes h1.1 h1.2
  clear h1
  subst h2
  go_wp2_with fail
  refine (isValue_any _ _).mono ?_
  rintro e w1 ⟨rfl, rfl⟩
  rw [e1]
  go_wp2_with fail
  refine (implIdsOk_any sv zs _ (hs.below lb.1) hl).mono ?_
  rintro e w1 ⟨rfl, rfl⟩
  rw [h3]
  obtain ⟨_, c0, c1, c2, c3, c4, c5, c6⟩ := id lb
  go_wp2_with fail
  refine (isBusy_any _ _ _ _ _ _ _ _).mono ?_
  rintro e w2 ⟨rfl, hb⟩
  clear c0 c1 c2 c3 c4 c5 c6
  replace lb := lb.next hb
  clear hb
  obtain ⟨_, c0, c1, c2, c3, c4, c5, c6⟩ := id lb
  go_wp2
  go_ret
  exact ⟨ret_bool HR.out, lb.1⟩

set_option maxHeartbeats 2000000 in
theorem il_a0 (mem ow : Int) (sv : Value) (zs : List Int) (wt ac : Int) (qa : Option Addr) (qc n : Nat) (f : Nat → Nat → Int) (w : World) (hs : Sl w sv zs) (hl : zs.length ≤ 1048576) (hq : Sr w (.slice qa n qc) 2 n f) (hn : n ≤ 1048576) (h1 : 0 ≤ mem ∧ mem ≤ 1000000) (h2 : ow = 0) (h3 : Ids.ok zs = true) (h5 : wt = 0) (h6 : ¬ ac = 0) : Calls Tryz.prog 21 #[.agg (ln7 mem ow sv 0 wt ac (.slice qa n qc))] w fun e w' => e = .returned (.bool (lineB mem ow zs 0 wt ac n f)) ∧ Below w.heap.size w w' := by
  have lb := lb_box w mem ow sv 0 wt ac (.slice qa n qc) 31
  have HR : Hid (false = lineB mem ow zs 0 wt ac n f) := hide (lineB_no fun ⟨_, _, _, h'⟩ => by rcases h' with h' | h' <;> omega)
  go_enter Tryz.func21, Tryz.ntmps21
  have e6 : (ac == 0) = false := by simp [h6]
  clear h6
  subst h5
  have e1 := inB_yes h1.1 h1.2
  clear h1
  subst h2
  go_wp2_with fail
  refine (isValue_any _ _).mono ?_
  rintro e w1 ⟨rfl, rfl⟩
  rw [e1]
  go_wp2_with fail
  refine (implIdsOk_any sv zs _ (hs.below lb.1) hl).mono ?_
  rintro e w1 ⟨rfl, rfl⟩
  rw [h3]
  obtain ⟨_, c0, c1, c2, c3, c4, c5, c6⟩ := id lb
  go_wp2_with fail
  refine (isBusy_any _ _ _ _ _ _ _ _).mono ?_
  rintro e w2 ⟨rfl, hb⟩
  clear c0 c1 c2 c3 c4 c5 c6
  replace lb := lb.next hb
  clear hb
  obtain ⟨_, c0, c1, c2, c3, c4, c5, c6⟩ := id lb
  go_wp2
  go_ret
  exact ⟨ret_bool HR.out, lb.1⟩

set_option maxHeartbeats 2000000 in
theorem il_n0 (mem ow : Int) (sv : Value) (zs : List Int) (wt ac : Int) (qa : Option Addr) (qc n : Nat) (f : Nat → Nat → Int) (w : World) (hs : Sl w sv zs) (hl : zs.length ≤ 1048576) (hq : Sr w (.slice qa n qc) 2 n f) (hn : n ≤ 1048576) (h1 : 0 ≤ mem ∧ mem ≤ 1000000) (h2 : ow = 0) (h3 : Ids.ok zs = true) (h5 : wt = 0) (h6 : ac = 0) (h7 : ¬ n = 0) : Calls Tryz.prog 21 #[.agg (ln7 mem ow sv 0 wt ac (.slice qa n qc))] w fun e w' => e = .returned (.bool (lineB mem ow zs 0 wt ac n f)) ∧ Below w.heap.size w w' := by
  have lb := lb_box w mem ow sv 0 wt ac (.slice qa n qc) 31
  have HR : Hid (false = lineB mem ow zs 0 wt ac n f) := hide (lineB_no fun ⟨_, _, _, h'⟩ => by rcases h' with h' | h' <;> omega)
  go_enter Tryz.func21, Tryz.ntmps21
  have e7 : ((n : Int) == 0) = false := by simp [h7]
  clear h7
  subst h5 h6
  have e1 := inB_yes h1.1 h1.2
  clear h1
  subst h2
  go_wp2_with fail
  refine (isValue_any _ _).mono ?_
  rintro e w1 ⟨rfl, rfl⟩
  rw [e1]
  go_wp2_with fail
  refine (implIdsOk_any sv zs _ (hs.below lb.1) hl).mono ?_
  rintro e w1 ⟨rfl, rfl⟩
  rw [h3]
  obtain ⟨_, c0, c1, c2, c3, c4, c5, c6⟩ := id lb
  go_wp2_with fail
  refine (isBusy_any _ _ _ _ _ _ _ _).mono ?_
  rintro e w2 ⟨rfl, hb⟩
  clear c0 c1 c2 c3 c4 c5 c6
  replace lb := lb.next hb
  clear hb
  obtain ⟨_, c0, c1, c2, c3, c4, c5, c6⟩ := id lb
  go_wp2
  go_ret
  exact ⟨ret_bool HR.out, lb.1⟩

set_option maxHeartbeats 2000000 in
theorem il_y0 (mem ow : Int) (sv : Value) (zs : List Int) (wt ac : Int) (qa : Option Addr) (qc n : Nat) (f : Nat → Nat → Int) (w : World) (hs : Sl w sv zs) (hl : zs.length ≤ 1048576) (hq : Sr w (.slice qa n qc) 2 n f) (hn : n ≤ 1048576) (h1 : 0 ≤ mem ∧ mem ≤ 1000000) (h2 : ow = 0) (h3 : Ids.ok zs = true) (h5 : wt = 0) (h6 : ac = 0) (h7 : n = 0) : Calls Tryz.prog 21 #[.agg (ln7 mem ow sv 0 wt ac (.slice qa n qc))] w fun e w' => e = .returned (.bool (lineB mem ow zs 0 wt ac n f)) ∧ Below w.heap.size w w' := by
  have lb := lb_box w mem ow sv 0 wt ac (.slice qa n qc) 31
  have HR : Hid (true = lineB mem ow zs 0 wt ac n f) := hide (lineB_yes ⟨h1, by omega, h3, .inl ⟨rfl, h5, h6, h7⟩⟩)
  go_enter Tryz.func21, Tryz.ntmps21
  subst h5 h6 h7
  have e1 := inB_yes h1.1 h1.2
  clear h1
  subst h2
  go_wp2_with fail
  refine (isValue_any _ _).mono ?_
  rintro e w1 ⟨rfl, rfl⟩
  rw [e1]
  go_wp2_with fail
  refine (implIdsOk_any sv zs _ (hs.below lb.1) hl).mono ?_
  rintro e w1 ⟨rfl, rfl⟩
  rw [h3]
  obtain ⟨_, c0, c1, c2, c3, c4, c5, c6⟩ := id lb
  go_wp2_with fail
  refine (isBusy_any _ _ _ _ _ _ _ _).mono ?_
  rintro e w2 ⟨rfl, hb⟩
  clear c0 c1 c2 c3 c4 c5 c6
  replace lb := lb.next hb
  clear hb
  obtain ⟨_, c0, c1, c2, c3, c4, c5, c6⟩ := id lb
  go_wp2
  go_ret
  exact ⟨ret_bool HR.out, lb.1⟩

set_option maxHeartbeats 2000000 in
theorem il_ic (mem ow : Int) (sv : Value) (zs : List Int) (bu wt ac : Int) (qa : Option Addr) (qc n : Nat) (f : Nat → Nat → Int) (w : World) (hs : Sl w sv zs) (hl : zs.length ≤ 1048576) (hq : Sr w (.slice qa n qc) 2 n f) (hn : n ≤ 1048576) (h1 : 0 ≤ mem ∧ mem ≤ 1000000) (h2 : 1 ≤ ow ∧ ow ≤ 5) (h3 : Ids.ok zs = false) : Calls Tryz.prog 21 #[.agg (ln7 mem ow sv bu wt ac (.slice qa n qc))] w fun e w' => e = .returned (.bool (lineB mem ow zs bu wt ac n f)) ∧ Below w.heap.size w w' := by
  have lb := lb_box w mem ow sv bu wt ac (.slice qa n qc) 31
  have HR : Hid (false = lineB mem ow zs bu wt ac n f) := hide (lineB_no fun ⟨_, _, h, _⟩ => by rw [h3] at h; cases h)
  go_enter Tryz.func21, Tryz.ntmps21
  have e1 := inB_yes h1.1 h1.2
  clear h1
  have e2 := inB_yes h2.1 h2.2
  have e0 : (ow != 0) = true := by simp; omega
  clear h2
  go_wp2_with fail
  refine (isValue_any _ _).mono ?_
  rintro e w1 ⟨rfl, rfl⟩
  rw [e1]
  go_wp2_with fail
  refine (isCore_any _ _).mono ?_
  rintro e w1 ⟨rfl, rfl⟩
  rw [e2]
  go_wp2_with fail
  refine (implIdsOk_any sv zs _ (hs.below lb.1) hl).mono ?_
  rintro e w1 ⟨rfl, rfl⟩
  rw [h3]
  go_wp2
  go_ret
  exact ⟨ret_bool HR.out, lb.1⟩

set_option maxHeartbeats 2000000 in
theorem il_bc (mem ow : Int) (sv : Value) (zs : List Int) (bu wt ac : Int) (qa : Option Addr) (qc n : Nat) (f : Nat → Nat → Int) (w : World) (hs : Sl w sv zs) (hl : zs.length ≤ 1048576) (hq : Sr w (.slice qa n qc) 2 n f) (hn : n ≤ 1048576) (h1 : 0 ≤ mem ∧ mem ≤ 1000000) (h2 : 1 ≤ ow ∧ ow ≤ 5) (h3 : Ids.ok zs = true) (h4 : ¬ bu = 0) : Calls Tryz.prog 21 #[.agg (ln7 mem ow sv bu wt ac (.slice qa n qc))] w fun e w' => e = .returned (.bool (lineB mem ow zs bu wt ac n f)) ∧ Below w.heap.size w w' := by
  have lb := lb_box w mem ow sv bu wt ac (.slice qa n qc) 31
  have HR : Hid (busyB bu wt ac n f = lineB mem ow zs bu wt ac n f) := hide (by
    by_cases h : busyP bu wt ac n f
    · rw [← busyB_yes h]; exact lineB_yes ⟨h1, by omega, h3, .inr h⟩
    · rw [← busyB_no h]; exact lineB_no fun ⟨_, _, _, h'⟩ => by
        rcases h' with h' | h'
        · exact h4 h'.1
        · exact h h')
  have e4 : (bu != 0) = true := by simp [h4]
  clear h4
  have hbo := fun w hq => busyOk_any mem ow sv bu wt ac qa qc n f w hq hn
  generalize busyB bu wt ac n f = r at HR hbo
  go_enter Tryz.func21, Tryz.ntmps21
  have e1 := inB_yes h1.1 h1.2
  clear h1
  have e2 := inB_yes h2.1 h2.2
  have e0 : (ow != 0) = true := by simp; omega
  clear h2
  go_wp2_with fail
  refine (isValue_any _ _).mono ?_
  rintro e w1 ⟨rfl, rfl⟩
  rw [e1]
  go_wp2_with fail
  refine (isCore_any _ _).mono ?_
  rintro e w1 ⟨rfl, rfl⟩
  rw [e2]
  go_wp2_with fail
  refine (implIdsOk_any sv zs _ (hs.below lb.1) hl).mono ?_
  rintro e w1 ⟨rfl, rfl⟩
  rw [h3]
  obtain ⟨_, c0, c1, c2, c3, c4, c5, c6⟩ := id lb
  go_wp2_with fail
  refine (isBusy_any _ _ _ _ _ _ _ _).mono ?_
  rintro e w2 ⟨rfl, hb⟩
  clear c0 c1 c2 c3 c4 c5 c6
  replace lb := lb.next hb
  clear hb
  obtain ⟨_, c0, c1, c2, c3, c4, c5, c6⟩ := id lb
  rw [e4]
  go_wp2_with fail
  refine (hbo _ (hq.below lb.1)).mono ?_
  rintro e w3 ⟨rfl, hb⟩
  clear c0 c1 c2 c3 c4 c5 c6
  replace lb := lb.next hb
  clear hb hbo
  go_wp2
  go_ret
  exact ⟨ret_bool HR.out, lb.1⟩

set_option maxHeartbeats 2000000 in
theorem il_wc (mem ow : Int) (sv : Value) (zs : List Int) (wt ac : Int) (qa : Option Addr) (qc n : Nat) (f : Nat → Nat → Int) (w : World) (hs : Sl w sv zs) (hl : zs.length ≤ 1048576) (hq : Sr w (.slice qa n qc) 2 n f) (hn : n ≤ 1048576) (h1 : 0 ≤ mem ∧ mem ≤ 1000000) (h2 : 1 ≤ ow ∧ ow ≤ 5) (h3 : Ids.ok zs = true) (h5 : ¬ wt = 0) : Calls Tryz.prog 21 #[.agg (ln7 mem ow sv 0 wt ac (.slice qa n qc))] w fun e w' => e = .returned (.bool (lineB mem ow zs 0 wt ac n f)) ∧ Below w.heap.size w w' := by
  have lb := lb_box w mem ow sv 0 wt ac (.slice qa n qc) 31
  have HR : Hid (false = lineB mem ow zs 0 wt ac n f) := hide (lineB_no fun ⟨_, _, _, h'⟩ => by rcases h' with h' | h' <;> omega)
  go_enter Tryz.func21, Tryz.ntmps21
  have e5 : (wt == 0) = false := by simp [h5]
  clear h5
  have e1 := inB_yes h1.1 h1.2
  clear h1
  have e2 := inB_yes h2.1 h2.2
  have e0 : (ow != 0) = true := by simp; omega
  clear h2
  go_wp2_with fail
  refine (isValue_any _ _).mono ?_
  rintro e w1 ⟨rfl, rfl⟩
  rw [e1]
  go_wp2_with fail
  refine (isCore_any _ _).mono ?_
  rintro e w1 ⟨rfl, rfl⟩
  rw [e2]
  go_wp2_with fail
  refine (implIdsOk_any sv zs _ (hs.below lb.1) hl).mono ?_
  rintro e w1 ⟨rfl, rfl⟩
  rw [h3]
  obtain ⟨_, c0, c1, c2, c3, c4, c5, c6⟩ := id lb
  go_wp2_with fail
  refine (isBusy_any _ _ _ _ _ _ _ _).mono ?_
  rintro e w2 ⟨rfl, hb⟩
  clear c0 c1 c2 c3 c4 c5 c6
  replace lb := lb.next hb
  clear hb
  obtain ⟨_, c0, c1, c2, c3, c4, c5, c6⟩ := id lb
  go_wp2
  go_ret
  exact ⟨ret_bool HR.out, lb.1⟩

set_option maxHeartbeats 2000000 in
theorem il_ac (mem ow : Int) (sv : Value) (zs : List Int) (wt ac : Int) (qa : Option Addr) (qc n : Nat) (f : Nat → Nat → Int) (w : World) (hs : Sl w sv zs) (hl : zs.length ≤ 1048576) (hq : Sr w (.slice qa n qc) 2 n f) (hn : n ≤ 1048576) (h1 : 0 ≤ mem ∧ mem ≤ 1000000) (h2 : 1 ≤ ow ∧ ow ≤ 5) (h3 : Ids.ok zs = true) (h5 : wt = 0) (h6 : ¬ ac = 0) : Calls Tryz.prog 21 #[.agg (ln7 mem ow sv 0 wt ac (.slice qa n qc))] w fun e w' => e = .returned (.bool (lineB mem ow zs 0 wt ac n f)) ∧ Below w.heap.size w w' := by
  have lb := lb_box w mem ow sv 0 wt ac (.slice qa n qc) 31
  have HR : Hid (false = lineB mem ow zs 0 wt ac n f) := hide (lineB_no fun ⟨_, _, _, h'⟩ => by rcases h' with h' | h' <;> omega)
  go_enter Tryz.func21, Tryz.ntmps21
  have e6 : (ac == 0) = false := by simp [h6]
  clear h6
  subst h5
  have e1 := inB_yes h1.1 h1.2
  clear h1
  have e2 := inB_yes h2.1 h2.2
  have e0 : (ow != 0) = true := by simp; omega
  clear h2
  go_wp2_with fail
  refine (isValue_any _ _).mono ?_
  rintro e w1 ⟨rfl, rfl⟩
  rw [e1]
  go_wp2_with fail
  refine (isCore_any _ _).mono ?_
  rintro e w1 ⟨rfl, rfl⟩
  rw [e2]
  go_wp2_with fail
  refine (implIdsOk_any sv zs _ (hs.below lb.1) hl).mono ?_
  rintro e w1 ⟨rfl, rfl⟩
  rw [h3]
  obtain ⟨_, c0, c1, c2, c3, c4, c5, c6⟩ := id lb
  go_wp2_with fail
  refine (isBusy_any _ _ _ _ _ _ _ _).mono ?_
  rintro e w2 ⟨rfl, hb⟩
  clear c0 c1 c2 c3 c4 c5 c6
  replace lb := lb.next hb
  clear hb
  obtain ⟨_, c0, c1, c2, c3, c4, c5, c6⟩ := id lb
  go_wp2
  go_ret
  exact ⟨ret_bool HR.out, lb.1⟩

set_option maxHeartbeats 2000000 in
theorem il_nc (mem ow : Int) (sv : Value) (zs : List Int) (wt ac : Int) (qa : Option Addr) (qc n : Nat) (f : Nat → Nat → Int) (w : World) (hs : Sl w sv zs) (hl : zs.length ≤ 1048576) (hq : Sr w (.slice qa n qc) 2 n f) (hn : n ≤ 1048576) (h1 : 0 ≤ mem ∧ mem ≤ 1000000) (h2 : 1 ≤ ow ∧ ow ≤ 5) (h3 : Ids.ok zs = true) (h5 : wt = 0) (h6 : ac = 0) (h7 : ¬ n = 0) : Calls Tryz.prog 21 #[.agg (ln7 mem ow sv 0 wt ac (.slice qa n qc))] w fun e w' => e = .returned (.bool (lineB mem ow zs 0 wt ac n f)) ∧ Below w.heap.size w w' := by
  have lb := lb_box w mem ow sv 0 wt ac (.slice qa n qc) 31
  have HR : Hid (false = lineB mem ow zs 0 wt ac n f) := hide (lineB_no fun ⟨_, _, _, h'⟩ => by rcases h' with h' | h' <;> omega)
  go_enter Tryz.func21, Tryz.ntmps21
  have e7 : ((n : Int) == 0) = false := by simp [h7]
  clear h7
  subst h5 h6
  have e1 := inB_yes h1.1 h1.2
  clear h1
  have e2 := inB_yes h2.1 h2.2
  have e0 : (ow != 0) = true := by simp; omega
  clear h2
  go_wp2_with fail
  refine (isValue_any _ _).mono ?_
  rintro e w1 ⟨rfl, rfl⟩
  rw [e1]
  go_wp2_with fail
  refine (isCore_any _ _).mono ?_
  rintro e w1 ⟨rfl, rfl⟩
  rw [e2]
  go_wp2_with fail
  refine (implIdsOk_any sv zs _ (hs.below lb.1) hl).mono ?_
  rintro e w1 ⟨rfl, rfl⟩
  rw [h3]
  obtain ⟨_, c0, c1, c2, c3, c4, c5, c6⟩ := id lb
  go_wp2_with fail
  refine (isBusy_any _ _ _ _ _ _ _ _).mono ?_
  rintro e w2 ⟨rfl, hb⟩
  clear c0 c1 c2 c3 c4 c5 c6
  replace lb := lb.next hb
  clear hb
  obtain ⟨_, c0, c1, c2, c3, c4, c5, c6⟩ := id lb
  go_wp2
  go_ret
  exact ⟨ret_bool HR.out, lb.1⟩

set_option maxHeartbeats 2000000 in
theorem il_yc (mem ow : Int) (sv : Value) (zs : List Int) (wt ac : Int) (qa : Option Addr) (qc n : Nat) (f : Nat → Nat → Int) (w : World) (hs : Sl w sv zs) (hl : zs.length ≤ 1048576) (hq : Sr w (.slice qa n qc) 2 n f) (hn : n ≤ 1048576) (h1 : 0 ≤ mem ∧ mem ≤ 1000000) (h2 : 1 ≤ ow ∧ ow ≤ 5) (h3 : Ids.ok zs = true) (h5 : wt = 0) (h6 : ac = 0) (h7 : n = 0) : Calls Tryz.prog 21 #[.agg (ln7 mem ow sv 0 wt ac (.slice qa n qc))] w fun e w' => e = .returned (.bool (lineB mem ow zs 0 wt ac n f)) ∧ Below w.heap.size w w' := by
  have lb := lb_box w mem ow sv 0 wt ac (.slice qa n qc) 31
  have HR : Hid (true = lineB mem ow zs 0 wt ac n f) := hide (lineB_yes ⟨h1, by omega, h3, .inl ⟨rfl, h5, h6, h7⟩⟩)
  go_enter Tryz.func21, Tryz.ntmps21
  subst h5 h6 h7
  have e1 := inB_yes h1.1 h1.2
  clear h1
  have e2 := inB_yes h2.1 h2.2
  have e0 : (ow != 0) = true := by simp; omega
  clear h2
  go_wp2_with fail
  refine (isValue_any _ _).mono ?_
  rintro e w1 ⟨rfl, rfl⟩
  rw [e1]
  go_wp2_with fail
  refine (isCore_any _ _).mono ?_
  rintro e w1 ⟨rfl, rfl⟩
  rw [e2]
  go_wp2_with fail
  refine (implIdsOk_any sv zs _ (hs.below lb.1) hl).mono ?_
  rintro e w1 ⟨rfl, rfl⟩
  rw [h3]
  obtain ⟨_, c0, c1, c2, c3, c4, c5, c6⟩ := id lb
  go_wp2_with fail
  refine (isBusy_any _ _ _ _ _ _ _ _).mono ?_
  rintro e w2 ⟨rfl, hb⟩
  clear c0 c1 c2 c3 c4 c5 c6
  replace lb := lb.next hb
  clear hb
  obtain ⟨_, c0, c1, c2, c3, c4, c5, c6⟩ := id lb
  go_wp2
  go_ret
  exact ⟨ret_bool HR.out, lb.1⟩

theorem implLineOk_any (mem ow : Int) (sv : Value) (zs : List Int) (bu wt ac : Int) (qa : Option Addr) (qc n : Nat) (f : Nat → Nat → Int) (w : World) (hs : Sl w sv zs) (hl : zs.length ≤ 1048576) (hq : Sr w (.slice qa n qc) 2 n f) (hn : n ≤ 1048576) : Calls Tryz.prog 21 #[.agg (ln7 mem ow sv bu wt ac (.slice qa n qc))] w fun e w' => e = .returned (.bool (lineB mem ow zs bu wt ac n f)) ∧ Below w.heap.size w w' := by
  by_cases h1 : 0 ≤ mem ∧ mem ≤ 1000000
  · by_cases h2 : 0 ≤ ow ∧ ow ≤ 5
    · cases h3 : Ids.ok zs with
      | false =>
        by_cases h0 : ow = 0
        · exact il_i0 mem ow sv zs bu wt ac qa qc n f w hs hl hq hn h1 h0 h3
        · exact il_ic mem ow sv zs bu wt ac qa qc n f w hs hl hq hn h1 (by omega) h3
      | true =>
        by_cases h4 : bu = 0
        · subst h4
          by_cases h5 : wt = 0
          · by_cases h6 : ac = 0
            · by_cases h7 : n = 0
              · by_cases h0 : ow = 0
                · exact il_y0 mem ow sv zs wt ac qa qc n f w hs hl hq hn h1 h0 h3 h5 h6 h7
                · exact il_yc mem ow sv zs wt ac qa qc n f w hs hl hq hn h1 (by omega) h3 h5 h6 h7
              · by_cases h0 : ow = 0
                · exact il_n0 mem ow sv zs wt ac qa qc n f w hs hl hq hn h1 h0 h3 h5 h6 h7
                · exact il_nc mem ow sv zs wt ac qa qc n f w hs hl hq hn h1 (by omega) h3 h5 h6 h7
            · by_cases h0 : ow = 0
              · exact il_a0 mem ow sv zs wt ac qa qc n f w hs hl hq hn h1 h0 h3 h5 h6
              · exact il_ac mem ow sv zs wt ac qa qc n f w hs hl hq hn h1 (by omega) h3 h5 h6
          · by_cases h0 : ow = 0
            · exact il_w0 mem ow sv zs wt ac qa qc n f w hs hl hq hn h1 h0 h3 h5
            · exact il_wc mem ow sv zs wt ac qa qc n f w hs hl hq hn h1 (by omega) h3 h5
        · by_cases h0 : ow = 0
          · exact il_b0 mem ow sv zs bu wt ac qa qc n f w hs hl hq hn h1 h0 h3 h4
          · exact il_bc mem ow sv zs bu wt ac qa qc n f w hs hl hq hn h1 (by omega) h3 h4
    · exact il_o mem ow sv zs bu wt ac qa qc n f w hs hl hq hn h1 h2
  · exact il_m mem ow sv zs bu wt ac qa qc n f w hs hl hq hn h1

end Go.Proofs.YtlalldlbgnlbjaaGreatDoor
