/- LqD -/
import Derived.Test.YtlalldlbgnlbjaaGreatDoorYomeGot19
/- spec.LineOk by the same answer (written by mkLqD.py) -/
namespace Go.Proofs.YtlalldlbgnlbjaaGreatDoor
open Go.RowKit
set_option linter.unusedVariables false
set_option linter.unusedSimpArgs false

set_option maxHeartbeats 2000000 in
theorem sl_1 (mem ow : Int) (sv : Value) (zs : List Int) (bu wt ac : Int) (qa : Option Addr) (qc n : Nat) (f : Nat → Nat → Int) (w : World) (hs : Sl w sv zs) (hl : zs.length ≤ 1048576) (hq : Sr w (.slice qa n qc) 2 n f) (hn : n ≤ 1048576) (h1 : ¬ (0 ≤ mem ∧ mem ≤ 1000000)) : Calls Tryz.prog 24 #[.agg (ln7 mem ow sv bu wt ac (.slice qa n qc))] w fun e w' => e = .returned (.bool (lineB mem ow zs bu wt ac n f)) ∧ Below w.heap.size w w' := by
  have lb := lb_box w mem ow sv bu wt ac (.slice qa n qc) 31
  have HR : Hid (false = lineB mem ow zs bu wt ac n f) := hide (lineB_no fun ⟨h, _⟩ => h1 h)
  have e1 := inB_no h1
  clear h1
  go_enter Tryz.func24, Tryz.ntmps24
  go_wp2_with fail
  refine (in_any _ _ _ _).mono ?_
  rintro e w1 ⟨rfl, rfl⟩
  rw [e1]
  go_wp2
  go_ret
  exact ⟨ret_bool HR.out, lb.1⟩

set_option maxHeartbeats 2000000 in
theorem sl_2 (mem ow : Int) (sv : Value) (zs : List Int) (bu wt ac : Int) (qa : Option Addr) (qc n : Nat) (f : Nat → Nat → Int) (w : World) (hs : Sl w sv zs) (hl : zs.length ≤ 1048576) (hq : Sr w (.slice qa n qc) 2 n f) (hn : n ≤ 1048576) (h1 : 0 ≤ mem ∧ mem ≤ 1000000) (h2 : ¬ (0 ≤ ow ∧ ow ≤ 5)) : Calls Tryz.prog 24 #[.agg (ln7 mem ow sv bu wt ac (.slice qa n qc))] w fun e w' => e = .returned (.bool (lineB mem ow zs bu wt ac n f)) ∧ Below w.heap.size w w' := by
  have lb := lb_box w mem ow sv bu wt ac (.slice qa n qc) 31
  have HR : Hid (false = lineB mem ow zs bu wt ac n f) := hide (lineB_no fun ⟨_, h, _⟩ => h2 h)
  have e1 := inB_yes h1.1 h1.2
  have e2 := inB_no h2
  clear h1 h2
  go_enter Tryz.func24, Tryz.ntmps24
  go_wp2_with fail
  refine (in_any _ _ _ _).mono ?_
  rintro e w1 ⟨rfl, rfl⟩
  rw [e1]
  go_wp2_with fail
  refine (in_any _ _ _ _).mono ?_
  rintro e w1 ⟨rfl, rfl⟩
  rw [e2]
  go_wp2
  go_ret
  exact ⟨ret_bool HR.out, lb.1⟩

set_option maxHeartbeats 2000000 in
theorem sl_3 (mem ow : Int) (sv : Value) (zs : List Int) (bu wt ac : Int) (qa : Option Addr) (qc n : Nat) (f : Nat → Nat → Int) (w : World) (hs : Sl w sv zs) (hl : zs.length ≤ 1048576) (hq : Sr w (.slice qa n qc) 2 n f) (hn : n ≤ 1048576) (h1 : 0 ≤ mem ∧ mem ≤ 1000000) (h2 : 0 ≤ ow ∧ ow ≤ 5) (h3 : Ids.ok zs = false) : Calls Tryz.prog 24 #[.agg (ln7 mem ow sv bu wt ac (.slice qa n qc))] w fun e w' => e = .returned (.bool (lineB mem ow zs bu wt ac n f)) ∧ Below w.heap.size w w' := by
  have lb := lb_box w mem ow sv bu wt ac (.slice qa n qc) 31
  have HR : Hid (false = lineB mem ow zs bu wt ac n f) := hide (lineB_no fun ⟨_, _, h, _⟩ => by rw [h3] at h; cases h)
  have e1 := inB_yes h1.1 h1.2
  have e2 := inB_yes h2.1 h2.2
  clear h1 h2
  go_enter Tryz.func24, Tryz.ntmps24
  go_wp2_with fail
  refine (in_any _ _ _ _).mono ?_
  rintro e w1 ⟨rfl, rfl⟩
  rw [e1]
  go_wp2_with fail
  refine (in_any _ _ _ _).mono ?_
  rintro e w1 ⟨rfl, rfl⟩
  rw [e2]
  go_wp2_with fail
  refine (specIdsOk_any sv zs _ (hs.below lb.1) hl).mono ?_
  rintro e w2 ⟨rfl, hb⟩
  rw [h3]
  replace lb := lb.next hb
  clear hb
  obtain ⟨_, c0, c1, c2, c3, c4, c5, c6⟩ := id lb
  go_wp2
  go_ret
  exact ⟨ret_bool HR.out, lb.1⟩

set_option maxHeartbeats 2000000 in
theorem sl_4 (mem ow : Int) (sv : Value) (zs : List Int) (bu wt ac : Int) (qa : Option Addr) (qc n : Nat) (f : Nat → Nat → Int) (w : World) (hs : Sl w sv zs) (hl : zs.length ≤ 1048576) (hq : Sr w (.slice qa n qc) 2 n f) (hn : n ≤ 1048576) (h1 : 0 ≤ mem ∧ mem ≤ 1000000) (h2 : 0 ≤ ow ∧ ow ≤ 5) (h3 : Ids.ok zs = true) (h4 : ¬ (0 ≤ bu ∧ bu ≤ 5)) : Calls Tryz.prog 24 #[.agg (ln7 mem ow sv bu wt ac (.slice qa n qc))] w fun e w' => e = .returned (.bool (lineB mem ow zs bu wt ac n f)) ∧ Below w.heap.size w w' := by
  have lb := lb_box w mem ow sv bu wt ac (.slice qa n qc) 31
  have HR : Hid (false = lineB mem ow zs bu wt ac n f) := hide (lineB_no fun ⟨_, _, _, h'⟩ => by rcases h' with h' | ⟨h', h'', h3', h4', _⟩ <;> omega)
  have e1 := inB_yes h1.1 h1.2
  have e2 := inB_yes h2.1 h2.2
  have e4 := inB_no h4
  clear h1 h2 h4
  go_enter Tryz.func24, Tryz.ntmps24
  go_wp2_with fail
  refine (in_any _ _ _ _).mono ?_
  rintro e w1 ⟨rfl, rfl⟩
  rw [e1]
  go_wp2_with fail
  refine (in_any _ _ _ _).mono ?_
  rintro e w1 ⟨rfl, rfl⟩
  rw [e2]
  go_wp2_with fail
  refine (specIdsOk_any sv zs _ (hs.below lb.1) hl).mono ?_
  rintro e w2 ⟨rfl, hb⟩
  rw [h3]
  replace lb := lb.next hb
  clear hb
  obtain ⟨_, c0, c1, c2, c3, c4, c5, c6⟩ := id lb
  go_wp2_with fail
  refine (in_any _ _ _ _).mono ?_
  rintro e w1 ⟨rfl, rfl⟩
  rw [e4]
  go_wp2
  go_ret
  exact ⟨ret_bool HR.out, lb.1⟩

set_option maxHeartbeats 2000000 in
theorem sl_5 (mem ow : Int) (sv : Value) (zs : List Int) (bu wt ac : Int) (qa : Option Addr) (qc n : Nat) (f : Nat → Nat → Int) (w : World) (hs : Sl w sv zs) (hl : zs.length ≤ 1048576) (hq : Sr w (.slice qa n qc) 2 n f) (hn : n ≤ 1048576) (h1 : 0 ≤ mem ∧ mem ≤ 1000000) (h2 : 0 ≤ ow ∧ ow ≤ 5) (h3 : Ids.ok zs = true) (h4 : 0 ≤ bu ∧ bu ≤ 5) (h5 : ¬ (0 ≤ wt ∧ wt ≤ 2)) : Calls Tryz.prog 24 #[.agg (ln7 mem ow sv bu wt ac (.slice qa n qc))] w fun e w' => e = .returned (.bool (lineB mem ow zs bu wt ac n f)) ∧ Below w.heap.size w w' := by
  have lb := lb_box w mem ow sv bu wt ac (.slice qa n qc) 31
  have HR : Hid (false = lineB mem ow zs bu wt ac n f) := hide (lineB_no fun ⟨_, _, _, h'⟩ => by rcases h' with h' | ⟨h', h'', h3', h4', _⟩ <;> omega)
  have e1 := inB_yes h1.1 h1.2
  have e2 := inB_yes h2.1 h2.2
  have e4 := inB_yes h4.1 h4.2
  have e5 := inB_no h5
  clear h1 h2 h4 h5
  go_enter Tryz.func24, Tryz.ntmps24
  go_wp2_with fail
  refine (in_any _ _ _ _).mono ?_
  rintro e w1 ⟨rfl, rfl⟩
  rw [e1]
  go_wp2_with fail
  refine (in_any _ _ _ _).mono ?_
  rintro e w1 ⟨rfl, rfl⟩
  rw [e2]
  go_wp2_with fail
  refine (specIdsOk_any sv zs _ (hs.below lb.1) hl).mono ?_
  rintro e w2 ⟨rfl, hb⟩
  rw [h3]
  replace lb := lb.next hb
  clear hb
  obtain ⟨_, c0, c1, c2, c3, c4, c5, c6⟩ := id lb
  go_wp2_with fail
  refine (in_any _ _ _ _).mono ?_
  rintro e w1 ⟨rfl, rfl⟩
  rw [e4]
  go_wp2_with fail
  refine (in_any _ _ _ _).mono ?_
  rintro e w1 ⟨rfl, rfl⟩
  rw [e5]
  go_wp2
  go_ret
  exact ⟨ret_bool HR.out, lb.1⟩

set_option maxHeartbeats 2000000 in
theorem sl_6 (mem ow : Int) (sv : Value) (zs : List Int) (bu wt ac : Int) (qa : Option Addr) (qc n : Nat) (f : Nat → Nat → Int) (w : World) (hs : Sl w sv zs) (hl : zs.length ≤ 1048576) (hq : Sr w (.slice qa n qc) 2 n f) (hn : n ≤ 1048576) (h1 : 0 ≤ mem ∧ mem ≤ 1000000) (h2 : 0 ≤ ow ∧ ow ≤ 5) (h3 : Ids.ok zs = true) (h4 : 0 ≤ bu ∧ bu ≤ 5) (h5 : 0 ≤ wt ∧ wt ≤ 2) (h6 : ¬ (0 ≤ ac ∧ ac ≤ 5)) : Calls Tryz.prog 24 #[.agg (ln7 mem ow sv bu wt ac (.slice qa n qc))] w fun e w' => e = .returned (.bool (lineB mem ow zs bu wt ac n f)) ∧ Below w.heap.size w w' := by
  have lb := lb_box w mem ow sv bu wt ac (.slice qa n qc) 31
  have HR : Hid (false = lineB mem ow zs bu wt ac n f) := hide (lineB_no fun ⟨_, _, _, h'⟩ => by rcases h' with h' | ⟨h', h'', h3', h4', _⟩ <;> omega)
  have e1 := inB_yes h1.1 h1.2
  have e2 := inB_yes h2.1 h2.2
  have e4 := inB_yes h4.1 h4.2
  have e5 := inB_yes h5.1 h5.2
  have e6 := inB_no h6
  clear h1 h2 h4 h5 h6
  go_enter Tryz.func24, Tryz.ntmps24
  go_wp2_with fail
  refine (in_any _ _ _ _).mono ?_
  rintro e w1 ⟨rfl, rfl⟩
  rw [e1]
  go_wp2_with fail
  refine (in_any _ _ _ _).mono ?_
  rintro e w1 ⟨rfl, rfl⟩
  rw [e2]
  go_wp2_with fail
  refine (specIdsOk_any sv zs _ (hs.below lb.1) hl).mono ?_
  rintro e w2 ⟨rfl, hb⟩
  rw [h3]
  replace lb := lb.next hb
  clear hb
  obtain ⟨_, c0, c1, c2, c3, c4, c5, c6⟩ := id lb
  go_wp2_with fail
  refine (in_any _ _ _ _).mono ?_
  rintro e w1 ⟨rfl, rfl⟩
  rw [e4]
  go_wp2_with fail
  refine (in_any _ _ _ _).mono ?_
  rintro e w1 ⟨rfl, rfl⟩
  rw [e5]
  go_wp2_with fail
  refine (in_any _ _ _ _).mono ?_
  rintro e w1 ⟨rfl, rfl⟩
  rw [e6]
  go_wp2
  go_ret
  exact ⟨ret_bool HR.out, lb.1⟩

set_option maxHeartbeats 2000000 in
theorem sl_7 (mem ow : Int) (sv : Value) (zs : List Int) (bu wt ac : Int) (qa : Option Addr) (qc n : Nat) (f : Nat → Nat → Int) (w : World) (hs : Sl w sv zs) (hl : zs.length ≤ 1048576) (hq : Sr w (.slice qa n qc) 2 n f) (hn : n ≤ 1048576) (h1 : 0 ≤ mem ∧ mem ≤ 1000000) (h2 : 0 ≤ ow ∧ ow ≤ 5) (h3 : Ids.ok zs = true) (h4 : 0 ≤ bu ∧ bu ≤ 5) (h5 : 0 ≤ wt ∧ wt ≤ 2) (h6 : 0 ≤ ac ∧ ac ≤ 5) (h7 : ¬ n ≤ 10) : Calls Tryz.prog 24 #[.agg (ln7 mem ow sv bu wt ac (.slice qa n qc))] w fun e w' => e = .returned (.bool (lineB mem ow zs bu wt ac n f)) ∧ Below w.heap.size w w' := by
  have lb := lb_box w mem ow sv bu wt ac (.slice qa n qc) 31
  have HR : Hid (false = lineB mem ow zs bu wt ac n f) := hide (lineB_no fun ⟨_, _, _, h'⟩ => by rcases h' with h' | ⟨h', h'', h3', h4', _⟩ <;> omega)
  have e1 := inB_yes h1.1 h1.2
  have e2 := inB_yes h2.1 h2.2
  have e4 := inB_yes h4.1 h4.2
  have e5 := inB_yes h5.1 h5.2
  have e6 := inB_yes h6.1 h6.2
  have e7 : decide ((10 : Int) < (n : Int)) = true := by simp; omega
  clear h1 h2 h4 h5 h6 h7
  go_enter Tryz.func24, Tryz.ntmps24
  go_wp2_with fail
  refine (in_any _ _ _ _).mono ?_
  rintro e w1 ⟨rfl, rfl⟩
  rw [e1]
  go_wp2_with fail
  refine (in_any _ _ _ _).mono ?_
  rintro e w1 ⟨rfl, rfl⟩
  rw [e2]
  go_wp2_with fail
  refine (specIdsOk_any sv zs _ (hs.below lb.1) hl).mono ?_
  rintro e w2 ⟨rfl, hb⟩
  rw [h3]
  replace lb := lb.next hb
  clear hb
  obtain ⟨_, c0, c1, c2, c3, c4, c5, c6⟩ := id lb
  go_wp2_with fail
  refine (in_any _ _ _ _).mono ?_
  rintro e w1 ⟨rfl, rfl⟩
  rw [e4]
  go_wp2_with fail
  refine (in_any _ _ _ _).mono ?_
  rintro e w1 ⟨rfl, rfl⟩
  rw [e5]
  go_wp2_with fail
  refine (in_any _ _ _ _).mono ?_
  rintro e w1 ⟨rfl, rfl⟩
  rw [e6]
  go_wp2
  go_ret
  exact ⟨ret_bool HR.out, lb.1⟩

set_option maxHeartbeats 2000000 in
theorem sl_8 (mem ow : Int) (sv : Value) (zs : List Int) (bu wt ac : Int) (qa : Option Addr) (qc n : Nat) (f : Nat → Nat → Int) (w : World) (hs : Sl w sv zs) (hl : zs.length ≤ 1048576) (hq : Sr w (.slice qa n qc) 2 n f) (hn : n ≤ 1048576) (h1 : 0 ≤ mem ∧ mem ≤ 1000000) (h2 : 0 ≤ ow ∧ ow ≤ 5) (h3 : Ids.ok zs = true) (h4 : 0 ≤ bu ∧ bu ≤ 5) (h5 : 0 ≤ wt ∧ wt ≤ 2) (h6 : 0 ≤ ac ∧ ac ≤ 5) (h7 : n ≤ 10) (h8 : bu = 0) (h9 : ¬ wt = 0) : Calls Tryz.prog 24 #[.agg (ln7 mem ow sv bu wt ac (.slice qa n qc))] w fun e w' => e = .returned (.bool (lineB mem ow zs bu wt ac n f)) ∧ Below w.heap.size w w' := by
  have lb := lb_box w mem ow sv bu wt ac (.slice qa n qc) 31
  have HR : Hid (false = lineB mem ow zs bu wt ac n f) := hide (lineB_no fun ⟨_, _, _, h'⟩ => by rcases h' with h' | ⟨h', h'', h3', h4', _⟩ <;> omega)
  have e1 := inB_yes h1.1 h1.2
  have e2 := inB_yes h2.1 h2.2
  have e4 := inB_yes h4.1 h4.2
  have e5 := inB_yes h5.1 h5.2
  have e6 := inB_yes h6.1 h6.2
  have e7 : decide ((10 : Int) < (n : Int)) = false := by simp; omega
  have e8 : (bu != 0) = false := by simp; omega
  have e9 : (wt != 0) = true := by simp; omega
  clear h1 h2 h4 h5 h6 h7 h8 h9
  go_enter Tryz.func24, Tryz.ntmps24
  go_wp2_with fail
  refine (in_any _ _ _ _).mono ?_
  rintro e w1 ⟨rfl, rfl⟩
  rw [e1]
  go_wp2_with fail
  refine (in_any _ _ _ _).mono ?_
  rintro e w1 ⟨rfl, rfl⟩
  rw [e2]
  go_wp2_with fail
  refine (specIdsOk_any sv zs _ (hs.below lb.1) hl).mono ?_
  rintro e w2 ⟨rfl, hb⟩
  rw [h3]
  replace lb := lb.next hb
  clear hb
  obtain ⟨_, c0, c1, c2, c3, c4, c5, c6⟩ := id lb
  go_wp2_with fail
  refine (in_any _ _ _ _).mono ?_
  rintro e w1 ⟨rfl, rfl⟩
  rw [e4]
  go_wp2_with fail
  refine (in_any _ _ _ _).mono ?_
  rintro e w1 ⟨rfl, rfl⟩
  rw [e5]
  go_wp2_with fail
  refine (in_any _ _ _ _).mono ?_
  rintro e w1 ⟨rfl, rfl⟩
  rw [e6]
  go_wp2
  go_ret
  exact ⟨ret_bool HR.out, lb.1⟩

set_option maxHeartbeats 2000000 in
theorem sl_9 (mem ow : Int) (sv : Value) (zs : List Int) (bu wt ac : Int) (qa : Option Addr) (qc n : Nat) (f : Nat → Nat → Int) (w : World) (hs : Sl w sv zs) (hl : zs.length ≤ 1048576) (hq : Sr w (.slice qa n qc) 2 n f) (hn : n ≤ 1048576) (h1 : 0 ≤ mem ∧ mem ≤ 1000000) (h2 : 0 ≤ ow ∧ ow ≤ 5) (h3 : Ids.ok zs = true) (h4 : 0 ≤ bu ∧ bu ≤ 5) (h5 : 0 ≤ wt ∧ wt ≤ 2) (h6 : 0 ≤ ac ∧ ac ≤ 5) (h7 : n ≤ 10) (h8 : ¬ bu = 0) (h9 : wt = 0) : Calls Tryz.prog 24 #[.agg (ln7 mem ow sv bu wt ac (.slice qa n qc))] w fun e w' => e = .returned (.bool (lineB mem ow zs bu wt ac n f)) ∧ Below w.heap.size w w' := by
  have lb := lb_box w mem ow sv bu wt ac (.slice qa n qc) 31
  have HR : Hid (false = lineB mem ow zs bu wt ac n f) := hide (lineB_no fun ⟨_, _, _, h'⟩ => by rcases h' with h' | ⟨h', h'', h3', h4', _⟩ <;> omega)
  have e1 := inB_yes h1.1 h1.2
  have e2 := inB_yes h2.1 h2.2
  have e4 := inB_yes h4.1 h4.2
  have e5 := inB_yes h5.1 h5.2
  have e6 := inB_yes h6.1 h6.2
  have e7 : decide ((10 : Int) < (n : Int)) = false := by simp; omega
  have e8 : (bu != 0) = true := by simp; omega
  have e9 : (wt != 0) = false := by simp; omega
  clear h1 h2 h4 h5 h6 h7 h8 h9
  go_enter Tryz.func24, Tryz.ntmps24
  go_wp2_with fail
  refine (in_any _ _ _ _).mono ?_
  rintro e w1 ⟨rfl, rfl⟩
  rw [e1]
  go_wp2_with fail
  refine (in_any _ _ _ _).mono ?_
  rintro e w1 ⟨rfl, rfl⟩
  rw [e2]
  go_wp2_with fail
  refine (specIdsOk_any sv zs _ (hs.below lb.1) hl).mono ?_
  rintro e w2 ⟨rfl, hb⟩
  rw [h3]
  replace lb := lb.next hb
  clear hb
  obtain ⟨_, c0, c1, c2, c3, c4, c5, c6⟩ := id lb
  go_wp2_with fail
  refine (in_any _ _ _ _).mono ?_
  rintro e w1 ⟨rfl, rfl⟩
  rw [e4]
  go_wp2_with fail
  refine (in_any _ _ _ _).mono ?_
  rintro e w1 ⟨rfl, rfl⟩
  rw [e5]
  go_wp2_with fail
  refine (in_any _ _ _ _).mono ?_
  rintro e w1 ⟨rfl, rfl⟩
  rw [e6]
  go_wp2
  go_ret
  exact ⟨ret_bool HR.out, lb.1⟩

set_option maxHeartbeats 2000000 in
theorem sl_10 (mem ow : Int) (sv : Value) (zs : List Int) (bu wt ac : Int) (qa : Option Addr) (qc n : Nat) (f : Nat → Nat → Int) (w : World) (hs : Sl w sv zs) (hl : zs.length ≤ 1048576) (hq : Sr w (.slice qa n qc) 2 n f) (hn : n ≤ 1048576) (h1 : 0 ≤ mem ∧ mem ≤ 1000000) (h2 : 0 ≤ ow ∧ ow ≤ 5) (h3 : Ids.ok zs = true) (h4 : 0 ≤ bu ∧ bu ≤ 5) (h5 : 0 ≤ wt ∧ wt ≤ 2) (h6 : 0 ≤ ac ∧ ac ≤ 5) (h7 : n ≤ 10) (h8 : bu = 0) (h9 : wt = 0) (h10 : ¬ ac = 0) : Calls Tryz.prog 24 #[.agg (ln7 mem ow sv bu wt ac (.slice qa n qc))] w fun e w' => e = .returned (.bool (lineB mem ow zs bu wt ac n f)) ∧ Below w.heap.size w w' := by
  have lb := lb_box w mem ow sv bu wt ac (.slice qa n qc) 31
  have HR : Hid (false = lineB mem ow zs bu wt ac n f) := hide (lineB_no fun ⟨_, _, _, h'⟩ => by rcases h' with h' | ⟨h', h'', h3', h4', _⟩ <;> omega)
  have e1 := inB_yes h1.1 h1.2
  have e2 := inB_yes h2.1 h2.2
  have e4 := inB_yes h4.1 h4.2
  have e5 := inB_yes h5.1 h5.2
  have e6 := inB_yes h6.1 h6.2
  have e7 : decide ((10 : Int) < (n : Int)) = false := by simp; omega
  have e8 : (bu != 0) = false := by simp; omega
  have e9 : (wt != 0) = false := by simp; omega
  have e10 : decide (0 < ac) = true := by simp; omega
  clear h1 h2 h4 h5 h6 h7 h8 h9 h10
  go_enter Tryz.func24, Tryz.ntmps24
  go_wp2_with fail
  refine (in_any _ _ _ _).mono ?_
  rintro e w1 ⟨rfl, rfl⟩
  rw [e1]
  go_wp2_with fail
  refine (in_any _ _ _ _).mono ?_
  rintro e w1 ⟨rfl, rfl⟩
  rw [e2]
  go_wp2_with fail
  refine (specIdsOk_any sv zs _ (hs.below lb.1) hl).mono ?_
  rintro e w2 ⟨rfl, hb⟩
  rw [h3]
  replace lb := lb.next hb
  clear hb
  obtain ⟨_, c0, c1, c2, c3, c4, c5, c6⟩ := id lb
  go_wp2_with fail
  refine (in_any _ _ _ _).mono ?_
  rintro e w1 ⟨rfl, rfl⟩
  rw [e4]
  go_wp2_with fail
  refine (in_any _ _ _ _).mono ?_
  rintro e w1 ⟨rfl, rfl⟩
  rw [e5]
  go_wp2_with fail
  refine (in_any _ _ _ _).mono ?_
  rintro e w1 ⟨rfl, rfl⟩
  rw [e6]
  go_wp2
  go_ret
  exact ⟨ret_bool HR.out, lb.1⟩

set_option maxHeartbeats 2000000 in
theorem sl_11 (mem ow : Int) (sv : Value) (zs : List Int) (bu wt ac : Int) (qa : Option Addr) (qc n : Nat) (f : Nat → Nat → Int) (w : World) (hs : Sl w sv zs) (hl : zs.length ≤ 1048576) (hq : Sr w (.slice qa n qc) 2 n f) (hn : n ≤ 1048576) (h1 : 0 ≤ mem ∧ mem ≤ 1000000) (h2 : 0 ≤ ow ∧ ow ≤ 5) (h3 : Ids.ok zs = true) (h4 : 0 ≤ bu ∧ bu ≤ 5) (h5 : 0 ≤ wt ∧ wt ≤ 2) (h6 : 0 ≤ ac ∧ ac ≤ 5) (h7 : n ≤ 10) (h8 : ¬ bu = 0) (h9 : ¬ wt = 0) (h10 : ac = 0) : Calls Tryz.prog 24 #[.agg (ln7 mem ow sv bu wt ac (.slice qa n qc))] w fun e w' => e = .returned (.bool (lineB mem ow zs bu wt ac n f)) ∧ Below w.heap.size w w' := by
  have lb := lb_box w mem ow sv bu wt ac (.slice qa n qc) 31
  have HR : Hid (false = lineB mem ow zs bu wt ac n f) := hide (lineB_no fun ⟨_, _, _, h'⟩ => by rcases h' with h' | ⟨h', h'', h3', h4', _⟩ <;> omega)
  have e1 := inB_yes h1.1 h1.2
  have e2 := inB_yes h2.1 h2.2
  have e4 := inB_yes h4.1 h4.2
  have e5 := inB_yes h5.1 h5.2
  have e6 := inB_yes h6.1 h6.2
  have e7 : decide ((10 : Int) < (n : Int)) = false := by simp; omega
  have e8 : (bu != 0) = true := by simp; omega
  have e9 : (wt != 0) = true := by simp; omega
  have e10 : decide (0 < ac) = false := by simp; omega
  clear h1 h2 h4 h5 h6 h7 h8 h9 h10
  go_enter Tryz.func24, Tryz.ntmps24
  go_wp2_with fail
  refine (in_any _ _ _ _).mono ?_
  rintro e w1 ⟨rfl, rfl⟩
  rw [e1]
  go_wp2_with fail
  refine (in_any _ _ _ _).mono ?_
  rintro e w1 ⟨rfl, rfl⟩
  rw [e2]
  go_wp2_with fail
  refine (specIdsOk_any sv zs _ (hs.below lb.1) hl).mono ?_
  rintro e w2 ⟨rfl, hb⟩
  rw [h3]
  replace lb := lb.next hb
  clear hb
  obtain ⟨_, c0, c1, c2, c3, c4, c5, c6⟩ := id lb
  go_wp2_with fail
  refine (in_any _ _ _ _).mono ?_
  rintro e w1 ⟨rfl, rfl⟩
  rw [e4]
  go_wp2_with fail
  refine (in_any _ _ _ _).mono ?_
  rintro e w1 ⟨rfl, rfl⟩
  rw [e5]
  go_wp2_with fail
  refine (in_any _ _ _ _).mono ?_
  rintro e w1 ⟨rfl, rfl⟩
  rw [e6]
  go_wp2
  go_ret
  exact ⟨ret_bool HR.out, lb.1⟩

set_option maxHeartbeats 2000000 in
theorem sl_12 (mem ow : Int) (sv : Value) (zs : List Int) (bu wt ac : Int) (qa : Option Addr) (qc n : Nat) (f : Nat → Nat → Int) (w : World) (hs : Sl w sv zs) (hl : zs.length ≤ 1048576) (hq : Sr w (.slice qa n qc) 2 n f) (hn : n ≤ 1048576) (h1 : 0 ≤ mem ∧ mem ≤ 1000000) (h2 : 0 ≤ ow ∧ ow ≤ 5) (h3 : Ids.ok zs = true) (h4 : 0 ≤ bu ∧ bu ≤ 5) (h5 : 0 ≤ wt ∧ wt ≤ 2) (h6 : 0 ≤ ac ∧ ac ≤ 5) (h7 : n ≤ 10) (h8 : bu = 0) (h9 : wt = 0) (h10 : ac = 0) (h11 : ¬ n = 0) : Calls Tryz.prog 24 #[.agg (ln7 mem ow sv bu wt ac (.slice qa n qc))] w fun e w' => e = .returned (.bool (lineB mem ow zs bu wt ac n f)) ∧ Below w.heap.size w w' := by
  have lb := lb_box w mem ow sv bu wt ac (.slice qa n qc) 31
  have HR : Hid (false = lineB mem ow zs bu wt ac n f) := hide (lineB_no fun ⟨_, _, _, h'⟩ => by rcases h' with h' | ⟨h', h'', h3', h4', _⟩ <;> omega)
  have e1 := inB_yes h1.1 h1.2
  have e2 := inB_yes h2.1 h2.2
  have e4 := inB_yes h4.1 h4.2
  have e5 := inB_yes h5.1 h5.2
  have e6 := inB_yes h6.1 h6.2
  have e7 : decide ((10 : Int) < (n : Int)) = false := by simp; omega
  have e8 : (bu != 0) = false := by simp; omega
  have e9 : (wt != 0) = false := by simp; omega
  have e10 : decide (0 < ac) = false := by simp; omega
  have e11 : 0 < n := by omega
  clear h1 h2 h4 h5 h6 h7 h8 h9 h10 h11
  go_enter Tryz.func24, Tryz.ntmps24
  go_wp2_with fail
  refine (in_any _ _ _ _).mono ?_
  rintro e w1 ⟨rfl, rfl⟩
  rw [e1]
  go_wp2_with fail
  refine (in_any _ _ _ _).mono ?_
  rintro e w1 ⟨rfl, rfl⟩
  rw [e2]
  go_wp2_with fail
  refine (specIdsOk_any sv zs _ (hs.below lb.1) hl).mono ?_
  rintro e w2 ⟨rfl, hb⟩
  rw [h3]
  replace lb := lb.next hb
  clear hb
  obtain ⟨_, c0, c1, c2, c3, c4, c5, c6⟩ := id lb
  go_wp2_with fail
  refine (in_any _ _ _ _).mono ?_
  rintro e w1 ⟨rfl, rfl⟩
  rw [e4]
  go_wp2_with fail
  refine (in_any _ _ _ _).mono ?_
  rintro e w1 ⟨rfl, rfl⟩
  rw [e5]
  go_wp2_with fail
  refine (in_any _ _ _ _).mono ?_
  rintro e w1 ⟨rfl, rfl⟩
  rw [e6]
  go_wp2
  go_ret
  exact ⟨ret_bool HR.out, lb.1⟩

set_option maxHeartbeats 4000000 in
theorem sl_f (mem ow : Int) (sv : Value) (zs : List Int) (bu wt ac : Int) (qa : Option Addr) (qc n : Nat) (f : Nat → Nat → Int) (w : World) (hs : Sl w sv zs) (hl : zs.length ≤ 1048576) (hq : Sr w (.slice qa n qc) 2 n f) (hn : n ≤ 1048576) (h1 : 0 ≤ mem ∧ mem ≤ 1000000) (h2 : 0 ≤ ow ∧ ow ≤ 5) (h3 : Ids.ok zs = true) (h4 : 0 ≤ bu ∧ bu ≤ 5) (h5 : 0 ≤ wt ∧ wt ≤ 2) (h6 : 0 ≤ ac ∧ ac ≤ 5) (h7 : n ≤ 10) (h8 : bu = 0) (h9 : wt = 0) (h10 : ac = 0) (h11 : n = 0) : Calls Tryz.prog 24 #[.agg (ln7 mem ow sv bu wt ac (.slice qa n qc))] w fun e w' => e = .returned (.bool (lineB mem ow zs bu wt ac n f)) ∧ Below w.heap.size w w' := by
  have lb := lb_box w mem ow sv bu wt ac (.slice qa n qc) 31
  have HY : Hid ((∀ j, j < n → reqB (f j 0) (f j 1) = true) → true = lineB mem ow zs bu wt ac n f) := hide (fun _ => lineB_yes ⟨h1, h2, h3, .inl ⟨h8, h9, h10, h11⟩⟩)
  have HN : Hid (∀ k, k < n → reqB (f k 0) (f k 1) = false → false = lineB mem ow zs bu wt ac n f) := hide (fun k hk => by omega)
  have e1 := inB_yes h1.1 h1.2
  have e2 := inB_yes h2.1 h2.2
  have e4 := inB_yes h4.1 h4.2
  have e5 := inB_yes h5.1 h5.2
  have e6 := inB_yes h6.1 h6.2
  have e7 : decide ((10 : Int) < (n : Int)) = false := by simp; omega
  have e8 : (bu != 0) = false := by simp; omega
  have e9 : (wt != 0) = false := by simp; omega
  have e10 : decide (0 < ac) = false := by simp; omega
  have e11 : ¬ 0 < n := by omega
  clear h1 h2 h4 h5 h6 h7 h8 h9 h10 h11
  obtain ⟨qad, qcap, hv, hq⟩ := hq
  simp only [Value.slice.injEq, true_and] at hv
  obtain ⟨rfl, rfl⟩ := hv
  go_enter Tryz.func24, Tryz.ntmps24
  go_wp2_with fail
  refine (in_any _ _ _ _).mono ?_
  rintro e w1 ⟨rfl, rfl⟩
  rw [e1]
  go_wp2_with fail
  refine (in_any _ _ _ _).mono ?_
  rintro e w1 ⟨rfl, rfl⟩
  rw [e2]
  go_wp2_with fail
  refine (specIdsOk_any sv zs _ (hs.below lb.1) hl).mono ?_
  rintro e w2 ⟨rfl, hb⟩
  rw [h3]
  replace lb := lb.next hb
  clear hb
  obtain ⟨_, c0, c1, c2, c3, c4, c5, c6⟩ := id lb
  go_wp2_with fail
  refine (in_any _ _ _ _).mono ?_
  rintro e w1 ⟨rfl, rfl⟩
  rw [e4]
  go_wp2_with fail
  refine (in_any _ _ _ _).mono ?_
  rintro e w1 ⟨rfl, rfl⟩
  rw [e5]
  go_wp2_with fail
  refine (in_any _ _ _ _).mono ?_
  rintro e w1 ⟨rfl, rfl⟩
  rw [e6]
  go_wp2
  go_loopw [4] (fun i wr => ∃ k : Nat, k ≤ n ∧ i = .int .i64 k ∧ LB w w.heap.size mem ow sv bu wt ac (.slice qa n qc) wr ∧ Hid (∀ j, j < k → reqB (f j 0) (f j 1) = true)) (fun i _ => n - (intOf i).toNat)
  case atStart => exact ⟨0, Nat.zero_le _, rfl, lb, hide fun j hj => by omega⟩
  case round =>
    obtain ⟨k, hk, rfl, lk, HK⟩ := hrel
    clear lb c0 c1 c2 c3 c4 c5 c6
    obtain ⟨_, c0, c1, c2, c3, c4, c5, c6⟩ := id lk
    by_cases hlt : k < n
    · exact absurd (Nat.lt_of_le_of_lt (Nat.zero_le k) hlt) e11
    · have e : k = n := by omega
      have HR : Hid (true = lineB mem ow zs bu wt ac n f) := hide (HY.out (fun j hj => HK.out j (by omega)))
      clear hq
      go_wp2
      go_ret
      exact ⟨ret_bool HR.out, lk.1⟩

set_option maxHeartbeats 4000000 in
theorem sl_b (mem ow : Int) (sv : Value) (zs : List Int) (bu wt ac : Int) (qa : Option Addr) (qc n : Nat) (f : Nat → Nat → Int) (w : World) (hs : Sl w sv zs) (hl : zs.length ≤ 1048576) (hq : Sr w (.slice qa n qc) 2 n f) (hn : n ≤ 1048576) (h1 : 0 ≤ mem ∧ mem ≤ 1000000) (h2 : 0 ≤ ow ∧ ow ≤ 5) (h3 : Ids.ok zs = true) (h4 : 0 ≤ bu ∧ bu ≤ 5) (h5 : 0 ≤ wt ∧ wt ≤ 2) (h6 : 0 ≤ ac ∧ ac ≤ 5) (h7 : n ≤ 10) (h8 : ¬ bu = 0) (h9 : ¬ wt = 0) (h10 : ¬ ac = 0) : Calls Tryz.prog 24 #[.agg (ln7 mem ow sv bu wt ac (.slice qa n qc))] w fun e w' => e = .returned (.bool (lineB mem ow zs bu wt ac n f)) ∧ Below w.heap.size w w' := by
  have lb := lb_box w mem ow sv bu wt ac (.slice qa n qc) 31
  have HY : Hid ((∀ j, j < n → reqB (f j 0) (f j 1) = true) → true = lineB mem ow zs bu wt ac n f) := hide (fun h => lineB_yes ⟨h1, h2, h3, .inr ⟨by omega, by omega, by omega, h7, h⟩⟩)
  have HN : Hid (∀ k, k < n → reqB (f k 0) (f k 1) = false → false = lineB mem ow zs bu wt ac n f) := hide (fun k hk hr => lineB_no fun ⟨_, _, _, h'⟩ => by
    rcases h' with h' | ⟨_, _, _, _, h'⟩
    · omega
    · have := h' k hk; rw [hr] at this; cases this)
  have e1 := inB_yes h1.1 h1.2
  have e2 := inB_yes h2.1 h2.2
  have e4 := inB_yes h4.1 h4.2
  have e5 := inB_yes h5.1 h5.2
  have e6 := inB_yes h6.1 h6.2
  have e7 : decide ((10 : Int) < (n : Int)) = false := by simp; omega
  have e8 : (bu != 0) = true := by simp; omega
  have e9 : (wt != 0) = true := by simp; omega
  have e10 : decide (0 < ac) = true := by simp; omega
  clear h1 h2 h4 h5 h6 h7 h8 h9 h10
  obtain ⟨qad, qcap, hv, hq⟩ := hq
  simp only [Value.slice.injEq, true_and] at hv
  obtain ⟨rfl, rfl⟩ := hv
  go_enter Tryz.func24, Tryz.ntmps24
  go_wp2_with fail
  refine (in_any _ _ _ _).mono ?_
  rintro e w1 ⟨rfl, rfl⟩
  rw [e1]
  go_wp2_with fail
  refine (in_any _ _ _ _).mono ?_
  rintro e w1 ⟨rfl, rfl⟩
  rw [e2]
  go_wp2_with fail
  refine (specIdsOk_any sv zs _ (hs.below lb.1) hl).mono ?_
  rintro e w2 ⟨rfl, hb⟩
  rw [h3]
  replace lb := lb.next hb
  clear hb
  obtain ⟨_, c0, c1, c2, c3, c4, c5, c6⟩ := id lb
  go_wp2_with fail
  refine (in_any _ _ _ _).mono ?_
  rintro e w1 ⟨rfl, rfl⟩
  rw [e4]
  go_wp2_with fail
  refine (in_any _ _ _ _).mono ?_
  rintro e w1 ⟨rfl, rfl⟩
  rw [e5]
  go_wp2_with fail
  refine (in_any _ _ _ _).mono ?_
  rintro e w1 ⟨rfl, rfl⟩
  rw [e6]
  go_wp2
  go_loopw [4] (fun i wr => ∃ k : Nat, k ≤ n ∧ i = .int .i64 k ∧ LB w w.heap.size mem ow sv bu wt ac (.slice qa n qc) wr ∧ Hid (∀ j, j < k → reqB (f j 0) (f j 1) = true)) (fun i _ => n - (intOf i).toNat)
  case atStart => exact ⟨0, Nat.zero_le _, rfl, lb, hide fun j hj => by omega⟩
  case round =>
    obtain ⟨k, hk, rfl, lk, HK⟩ := hrel
    clear lb c0 c1 c2 c3 c4 c5 c6
    obtain ⟨_, c0, c1, c2, c3, c4, c5, c6⟩ := id lk
    by_cases hlt : k < n
    · obtain ⟨p, off, rfl, hc⟩ := hq (by omega)
      have q0 : wr.cell? ⟨p, off + k * 2, none⟩ = some (.int .i64 (f k 0)) := Below.keep lk.1 _ _ (hc k hlt 0 (by decide))
      have q1 : wr.cell? ⟨p, off + k * 2 + 1, none⟩ = some (.int .i64 (f k 1)) := Below.keep lk.1 _ _ (hc k hlt 1 (by decide))
      clear hc hq
      cases hr : reqB (f k 0) (f k 1) with
      | false =>
        have HR : Hid (false = lineB mem ow zs bu wt ac n f) := hide (HN.out k hlt hr)
        go_wp2_with fail
        refine (l4Req_any _ _ _).mono ?_
        rintro e w3 ⟨rfl, hb⟩
        rw [hr]
        have ly := lk.next hb
        clear hb lk c0 c1 c2 c3 c4 c5 c6 q0 q1
        go_wp2
        go_ret
        exact ⟨ret_bool HR.out, ly.1⟩
      | true =>
        have HK2 : Hid (∀ j, j < k + 1 → reqB (f j 0) (f j 1) = true) := hide (fun j hj => by
          by_cases e : j = k
          · subst e; exact hr
          · exact HK.out j (by omega))
        go_wp2_with fail
        refine (l4Req_any _ _ _).mono ?_
        rintro e w3 ⟨rfl, hb⟩
        rw [hr]
        have ly := lk.next hb
        clear hb lk hr c0 c1 c2 c3 c4 c5 c6 q0 q1
        go_wp2
        go_roundw
        case rel => exact ⟨k + 1, by omega, by go_num, ly, HK2⟩
        case measure => simp [intOf]; omega
    · have e : k = n := by omega
      have HR : Hid (true = lineB mem ow zs bu wt ac n f) := hide (HY.out (fun j hj => HK.out j (by omega)))
      clear hq
      go_wp2
      go_ret
      exact ⟨ret_bool HR.out, lk.1⟩

theorem specLineOk_any (mem ow : Int) (sv : Value) (zs : List Int) (bu wt ac : Int) (qa : Option Addr) (qc n : Nat) (f : Nat → Nat → Int) (w : World) (hs : Sl w sv zs) (hl : zs.length ≤ 1048576) (hq : Sr w (.slice qa n qc) 2 n f) (hn : n ≤ 1048576) : Calls Tryz.prog 24 #[.agg (ln7 mem ow sv bu wt ac (.slice qa n qc))] w fun e w' => e = .returned (.bool (lineB mem ow zs bu wt ac n f)) ∧ Below w.heap.size w w' := by
  by_cases h1 : 0 ≤ mem ∧ mem ≤ 1000000
  · by_cases h2 : 0 ≤ ow ∧ ow ≤ 5
    · cases h3 : Ids.ok zs with
      | false => exact sl_3 mem ow sv zs bu wt ac qa qc n f w hs hl hq hn h1 h2 h3
      | true =>
        by_cases h4 : 0 ≤ bu ∧ bu ≤ 5
        · by_cases h5 : 0 ≤ wt ∧ wt ≤ 2
          · by_cases h6 : 0 ≤ ac ∧ ac ≤ 5
            · by_cases h7 : n ≤ 10
              · by_cases h8 : bu = 0
                · by_cases h9 : wt = 0
                  · by_cases h10 : ac = 0
                    · by_cases h11 : n = 0
                      · exact sl_f mem ow sv zs bu wt ac qa qc n f w hs hl hq hn h1 h2 h3 h4 h5 h6 h7 h8 h9 h10 h11
                      · exact sl_12 mem ow sv zs bu wt ac qa qc n f w hs hl hq hn h1 h2 h3 h4 h5 h6 h7 h8 h9 h10 h11
                    · exact sl_10 mem ow sv zs bu wt ac qa qc n f w hs hl hq hn h1 h2 h3 h4 h5 h6 h7 h8 h9 h10
                  · exact sl_8 mem ow sv zs bu wt ac qa qc n f w hs hl hq hn h1 h2 h3 h4 h5 h6 h7 h8 h9
                · by_cases h9 : wt = 0
                  · exact sl_9 mem ow sv zs bu wt ac qa qc n f w hs hl hq hn h1 h2 h3 h4 h5 h6 h7 h8 h9
                  · by_cases h10 : ac = 0
                    · exact sl_11 mem ow sv zs bu wt ac qa qc n f w hs hl hq hn h1 h2 h3 h4 h5 h6 h7 h8 h9 h10
                    · exact sl_b mem ow sv zs bu wt ac qa qc n f w hs hl hq hn h1 h2 h3 h4 h5 h6 h7 h8 h9 h10
              · exact sl_7 mem ow sv zs bu wt ac qa qc n f w hs hl hq hn h1 h2 h3 h4 h5 h6 h7
            · exact sl_6 mem ow sv zs bu wt ac qa qc n f w hs hl hq hn h1 h2 h3 h4 h5 h6
          · exact sl_5 mem ow sv zs bu wt ac qa qc n f w hs hl hq hn h1 h2 h3 h4 h5
        · exact sl_4 mem ow sv zs bu wt ac qa qc n f w hs hl hq hn h1 h2 h3 h4
    · exact sl_2 mem ow sv zs bu wt ac qa qc n f w hs hl hq hn h1 h2
  · exact sl_1 mem ow sv zs bu wt ac qa qc n f w hs hl hq hn h1

end Go.Proofs.YtlalldlbgnlbjaaGreatDoor
