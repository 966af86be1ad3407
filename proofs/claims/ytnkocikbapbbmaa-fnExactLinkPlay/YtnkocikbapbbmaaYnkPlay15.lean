/- LdE -/
import Derived.Test.YtnkocikbapbbmaaYnkPlay10
import Derived.Test.YtnkocikbapbbmaaYnkPlay14
/- impl: the methods of a link (written by mkLdE.py) -/
namespace Go.Proofs.Ytnkocikbapbbmaa
open Go.RowKit
set_option linter.unusedVariables false
set_option linter.unusedSimpArgs false

set_option maxHeartbeats 1000000 in
theorem wires_up (pb pk : Int) (wa ga da ua : Option Addr) (nw ng nd nu wc gc dc uc : Nat) (w : World) : Calls Try.prog 82 #[.agg (l6 pb (.slice wa nw wc) pk (.slice ga ng gc) (.slice da nd dc) (.slice ua nu uc)), .bool true] w fun e w' => e = .returned (.slice ua nu uc) ∧ Below w.heap.size w w' := by
  go_enter Try.func82, Try.ntmps82
  go_wp2
  go_ret
  exact ⟨rfl, (Below.refl _ _).alloc (Nat.le_refl _) _⟩
set_option maxHeartbeats 4000000 in
set_option maxRecDepth 20000 in
theorem with_up (pb pk : Int) (wa ga da ua : Option Addr) (nw ng nd nu wc gc dc uc : Nat) (xa : Option Addr) (nx xc : Nat) (w : World) : Calls Try.prog 84 #[.agg (l6 pb (.slice wa nw wc) pk (.slice ga ng gc) (.slice da nd dc) (.slice ua nu uc)), .bool true, .slice xa nx xc] w fun e w' => e = .returned (.agg (l6 pb (.slice wa nw wc) pk (.slice ga ng gc) (.slice da nd dc) (.slice xa nx xc))) ∧ Below w.heap.size w w' := by
  go_enter Try.func84, Try.ntmps84
  go_wp2
  refine bodyPost_ret (v := .agg (l6 pb (.slice wa nw wc) pk (.slice ga ng gc) (.slice da nd dc) (.slice xa nx xc))) (by simp [results, Try.results84, go_sem]) rfl ⟨rfl, ?_⟩
  repeat' (first | exact Below.refl _ _ | refine Below.setCell ?_ (by simp <;> omega) _ | refine Below.alloc ?_ (by simp <;> omega) _)
set_option maxHeartbeats 1000000 in
theorem wires_dn (pb pk : Int) (wa ga da ua : Option Addr) (nw ng nd nu wc gc dc uc : Nat) (w : World) : Calls Try.prog 82 #[.agg (l6 pb (.slice wa nw wc) pk (.slice ga ng gc) (.slice da nd dc) (.slice ua nu uc)), .bool false] w fun e w' => e = .returned (.slice da nd dc) ∧ Below w.heap.size w w' := by
  go_enter Try.func82, Try.ntmps82
  go_wp2
  go_ret
  exact ⟨rfl, (Below.refl _ _).alloc (Nat.le_refl _) _⟩
set_option maxHeartbeats 4000000 in
set_option maxRecDepth 20000 in
theorem with_dn (pb pk : Int) (wa ga da ua : Option Addr) (nw ng nd nu wc gc dc uc : Nat) (xa : Option Addr) (nx xc : Nat) (w : World) : Calls Try.prog 84 #[.agg (l6 pb (.slice wa nw wc) pk (.slice ga ng gc) (.slice da nd dc) (.slice ua nu uc)), .bool false, .slice xa nx xc] w fun e w' => e = .returned (.agg (l6 pb (.slice wa nw wc) pk (.slice ga ng gc) (.slice xa nx xc) (.slice ua nu uc))) ∧ Below w.heap.size w w' := by
  go_enter Try.func84, Try.ntmps84
  go_wp2
  refine bodyPost_ret (v := .agg (l6 pb (.slice wa nw wc) pk (.slice ga ng gc) (.slice xa nx xc) (.slice ua nu uc))) (by simp [results, Try.results84, go_sem]) rfl ⟨rfl, ?_⟩
  repeat' (first | exact Below.refl _ _ | refine Below.setCell ?_ (by simp <;> omega) _ | refine Below.alloc ?_ (by simp <;> omega) _)
set_option maxHeartbeats 4000000 in
set_option maxRecDepth 20000 in
theorem wireOf_any (k s : Int) (b : ByteArray) (w : World) : Calls Try.prog 77 #[.agg #[.int .i64 k, .int .i64 s, .string b]] w fun e w' => e = .returned (.agg #[.string (Flit.txt k s b), .bool false]) ∧ Below w.heap.size w w' := by
  have hB : Below w.heap.size w ((w.alloc (.cells #[.int .i64 k, .int .i64 s, .string b] 88)).alloc (.cells #[.string ⟨#[]⟩, .bool false] 73)) := ((Below.refl _ _).alloc (Nat.le_refl _) _).alloc (by simp) _
  have qr : ((w.alloc (.cells #[.int .i64 k, .int .i64 s, .string b] 88)).alloc (.cells #[.string ⟨#[]⟩, .bool false] 73)).heap[w.heap.size + 1]? = some (.cells #[.string ⟨#[]⟩, .bool false] 73 (0, 0)) := by
    have := heap_alloc_new (w.alloc (.cells #[.int .i64 k, .int .i64 s, .string b] 88)) (.cells #[.string ⟨#[]⟩, .bool false] 73)
    simpa only [World.size_alloc] using this
  have HT := fun W => implText_any k s b W
  have HP : Hid (∀ W w1, ((w.alloc (.cells #[.int .i64 k, .int .i64 s, .string b] 88)).alloc (.cells #[.string ⟨#[]⟩, .bool false] 73)) = W → Below W.heap.size W w1 → Below w.heap.size w w1 ∧ w1.heap[w.heap.size + 1]? = some (.cells #[.string ⟨#[]⟩, .bool false] 73 (0, 0))) := hide (fun W w1 hW h => by subst hW; exact ⟨hB.trans (h.mono hB.size), heap_bl qr h⟩)
  clear hB qr
  go_enter Try.func77, Try.ntmps77
  go_wp2_with fail
  refine (HT _).mono ?_
  rintro e w1 ⟨rfl, hb1⟩
  obtain ⟨hb, q⟩ := HP.out _ w1 rfl hb1
  clear HP HT hb1
  have fr := fun i => frozen_of_row _ _ i _ _ q
  have y0 : w1.cell? ⟨w.heap.size + 1, 0, none⟩ = some (.string ⟨#[]⟩) := (cell_of_row _ _ 0 _ _ _ q).trans rfl
  have y1 : w1.cell? ⟨w.heap.size + 1, 1, none⟩ = some (.bool false) := (cell_of_row _ _ 1 _ _ _ q).trans rfl
  have HQ := hide (And.intro hb q)
  clear hb q
  go_wp2
  refine bodyPost_ret (v := .agg #[.string (Flit.txt k s b), .bool false]) (by simp [results, Try.results77, go_sem, y0, y1]) rfl ⟨rfl, ?_⟩
  exact (HQ.out.1.setCell (by simp) _).setCell (by simp) _

/-- what an acknowledgement comes to -/
def ackB (pb pk q : Int) : Bool := decide (pb < q) && decide (q ≤ pk)
set_option maxHeartbeats 4000000 in
set_option maxRecDepth 20000 in
theorem acked_no (pb pk : Int) (wa ga da ua : Option Addr) (nw ng nd nu wc gc dc uc : Nat) (q : Int) (w : World) (h : ackB pb pk q = false) : Calls Try.prog 79 #[.agg (l6 pb (.slice wa nw wc) pk (.slice ga ng gc) (.slice da nd dc) (.slice ua nu uc)), .int .i64 q] w fun e w' => e = .returned (.agg (l6 pb (.slice wa nw wc) pk (.slice ga ng gc) (.slice da nd dc) (.slice ua nu uc))) ∧ Below w.heap.size w w' := by
  by_cases h1 : pb < q
  · have h2 : ¬ q ≤ pk := by simpa [ackB, h1] using h
    clear h
    go_enter Try.func79, Try.ntmps79
    go_wp2
    refine bodyPost_ret (v := .agg (l6 pb (.slice wa nw wc) pk (.slice ga ng gc) (.slice da nd dc) (.slice ua nu uc))) (by simp [results, Try.results79, go_sem]) rfl ⟨rfl, ?_⟩
    repeat' (first | exact Below.refl _ _ | refine Below.setCell ?_ (by simp <;> omega) _ | refine Below.alloc ?_ (by simp <;> omega) _)
  · clear h
    go_enter Try.func79, Try.ntmps79
    go_wp2
    refine bodyPost_ret (v := .agg (l6 pb (.slice wa nw wc) pk (.slice ga ng gc) (.slice da nd dc) (.slice ua nu uc))) (by simp [results, Try.results79, go_sem]) rfl ⟨rfl, ?_⟩
    repeat' (first | exact Below.refl _ _ | refine Below.setCell ?_ (by simp <;> omega) _ | refine Below.alloc ?_ (by simp <;> omega) _)


/-- a row without its first elements -/
theorem Rg.tail {w : World} {base n j : Nat} {v : Value} {f : Nat → Nat → Value} (h : Rg w base v 1 n f) (hj : 0 < j) (hn : j ≤ n) : ∃ v' : Value, (∀ W : World, (Instr.slice 22 v (some (.int .i64 (j : Int))) none none).run Try.prog W = .ok v' W) ∧ Rg w base v' 1 (n - j) (fun x i => f (x + j) i) ∧ ∀ g, rb v' = some g → rb v = some g := by
  rcases h with ⟨⟨ad, rfl⟩, rfl⟩ | ⟨g, off, k, rfl, h1, hp, h0, h2, h3, h4⟩
  · omega
  · refine ⟨.slice (if k = j then some ⟨g, off, none⟩ else some ⟨g, off + j, none⟩) (n - j) (k - j), fun W => ?_, ?_, ?_⟩
    · have a1 : (j : Int) ≤ (n : Int) := by omega
      have a2 : (k - j = 0) = (k = j) := by simp; omega
      have a3 : j ≠ 0 := by omega
      simp [go_sem, Try.underlying22, Instr.slice, Instr.sliceBounds, Instr.sliceBound, asIntOf, Addr.add, a1, hn, h1, a2, a3]
    · by_cases hk : k = j
      · obtain rfl : n = j := by omega
        subst hk
        exact .inl ⟨⟨some ⟨g, off, none⟩, by simp⟩, by omega⟩
      · refine .inr ⟨g, off + j, k - j, by rw [if_neg hk], by omega, by omega, by omega, h2, ?_, fun x hx => ?_⟩
        · have : off + j + (k - j) * 1 = off + k * 1 := by omega
          rw [this]; exact h3
        · have := h4 (j + x) (by omega)
          rw [Nat.add_assoc, this]
          simp only [Nat.div_one, Nat.mod_one, Nat.add_comm]
    · intro g' hg'
      rw [rb_some hp]
      by_cases hk : k = j
      · subst hk; rw [Nat.sub_self, rb_zero] at hg'; cases hg'
      · rw [if_neg hk, rb_some (by omega)] at hg'; exact hg'
/-- a link once an acknowledgement came -/
def ackL (p : Lk) (q : Int) : Lk := if ackB p.base p.want q then { p with base := q, nw := p.nw - (q - p.base).toNat, ws := fun x => p.ws (x + (q - p.base).toNat) } else p
set_option maxHeartbeats 4000000 in
set_option maxRecDepth 20000 in
theorem acked_yes (pb pk : Int) (wa ga da ua : Option Addr) (nw ng nd nu wc gc dc uc : Nat) (xa : Option Addr) (nx xc : Nat) (q : Int) (j : Nat) (w : World) (h1 : pb < q) (h2 : q ≤ pk) (h0 : 0 ≤ pb) (hk : pk ≤ 1000000) (hj : q - pb = j) (hs : ∀ W : World, (Instr.slice 22 (.slice wa nw wc) (some (.int .i64 (j : Int))) none none).run Try.prog W = .ok (.slice xa nx xc) W) :
    Calls Try.prog 79 #[.agg (l6 pb (.slice wa nw wc) pk (.slice ga ng gc) (.slice da nd dc) (.slice ua nu uc)), .int .i64 q] w fun e w' => e = .returned (.agg (l6 q (.slice xa nx xc) pk (.slice ga ng gc) (.slice da nd dc) (.slice ua nu uc))) ∧ Below w.heap.size w w' := by
  have hw : wrap64 (q - pb) = j := by rw [hj]; exact Go.IntWalk.wrap64_in _ (by omega)
  clear hj h0 hk
  go_enter Try.func79, Try.ntmps79
  go_wp2
  refine bodyPost_ret (v := .agg (l6 q (.slice xa nx xc) pk (.slice ga ng gc) (.slice da nd dc) (.slice ua nu uc))) (by simp [results, Try.results79, go_sem]) rfl ⟨rfl, ?_⟩
  repeat' (first | exact Below.refl _ _ | refine Below.setCell ?_ (by simp <;> omega) _ | refine Below.alloc ?_ (by simp <;> omega) _)

/-- whether a place has a text -/
def thB (n : Nat) (z : Int) : Bool := decide (0 ≤ z) && decide (z < (n : Int))
set_option maxHeartbeats 4000000 in
set_option maxRecDepth 20000 in
theorem there_up (pb pk : Int) (wa ga da ua : Option Addr) (nw ng nd nu wc gc dc uc : Nat) (z : Int) (w : World) : Calls Try.prog 81 #[.agg (l6 pb (.slice wa nw wc) pk (.slice ga ng gc) (.slice da nd dc) (.slice ua nu uc)), .agg #[.bool true, .int .i64 z]] w fun e w' => e = .returned (.bool (thB nu z)) ∧ Below w.heap.size w w' := by
  have hB0 : Below w.heap.size w ((w.alloc (.cells (l6 pb (.slice wa nw wc) pk (.slice ga ng gc) (.slice da nd dc) (.slice ua nu uc)) 30)).alloc (.cells #[.bool true, .int .i64 z] 100)) := ((Below.refl _ _).alloc (Nat.le_refl _) _).alloc (by simp) _
  have qa : ((w.alloc (.cells (l6 pb (.slice wa nw wc) pk (.slice ga ng gc) (.slice da nd dc) (.slice ua nu uc)) 30)).alloc (.cells #[.bool true, .int .i64 z] 100)).heap[w.heap.size]? = some (.cells (l6 pb (.slice wa nw wc) pk (.slice ga ng gc) (.slice da nd dc) (.slice ua nu uc)) 30 (0, 0)) := by
    rw [Below.heap_alloc _ _ _ (by simp)]; exact heap_alloc_new _ _
  have qb : ((w.alloc (.cells (l6 pb (.slice wa nw wc) pk (.slice ga ng gc) (.slice da nd dc) (.slice ua nu uc)) 30)).alloc (.cells #[.bool true, .int .i64 z] 100)).heap[w.heap.size + 1]? = some (.cells #[.bool true, .int .i64 z] 100 (0, 0)) := by
    have := heap_alloc_new (w.alloc (.cells (l6 pb (.slice wa nw wc) pk (.slice ga ng gc) (.slice da nd dc) (.slice ua nu uc)) 30)) (.cells #[.bool true, .int .i64 z] 100)
    simpa only [World.size_alloc] using this
  have HW := hide (fun W => wires_up pb pk wa ga da ua nw ng nd nu wc gc dc uc W)
  obtain ⟨W, hE⟩ : ∃ W, ((w.alloc (.cells (l6 pb (.slice wa nw wc) pk (.slice ga ng gc) (.slice da nd dc) (.slice ua nu uc)) 30)).alloc (.cells #[.bool true, .int .i64 z] 100)) = W := ⟨_, rfl⟩
  rw [hE] at hB0 qa qb
  by_cases h1 : 0 ≤ z
  · have HD : Hid (thB nu z = decide (z < (nu : Int))) := hide (by simp [thB, h1])
    have d1 : decide (0 ≤ z) = true := by simpa using h1
    go_enter Try.func81, Try.ntmps81
    go_wp2
    clear hE
    refine wp_region_held_drew (S := fun w' => Below w.heap.size w w' ∧ w'.heap[w.heap.size]? = some (.cells (l6 pb (.slice wa nw wc) pk (.slice ga ng gc) (.slice da nd dc) (.slice ua nu uc)) 30 (0, 0)) ∧ w'.heap[w.heap.size + 1]? = some (.cells #[.bool true, .int .i64 z] 100 (0, 0))) (by kernel_rfl) ⟨hB0.drew, qa, qb⟩ (fun hHeld => ?_)
    refine th0 0 (.pointer (some ⟨w.heap.size + 1, 1, none⟩)) rfl fun _ => ?_
    refine th 1 (.int .i64 z) rfl (fun w' hSw => by (try dsimp only at hSw); obtain ⟨_, z0, z1, z2, z3, z4, z5⟩ := box6 hSw.2.1; have p0 := (cell_of_row _ _ 0 _ _ _ hSw.2.2).trans rfl; have p1 := (cell_of_row _ _ 1 _ _ _ hSw.2.2).trans rfl; go_simp) fun _ => ?_
    refine th0 2 (.bool true) rfl fun _ => ?_
    refine th0 3 (.bool true) rfl fun _ => ?_
    refine th0 4 (.pointer (some ⟨w.heap.size + 1, 1, none⟩)) rfl fun _ => ?_
    refine th 5 (.int .i64 z) rfl (fun w' hSw => by (try dsimp only at hSw); obtain ⟨_, z0, z1, z2, z3, z4, z5⟩ := box6 hSw.2.1; have p0 := (cell_of_row _ _ 0 _ _ _ hSw.2.2).trans rfl; have p1 := (cell_of_row _ _ 1 _ _ _ hSw.2.2).trans rfl; go_simp) fun _ => ?_
    refine th 6 (.agg (l6 pb (.slice wa nw wc) pk (.slice ga ng gc) (.slice da nd dc) (.slice ua nu uc))) rfl (fun w' hSw => by (try dsimp only at hSw); obtain ⟨_, z0, z1, z2, z3, z4, z5⟩ := box6 hSw.2.1; have p0 := (cell_of_row _ _ 0 _ _ _ hSw.2.2).trans rfl; have p1 := (cell_of_row _ _ 1 _ _ _ hSw.2.2).trans rfl; go_simp) fun _ => ?_
    refine th0 7 (.pointer (some ⟨w.heap.size + 1, 0, none⟩)) rfl fun _ => ?_
    refine th 8 (.bool true) rfl (fun w' hSw => by (try dsimp only at hSw); obtain ⟨_, z0, z1, z2, z3, z4, z5⟩ := box6 hSw.2.1; have p0 := (cell_of_row _ _ 0 _ _ _ hSw.2.2).trans rfl; have p1 := (cell_of_row _ _ 1 _ _ _ hSw.2.2).trans rfl; go_simp) fun _ => ?_
    refine wpAnyH_ready (rs := [9]) (by kernel_rfl) (by simp) ?_
    refine AllReadyH.cons rfl (fun K hK => ?_) AllReadyH.nil
    go_simp
    refine (HW.out _).mono ?_
    rintro e wc1 ⟨rfl, hbc⟩
    refine hK.out _ _ ⟨hHeld.1.trans (hbc.mono hHeld.1.size), heap_bl hHeld.2.1 hbc, heap_bl hHeld.2.2 hbc⟩ (fun hHeld => ?_)
    clear hK K hbc
    try simp only [Act.put, List.getElem_toArray, List.getElem_cons_zero, List.getElem_cons_succ, List.setIfInBounds_toArray, List.set_cons_zero, List.set_cons_succ]
    refine th0 10 (.int .i64 nu) rfl fun _ => ?_
    refine th0 11 (.bool (decide (z < (nu : Int)))) rfl fun _ => ?_
    refine th0 12 (.bool (decide (z < (nu : Int)))) rfl fun _ => ?_
    refine th0 13 (.bool (decide (z < (nu : Int)))) rfl fun _ => ?_
    refine wpAnyH_done (by kernel_rfl) ?_ _
    have HBZ := hide hHeld.1
    clear hHeld
    go_wp2
    go_ret
    exact ⟨by first | rfl | (rw [HD.out]; rfl) | rw [HD.out], HBZ.out⟩
  · have HD : Hid (thB nu z = false) := hide (by simp [thB, h1])
    have d1 : decide (0 ≤ z) = false := by simpa using h1
    go_enter Try.func81, Try.ntmps81
    go_wp2
    clear hE
    refine wp_region_held_drew (S := fun w' => Below w.heap.size w w' ∧ w'.heap[w.heap.size]? = some (.cells (l6 pb (.slice wa nw wc) pk (.slice ga ng gc) (.slice da nd dc) (.slice ua nu uc)) 30 (0, 0)) ∧ w'.heap[w.heap.size + 1]? = some (.cells #[.bool true, .int .i64 z] 100 (0, 0))) (by kernel_rfl) ⟨hB0.drew, qa, qb⟩ (fun hHeld => ?_)
    refine th0 0 (.pointer (some ⟨w.heap.size + 1, 1, none⟩)) rfl fun _ => ?_
    refine th 1 (.int .i64 z) rfl (fun w' hSw => by (try dsimp only at hSw); obtain ⟨_, z0, z1, z2, z3, z4, z5⟩ := box6 hSw.2.1; have p0 := (cell_of_row _ _ 0 _ _ _ hSw.2.2).trans rfl; have p1 := (cell_of_row _ _ 1 _ _ _ hSw.2.2).trans rfl; go_simp) fun _ => ?_
    refine th0 2 (.bool false) rfl fun _ => ?_
    refine th0 3 (.bool false) rfl fun _ => ?_
    refine thu 4 rfl fun _ => ?_
    refine thu 5 rfl fun _ => ?_
    refine thu 6 rfl fun _ => ?_
    refine thu 7 rfl fun _ => ?_
    refine thu 8 rfl fun _ => ?_
    refine thu 9 rfl fun _ => ?_
    refine thu 10 rfl fun _ => ?_
    refine thu 11 rfl fun _ => ?_
    refine th0 12 (.bool false) rfl fun _ => ?_
    refine th0 13 (.bool false) rfl fun _ => ?_
    refine wpAnyH_done (by kernel_rfl) ?_ _
    have HBZ := hide hHeld.1
    clear hHeld
    go_wp2
    go_ret
    exact ⟨by first | rfl | (rw [HD.out]; rfl) | rw [HD.out], HBZ.out⟩
set_option maxHeartbeats 4000000 in
set_option maxRecDepth 20000 in
theorem there_dn (pb pk : Int) (wa ga da ua : Option Addr) (nw ng nd nu wc gc dc uc : Nat) (z : Int) (w : World) : Calls Try.prog 81 #[.agg (l6 pb (.slice wa nw wc) pk (.slice ga ng gc) (.slice da nd dc) (.slice ua nu uc)), .agg #[.bool false, .int .i64 z]] w fun e w' => e = .returned (.bool (thB nd z)) ∧ Below w.heap.size w w' := by
  have hB0 : Below w.heap.size w ((w.alloc (.cells (l6 pb (.slice wa nw wc) pk (.slice ga ng gc) (.slice da nd dc) (.slice ua nu uc)) 30)).alloc (.cells #[.bool false, .int .i64 z] 100)) := ((Below.refl _ _).alloc (Nat.le_refl _) _).alloc (by simp) _
  have qa : ((w.alloc (.cells (l6 pb (.slice wa nw wc) pk (.slice ga ng gc) (.slice da nd dc) (.slice ua nu uc)) 30)).alloc (.cells #[.bool false, .int .i64 z] 100)).heap[w.heap.size]? = some (.cells (l6 pb (.slice wa nw wc) pk (.slice ga ng gc) (.slice da nd dc) (.slice ua nu uc)) 30 (0, 0)) := by
    rw [Below.heap_alloc _ _ _ (by simp)]; exact heap_alloc_new _ _
  have qb : ((w.alloc (.cells (l6 pb (.slice wa nw wc) pk (.slice ga ng gc) (.slice da nd dc) (.slice ua nu uc)) 30)).alloc (.cells #[.bool false, .int .i64 z] 100)).heap[w.heap.size + 1]? = some (.cells #[.bool false, .int .i64 z] 100 (0, 0)) := by
    have := heap_alloc_new (w.alloc (.cells (l6 pb (.slice wa nw wc) pk (.slice ga ng gc) (.slice da nd dc) (.slice ua nu uc)) 30)) (.cells #[.bool false, .int .i64 z] 100)
    simpa only [World.size_alloc] using this
  have HW := hide (fun W => wires_dn pb pk wa ga da ua nw ng nd nu wc gc dc uc W)
  obtain ⟨W, hE⟩ : ∃ W, ((w.alloc (.cells (l6 pb (.slice wa nw wc) pk (.slice ga ng gc) (.slice da nd dc) (.slice ua nu uc)) 30)).alloc (.cells #[.bool false, .int .i64 z] 100)) = W := ⟨_, rfl⟩
  rw [hE] at hB0 qa qb
  by_cases h1 : 0 ≤ z
  · have HD : Hid (thB nd z = decide (z < (nd : Int))) := hide (by simp [thB, h1])
    have d1 : decide (0 ≤ z) = true := by simpa using h1
    go_enter Try.func81, Try.ntmps81
    go_wp2
    clear hE
    refine wp_region_held_drew (S := fun w' => Below w.heap.size w w' ∧ w'.heap[w.heap.size]? = some (.cells (l6 pb (.slice wa nw wc) pk (.slice ga ng gc) (.slice da nd dc) (.slice ua nu uc)) 30 (0, 0)) ∧ w'.heap[w.heap.size + 1]? = some (.cells #[.bool false, .int .i64 z] 100 (0, 0))) (by kernel_rfl) ⟨hB0.drew, qa, qb⟩ (fun hHeld => ?_)
    refine th0 0 (.pointer (some ⟨w.heap.size + 1, 1, none⟩)) rfl fun _ => ?_
    refine th 1 (.int .i64 z) rfl (fun w' hSw => by (try dsimp only at hSw); obtain ⟨_, z0, z1, z2, z3, z4, z5⟩ := box6 hSw.2.1; have p0 := (cell_of_row _ _ 0 _ _ _ hSw.2.2).trans rfl; have p1 := (cell_of_row _ _ 1 _ _ _ hSw.2.2).trans rfl; go_simp) fun _ => ?_
    refine th0 2 (.bool true) rfl fun _ => ?_
    refine th0 3 (.bool true) rfl fun _ => ?_
    refine th0 4 (.pointer (some ⟨w.heap.size + 1, 1, none⟩)) rfl fun _ => ?_
    refine th 5 (.int .i64 z) rfl (fun w' hSw => by (try dsimp only at hSw); obtain ⟨_, z0, z1, z2, z3, z4, z5⟩ := box6 hSw.2.1; have p0 := (cell_of_row _ _ 0 _ _ _ hSw.2.2).trans rfl; have p1 := (cell_of_row _ _ 1 _ _ _ hSw.2.2).trans rfl; go_simp) fun _ => ?_
    refine th 6 (.agg (l6 pb (.slice wa nw wc) pk (.slice ga ng gc) (.slice da nd dc) (.slice ua nu uc))) rfl (fun w' hSw => by (try dsimp only at hSw); obtain ⟨_, z0, z1, z2, z3, z4, z5⟩ := box6 hSw.2.1; have p0 := (cell_of_row _ _ 0 _ _ _ hSw.2.2).trans rfl; have p1 := (cell_of_row _ _ 1 _ _ _ hSw.2.2).trans rfl; go_simp) fun _ => ?_
    refine th0 7 (.pointer (some ⟨w.heap.size + 1, 0, none⟩)) rfl fun _ => ?_
    refine th 8 (.bool false) rfl (fun w' hSw => by (try dsimp only at hSw); obtain ⟨_, z0, z1, z2, z3, z4, z5⟩ := box6 hSw.2.1; have p0 := (cell_of_row _ _ 0 _ _ _ hSw.2.2).trans rfl; have p1 := (cell_of_row _ _ 1 _ _ _ hSw.2.2).trans rfl; go_simp) fun _ => ?_
    refine wpAnyH_ready (rs := [9]) (by kernel_rfl) (by simp) ?_
    refine AllReadyH.cons rfl (fun K hK => ?_) AllReadyH.nil
    go_simp
    refine (HW.out _).mono ?_
    rintro e wc1 ⟨rfl, hbc⟩
    refine hK.out _ _ ⟨hHeld.1.trans (hbc.mono hHeld.1.size), heap_bl hHeld.2.1 hbc, heap_bl hHeld.2.2 hbc⟩ (fun hHeld => ?_)
    clear hK K hbc
    try simp only [Act.put, List.getElem_toArray, List.getElem_cons_zero, List.getElem_cons_succ, List.setIfInBounds_toArray, List.set_cons_zero, List.set_cons_succ]
    refine th0 10 (.int .i64 nd) rfl fun _ => ?_
    refine th0 11 (.bool (decide (z < (nd : Int)))) rfl fun _ => ?_
    refine th0 12 (.bool (decide (z < (nd : Int)))) rfl fun _ => ?_
    refine th0 13 (.bool (decide (z < (nd : Int)))) rfl fun _ => ?_
    refine wpAnyH_done (by kernel_rfl) ?_ _
    have HBZ := hide hHeld.1
    clear hHeld
    go_wp2
    go_ret
    exact ⟨by first | rfl | (rw [HD.out]; rfl) | rw [HD.out], HBZ.out⟩
  · have HD : Hid (thB nd z = false) := hide (by simp [thB, h1])
    have d1 : decide (0 ≤ z) = false := by simpa using h1
    go_enter Try.func81, Try.ntmps81
    go_wp2
    clear hE
    refine wp_region_held_drew (S := fun w' => Below w.heap.size w w' ∧ w'.heap[w.heap.size]? = some (.cells (l6 pb (.slice wa nw wc) pk (.slice ga ng gc) (.slice da nd dc) (.slice ua nu uc)) 30 (0, 0)) ∧ w'.heap[w.heap.size + 1]? = some (.cells #[.bool false, .int .i64 z] 100 (0, 0))) (by kernel_rfl) ⟨hB0.drew, qa, qb⟩ (fun hHeld => ?_)
    refine th0 0 (.pointer (some ⟨w.heap.size + 1, 1, none⟩)) rfl fun _ => ?_
    refine th 1 (.int .i64 z) rfl (fun w' hSw => by (try dsimp only at hSw); obtain ⟨_, z0, z1, z2, z3, z4, z5⟩ := box6 hSw.2.1; have p0 := (cell_of_row _ _ 0 _ _ _ hSw.2.2).trans rfl; have p1 := (cell_of_row _ _ 1 _ _ _ hSw.2.2).trans rfl; go_simp) fun _ => ?_
    refine th0 2 (.bool false) rfl fun _ => ?_
    refine th0 3 (.bool false) rfl fun _ => ?_
    refine thu 4 rfl fun _ => ?_
    refine thu 5 rfl fun _ => ?_
    refine thu 6 rfl fun _ => ?_
    refine thu 7 rfl fun _ => ?_
    refine thu 8 rfl fun _ => ?_
    refine thu 9 rfl fun _ => ?_
    refine thu 10 rfl fun _ => ?_
    refine thu 11 rfl fun _ => ?_
    refine th0 12 (.bool false) rfl fun _ => ?_
    refine th0 13 (.bool false) rfl fun _ => ?_
    refine wpAnyH_done (by kernel_rfl) ?_ _
    have HBZ := hide hHeld.1
    clear hHeld
    go_wp2
    go_ret
    exact ⟨by first | rfl | (rw [HD.out]; rfl) | rw [HD.out], HBZ.out⟩

end Go.Proofs.Ytnkocikbapbbmaa
