/- spec.l6State -/
import Derived.Test.YtfckacabaajnkaaDoorOwA
namespace Go.Proofs.YtfckacabaajnkaaDoor
open Go.RowKit
set_option linter.unusedVariables false
set_option linter.unusedSimpArgs false

theorem Ow.snoc {w : World} {base : Nat} {v : Value} {zs : List Int} {x : Int} (h : w.ownsRow base 2 1 v (zs.length + 1) (zs.map (Value.int .i64) ++ [.int .i64 x])) : Ow w base v (zs ++ [x]) := by
  unfold Ow
  simpa using h
theorem Ow.empty_made (w : World) : Ow (w.alloc (.cells #[] 2)) w.heap.size (.slice (some ⟨w.heap.size, 0, none⟩) 0 0) [] :=
  World.ownsRow_made w #[] 0 (Nat.le_refl _) (by unfold maxLen; omega) rfl

set_option maxHeartbeats 4000000 in
theorem l6State_any (sa : Option Addr) (C sc : Nat) (lv mv : Value) (L : Nat → Nat) (F : Nat → Nat → Nat → Int) (N line : Nat) (st : Int) (w : World) (hs : Ss w (.slice sa C sc) C L F) (hC : C ≤ 5) (hL : ∀ c, c < C → L c = N) (hN : N ≤ 1048576) (hli : line < N) :
    Calls Tryd.prog 29 #[.agg (mc3 (.slice sa C sc) lv mv), .int .i64 (line : Int), .int .i64 st] w fun e w' => ∃ u, e = .returned u ∧ Ow w' w.heap.size u (stL (pS F line st) C) ∧ Below w.heap.size w w' := by
  obtain ⟨i0, hi, hz0, hz1, hz2⟩ := info_parts Tryd.info2
  have mb := mb_box w (.slice sa C sc) lv mv 34
  have m1 := mb.next ((Below.refl _ _).alloc (Nat.le_refl _) (.cells #[] 2))
  have ho := Ow.empty_made (w.alloc (.cells (mc3 (.slice sa C sc) lv mv) 34))
  rw [World.size_alloc] at ho
  clear mb
  obtain ⟨ad, cap, hv, hs⟩ := hs
  simp only [Value.slice.injEq, true_and] at hv
  obtain ⟨rfl, rfl⟩ := hv
  go_enter Tryd.func29, Tryd.ntmps29
  go_wp2
  go_loopw [7, 8] (fun t i wr => ∃ k : Nat, k ≤ C ∧ i = .int .i64 k ∧ Ow wr (w.heap.size + 1) t (stL (pS F line st) k) ∧ MB w w.heap.size (.slice sa C sc) lv mv wr ∧ Hid (w.heap.size + 1 ≤ wr.heap.size)) (fun _ i _ => C - (intOf i).toNat)
  case atStart => exact ⟨0, Nat.zero_le _, rfl, ho, m1, hide (by simp)⟩
  case round =>
    obtain ⟨k, hk, rfl, hok, mk, HZ⟩ := hrel
    clear ho m1
    obtain ⟨_, c0, c1, c2⟩ := id mk
    have hlen : (stL (pS F line st) k).length ≤ 5 := by rw [stL_len]; have := cnt_le (pS F line st) k; omega
    by_cases hlt : k < C
    · obtain ⟨p, off, rfl, hc⟩ := hs (by omega)
      obtain ⟨ia, ic, q0', hr⟩ := hc k hlt
      have hLk := hL k hlt
      rw [hLk] at q0' hr
      have q0 : wr.cell? ⟨p, off + k, none⟩ = some (.slice ia N ic) := Below.keep mk.1 _ _ q0'
      obtain ⟨iad, icap, hiv, hr⟩ := hr
      simp only [Value.slice.injEq, true_and] at hiv
      obtain ⟨rfl, rfl⟩ := hiv
      obtain ⟨pi, oi, rfl, hx⟩ := hr (by omega)
      have x0 : wr.cell? ⟨pi, oi + line * 4, none⟩ = some (.int .i64 (F k line 0)) := Below.keep mk.1 _ _ (hx line hli 0 (by decide))
      clear hs hc q0' hLk hx hr
      have HP : Hid (pS F line st k = (F k line 0 == st)) := hide rfl
      generalize F k line 0 = a at x0 HP
      by_cases he : a = st
      · subst he
        have HU : Hid (stL (pS F line a) (k + 1) = stL (pS F line a) k ++ [(k : Int) + 1]) := hide (by show stL (pS F line a) k ++ cond (pS F line a k) [(k : Int) + 1] [] = _; rw [HP.out]; simp)
        have hsz := HZ.out
        go_wp2_with (at_builtin; refine wpList_append_own _ rfl _ _ 28 rfl (w.heap.size + 1) 2 i0 (.int .i64 0) 1 8 Tryd.underlying28 hi hz0 hz1 hz2 rfl (by decide) _ _ _ rfl (World.ownsRow.alloc hok _) _ 1 1 [.int .i64 ((k : Int) + 1)] rfl rfl (cell_one_new _ _ _) (by intro u hu; simp at hu; subst hu; rfl) (by unfold maxLen; omega) (by omega) (by simp; omega) ?_)
        intro v' w1 hown' hgrow _
        have hown2 := Ow.snoc hown'
        rw [← HU.out] at hown2
        have ma := mk.next ((Below.refl _ _).alloc (Nat.le_refl _) (.cells #[.int .i64 ((k : Int) + 1)] 2))
        have hbl : ∀ j, Value.ownBlock _ = some j → w.heap.size + 1 ≤ j := fun j hj => (World.ownsRow.lt hok j hj).1
        have mw : MB w w.heap.size (.slice (some ⟨p, off, none⟩) C sc) lv mv w1 := by
          refine ⟨ma.1.grown hgrow ma.1.size (fun j hj => by have := hbl j hj; omega), ?_, ?_, ?_⟩
          · exact hgrow.cell ma.2.1 (fun e => by have := hbl _ e.symm; simp at this; omega)
          · exact hgrow.cell ma.2.2.1 (fun e => by have := hbl _ e.symm; simp at this; omega)
          · exact hgrow.cell ma.2.2.2 (fun e => by have := hbl _ e.symm; simp at this; omega)
        have HZ1 : Hid (w.heap.size + 1 ≤ w1.heap.size) := hide (by have := hgrow.size; rw [World.size_alloc] at this; omega)
        clear hown' hgrow hok mk ma c0 c1 c2 q0 x0
        go_wp2
        go_roundw
        case rel => exact ⟨k + 1, by omega, by go_num, hown2, mw, HZ1⟩
        case measure => simp [intOf]; omega
      · have hq0 : (a == st) = false := by simp [he]
        have HU : Hid (stL (pS F line st) (k + 1) = stL (pS F line st) k) := hide (by show stL (pS F line st) k ++ cond (pS F line st k) [(k : Int) + 1] [] = _; rw [HP.out, hq0]; simp)
        clear he
        go_wp2
        go_roundw
        case rel => exact ⟨k + 1, by omega, by go_num, by rw [HU.out]; exact hok, mk, HZ⟩
        case measure => simp [intOf]; omega
    · have e : k = C := by omega
      subst e
      go_wp2
      go_ret
      exact ⟨_, rfl, hok.mono (by omega), mk.1⟩
end Go.Proofs.YtfckacabaajnkaaDoor
