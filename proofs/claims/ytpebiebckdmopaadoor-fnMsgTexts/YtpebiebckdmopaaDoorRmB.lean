/- impl.msgReader: number, kind -/
import Derived.Test.YtpebiebckdmopaaDoorRmA
namespace Go.Proofs.YtpebiebckdmopaaDoor
open Go.RowKit

theorem Tab.grown {w w' : World} {row : Option Nat} (h : Tab w) (hg : w.grownBy w' row) (hr : ∀ k, row = some k → 0 < k) : Tab w' := by
  intro k hk
  obtain ⟨s, hs, h0, h1, h2, h3⟩ := h k hk
  have hne : ∀ j, row = some j → 0 ≠ j := fun j e => by have := hr j e; omega
  exact ⟨s, hs, hg.cell h0 (fun e => hne _ e.symm rfl), hg.cell h1 (fun e => hne _ e.symm rfl), hg.cell h2 (fun e => hne _ e.symm rfl), hg.cell h3 (fun e => hne _ e.symm rfl)⟩

/-- the number at the front -/
def num1 : List (List UInt8) → Option (Nat × List (List UInt8))
  | [] => none
  | x :: r => (Rdm.rd x).map fun v => (v, r)

set_option maxRecDepth 20000 in
set_option maxHeartbeats 1000000 in
theorem number_any (g : Nat) (w : World) (ws : List (List UInt8)) (h : Rs w g ws) :
    Calls Tryd.prog 40 #[.pointer (some ⟨g, 0, none⟩)] w fun e w' => (num1 ws = none ∧ e = .panicked gaveUp ∧ w.grownBy w' (some g)) ∨ (∃ v r, num1 ws = some (v, r) ∧ e = .returned (.int .i64 (v : Int)) ∧ Rs w' g r ∧ w.grownBy w' (some g)) := by
  cases ws with
  | nil =>
    go_enter Tryd.func40, Tryd.ntmps40
    go_wp2_with fail
    refine (word_none g w h).mono ?_
    rintro e w1 ⟨rfl, rfl⟩
    go_wp2
    exact ⟨rfl, .inl ⟨rfl, rfl, ⟨rfl, rfl, rfl, Nat.le_refl _, fun _ _ _ => rfl⟩⟩⟩
  | cons x r =>
    have hx : x.length ≤ 1048576 := by obtain ⟨_, _, _, _, _, _, hx⟩ := h; exact hx x (by simp)
    go_enter Tryd.func40, Tryd.ntmps40
    go_wp2_with fail
    refine (word_some g w x r h).mono ?_
    rintro e w1 ⟨rfl, h1, g1⟩
    go_wp2_with fail
    refine (readDecimal_any (bstr x) w1 (by rw [bstr_size]; exact hx)).mono ?_
    rintro e w2 ⟨rfl, rfl⟩
    rw [bstr_list]
    cases hr : Rdm.rd x with
    | none =>
      rw [(rd_bad hr).1, (rd_bad hr).2]
      go_wp2
      exact ⟨rfl, .inl ⟨by simp [num1, hr], rfl, g1⟩⟩
    | some v =>
      rw [(rd_good hr).1, (rd_good hr).2]
      go_wp2
      go_ret
      exact .inr ⟨v, r, by simp [num1, hr], rfl, h1, g1⟩

/-- the kind of a word -/
def kd (x : List UInt8) : Option Nat := (List.range' 1 9).find? fun k => shapeWord k == x

/-- the word at the front is a kind's -/
def kd1 : List (List UInt8) → Option (Nat × List (List UInt8))
  | [] => none
  | x :: r => (kd x).map fun k => (k, r)

theorem kd_at {x : List UInt8} {k : Nat} (h1 : 1 ≤ k) (h9 : k ≤ 9) (hb : ∀ j, 1 ≤ j → j < k → shapeWord j ≠ x) (h : shapeWord k = x) : kd x = some k := by
  unfold kd
  rw [List.find?_eq_some_iff_getElem]
  refine ⟨by simp [h], k - 1, by simp; omega, by simp; omega, fun j hj => ?_⟩
  have := hb (1 + j) (by omega) (by omega)
  simpa using this

theorem kd_none {x : List UInt8} (hb : ∀ j, 1 ≤ j → j < 10 → shapeWord j ≠ x) : kd x = none := by
  unfold kd
  rw [List.find?_eq_none]
  intro j hj
  rw [List.mem_range'_1] at hj
  simpa using hb j hj.1 (by omega)

theorem blist (x : List UInt8) : (bstr x).toList = x := by rw [ByteArray.toList_eq, bstr_list]
theorem str_list {s : ByteArray} {x l : List UInt8} (hs : s.data.toList = l) : (s.toList == (bstr x).toList) = (l == x) := by rw [ByteArray.toList_eq, hs, blist]

set_option maxRecDepth 20000 in
set_option maxHeartbeats 1000000 in
theorem kind_any (g : Nat) (w : World) (ws : List (List UInt8)) (h : Rs w g ws) (ht : Tab w) (hg : 0 < g) :
    Calls Tryd.prog 39 #[.pointer (some ⟨g, 0, none⟩)] w fun e w' => (kd1 ws = none ∧ e = .panicked gaveUp ∧ w.grownBy w' (some g)) ∨ (∃ k r, kd1 ws = some (k, r) ∧ e = .returned (.int .i64 (k : Int)) ∧ Rs w' g r ∧ w.grownBy w' (some g)) := by
  cases ws with
  | nil =>
    go_enter Tryd.func39, Tryd.ntmps39
    go_wp2_with fail
    refine (word_none g w h).mono ?_
    rintro e w1 ⟨rfl, rfl⟩
    go_wp2
    exact ⟨rfl, .inl ⟨rfl, rfl, ⟨rfl, rfl, rfl, Nat.le_refl _, fun _ _ _ => rfl⟩⟩⟩
  | cons x r =>
    go_enter Tryd.func39, Tryd.ntmps39
    go_wp2_with fail
    refine (word_some g w x r h).mono ?_
    rintro e w1 ⟨rfl, h1, g1⟩
    have ht1 := ht.grown g1 (fun k hk => by cases hk; exact hg)
    clear h ht
    go_wp2_with fail
    go_loop [4] (fun i => ∃ k : Nat, 1 ≤ k ∧ k ≤ 10 ∧ i = .int .i64 k ∧ ∀ j, 1 ≤ j → j < k → shapeWord j ≠ x) (fun i => 10 - (intOf i).toNat)
    case atStart => exact ⟨1, by omega, by omega, rfl, fun j a b => by omega⟩
    case round =>
      obtain ⟨k, hk1, hk10, rfl, hb⟩ := hrel
      by_cases hk : k = 10
      · subst hk
        go_wp2
        exact ⟨rfl, .inl ⟨by simp [kd1, kd_none hb], rfl, g1⟩⟩
      · obtain ⟨s, hs, c0, c1, c2, c3⟩ := ht1 k (by omega)
        rw [show 4 * k = k * 4 by omega] at c0
        clear c1 c2 c3
        have hb' := hide hb
        clear hb
        have hki : (k : Int) ≤ 9 := by omega
        have hk0 : (0 : Int) ≤ (k : Int) := by omega
        by_cases hw : shapeWord k = x
        · have hbeq : (s.toList == (bstr x).toList) = true := by rw [str_list hs, hw]; simp
          go_wp2
          go_ret
          exact .inr ⟨k, r, by simp [kd1, kd_at hk1 (by omega) hb'.out hw], rfl, h1, g1⟩
        · have hbeq : (s.toList == (bstr x).toList) = false := by rw [str_list hs, beq_eq_false_iff_ne]; exact hw
          go_wp2
          go_round
          case rel => exact ⟨k + 1, by omega, by omega, by go_num, fun j a b => by
            by_cases e : j = k
            · subst e; exact hw
            · exact hb'.out j a (by omega)⟩
          case measure => simp [intOf]; omega

end Go.Proofs.YtpebiebckdmopaaDoor
