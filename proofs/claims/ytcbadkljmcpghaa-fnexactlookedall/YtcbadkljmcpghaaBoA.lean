/- rows of bools: compared, marked, found marked; a row of numbers marked -/
import Derived.Test.YtcbadkljmcpghaaCaB1
import Derived.Test.YtcbadkljmcpghaaC
namespace Go.Proofs.Ytcbadkljmcpghaa
open Go.RowKit
set_option linter.unusedVariables false
set_option linter.unusedSimpArgs false

/-- n bools that can be read -/
def Sb (w : World) (v : Value) (n : Nat) (h : Nat → Bool) : Prop :=
  ∃ ad cap, v = .slice ad n cap ∧ (0 < n → ∃ b off, ad = some ⟨b, off, none⟩ ∧ ∀ j, j < n → w.cell? ⟨b, off + j, none⟩ = some (.bool (h j)))
/-- the same as a list of cells -/
def bl (h : Nat → Bool) (n : Nat) : List Value := (List.range n).map fun j => .bool (h j)
theorem bl_succ (h : Nat → Bool) (n : Nat) : bl h (n + 1) = bl h n ++ [.bool (h n)] := by simp [bl, List.range_succ]
/-- n bools in a row of the call's own -/
abbrev Rb (w : World) (B : Nat) (v : Value) (n : Nat) (h : Nat → Bool) : Prop := w.ownsRow B 4 1 v n (bl h n)
theorem Rb.form {w : World} {B : Nat} {v : Value} {n : Nat} {h : Nat → Bool} (r : Rb w B v n h) : (v = .slice none 0 0 ∧ n = 0) ∨ ∃ g cap, v = sl g n cap ∧ B ≤ g ∧ Wc w g n ∧ ∀ j, j < n → w.cell? ⟨g, j, none⟩ = some (.bool (h j)) := by
  rcases r.2 with ⟨h', hn⟩ | ⟨g, cap, cur, h', hb, hg, hnc, hcm, hcs, htake⟩
  · exact .inl ⟨h', hn⟩
  · subst h'
    refine .inr ⟨g, cap, rfl, hb, ⟨cur, _, hg, by omega⟩, fun j hj => ?_⟩
    have := World.ownsRow.cellAt r j (by omega)
    rw [this]
    simp [bl, hj]
theorem Rb.sb {w : World} {B : Nat} {v : Value} {n : Nat} {h : Nat → Bool} (r : Rb w B v n h) : Sb w v n h := by
  rcases r.form with ⟨rfl, rfl⟩ | ⟨g, cap, rfl, _, _, hc⟩
  · exact ⟨none, 0, rfl, fun hp => by omega⟩
  · exact ⟨_, cap, rfl, fun _ => ⟨g, 0, rfl, fun j hj => by rw [Nat.zero_add]; exact hc j hj⟩⟩

/-- what a law knows of a row of bools that was answered: in a block between B and E, or nil -/
def Bo (w : World) (B E : Nat) (v : Value) (n : Nat) (h : Nat → Bool) : Prop :=
  (v = .slice none 0 0 ∧ n = 0) ∨ ∃ g cap, v = sl g n cap ∧ B ≤ g ∧ g < E ∧ Wc w g n ∧ ∀ j, j < n → w.cell? ⟨g, j, none⟩ = some (.bool (h j))
theorem Rb.bo {w : World} {B : Nat} {v : Value} {n : Nat} {h : Nat → Bool} (r : Rb w B v n h) : Bo w B w.heap.size v n h := by
  rcases r.form with x | ⟨g, cap, e, hb, hw, hc⟩
  · exact .inl x
  · exact .inr ⟨g, cap, e, hb, hw.lt, hw, hc⟩
theorem Bo.sb {w : World} {B E : Nat} {v : Value} {n : Nat} {h : Nat → Bool} (r : Bo w B E v n h) : Sb w v n h := by
  rcases r with ⟨rfl, rfl⟩ | ⟨g, cap, rfl, _, _, _, hc⟩
  · exact ⟨none, 0, rfl, fun hp => by omega⟩
  · exact ⟨_, cap, rfl, fun _ => ⟨g, 0, rfl, fun j hj => by rw [Nat.zero_add]; exact hc j hj⟩⟩
theorem Bo.below {w w' : World} {B E : Nat} {v : Value} {n : Nat} {h : Nat → Bool} (r : Bo w B E v n h) (hb : Below w.heap.size w w') : Bo w' B E v n h := by
  rcases r with x | ⟨g, cap, e, h1, h2, hw, hc⟩
  · exact .inl x
  · exact .inr ⟨g, cap, e, h1, h2, hw.below hb, fun j hj => keepc hb (hc j hj)⟩
theorem Bo.drew {w : World} {B E : Nat} {v : Value} {n : Nat} {h : Nat → Bool} (r : Bo w B E v n h) : Bo w.drew B E v n h := r.below ((Below.refl _ _).drew)
theorem Bo.chg {S : Nat → Prop} {w w' : World} {B E : Nat} {v : Value} {n : Nat} {h : Nat → Bool} (r : Bo w B E v n h) (hc : Chg S w w') (hS : ∀ j, B ≤ j → j < E → ¬ S j) : Bo w' B E v n h := by
  rcases r with x | ⟨g, cap, e, h1, h2, hw, hcc⟩
  · exact .inl x
  · exact .inr ⟨g, cap, e, h1, h2, hc.keep _ _ hw, fun j hj => hc.cell (hS g h1 h2) (hcc j hj)⟩

set_option maxHeartbeats 400000 in
theorem eqBoolS_same (a b : Value) (n : Nat) (h : Nat → Bool) (w : World) (ha : Sb w a n h) (hb : Sb w b n h) (hl : n ≤ 1048576) :
    Calls Try.prog 35 #[a, b] w fun e w' => e = .returned (.bool true) ∧ Below w.heap.size w w' := by
  obtain ⟨ad, cap, rfl, ha⟩ := ha
  obtain ⟨bd, cbp, rfl, hb⟩ := hb
  go_enter Try.func35, Try.ntmps35
  go_wp2
  go_loopw [5] (fun i wr => ∃ k : Nat, k ≤ n ∧ i = .int .i64 k ∧ Below w.heap.size w wr) (fun i _ => n - (intOf i).toNat)
  case atStart => exact ⟨0, Nat.zero_le _, rfl, Below.refl _ _⟩
  case round =>
    obtain ⟨k, hk, rfl, hbk⟩ := hrel
    by_cases hlt : k < n
    · obtain ⟨p, off, rfl, hc⟩ := ha (by omega)
      obtain ⟨q, off', rfl, hd⟩ := hb (by omega)
      have hck : wr.cell? ⟨p, off + k, none⟩ = some (.bool (h k)) := Below.keep hbk _ _ (hc k hlt)
      have hdk : wr.cell? ⟨q, off' + k, none⟩ = some (.bool (h k)) := Below.keep hbk _ _ (hd k hlt)
      generalize h k = z at hck hdk
      clear hc hd ha hb
      go_wp2
      go_quiet (fail)
      all_goals go_wp2
      all_goals go_roundw
      case rel => exact ⟨k + 1, by omega, by go_num, below_drewN hbk _⟩
      case measure => simp [intOf]; omega
    · go_wp2
      go_ret
      exact ⟨rfl, hbk⟩

/-- n bools marked from k0 on -/
def Vb (w : World) (g n : Nat) (k0 : Int) : Prop := ∀ j : Nat, j < n → w.cell? ⟨g, j, none⟩ = some (.bool ((k0 + (j : Int)) % 3 == 0))
theorem Vb.put {w : World} {g n len : Nat} {k0 : Int} (h : Vb w g n k0) (hw : Wc w g len) (hn : n < len) : Vb (w.setCell ⟨g, n, none⟩ (.bool ((k0 + (n : Int)) % 3 == 0))) g (n + 1) k0 := by
  intro j hj
  by_cases e : j = n
  · subst e
    obtain ⟨u, hu⟩ := hw.facts.2 j hn
    rw [World.cell?_setCell_same (h := hu)]
  · rw [far_set (by omega)]
    exact h j (by omega)

set_option maxHeartbeats 2000000 in
theorem markBoolS_any (ad : Option Addr) (g n cap : Nat) (k0 : Int) (w : World) (h0 : 0 ≤ k0) (h1 : k0 ≤ 1152921504606846976) (ha : 0 < n → ad = some ⟨g, 0, none⟩) (hw : 0 < n → Wc w g n) (hl : n ≤ 1048576) :
    Calls Try.prog 38 #[.slice ad n cap, .int .i64 k0] w fun e w' => e = .returned (.int .i64 (k0 + n)) ∧ Chg (fun j => 0 < n ∧ j = g) w w' ∧ Vb w' g n k0 := by
  go_enter Try.func38, Try.ntmps38
  go_wp2
  go_loopw [1, 5] (fun t i wr => ∃ j : Nat, j ≤ n ∧ i = .int .i64 j ∧ t = .int .i64 (k0 + j) ∧ Chg (fun j => 0 < n ∧ j = g) w wr ∧ Hid (Vb wr g j k0)) (fun _ i _ => n - (intOf i).toNat)
  case atStart => exact ⟨0, Nat.zero_le _, rfl, by simp, Chg.refl _ _, hide (fun x hx => by omega)⟩
  case round =>
    obtain ⟨j, hj, rfl, rfl, hgj, HV⟩ := hrel
    by_cases hlt : j < n
    · obtain rfl := ha (by omega)
      have hpos : 0 < n := by omega
      have HW := hide (hgj.keep _ _ (hw hpos))
      obtain ⟨fr, hc⟩ := HW.out.facts
      obtain ⟨o0, r0⟩ := hc j (by omega)
      have HB := hide hgj
      have HP := hide (HV.out.put HW.out (by omega))
      clear hgj hc hw HV HW ha
      go_wp2
      go_roundw
      case rel => exact ⟨j + 1, by omega, by go_num, by go_num, HB.out.set ⟨hpos, rfl⟩ _, HP⟩
      case measure => simp [intOf]; omega
    · have e : j = n := by omega
      subst e
      clear hw ha
      go_wp2
      go_ret
      exact ⟨rfl, hgj, HV.out⟩

set_option maxHeartbeats 2000000 in
theorem heldBoolS_any (ad : Option Addr) (g n cap : Nat) (k0 : Int) (w : World) (h0 : 0 ≤ k0) (h1 : k0 ≤ 1152921504606846976) (ha : 0 < n → ad = some ⟨g, 0, none⟩) (hv : Vb w g n k0) (hl : n ≤ 1048576) :
    Calls Try.prog 39 #[.slice ad n cap, .int .i64 k0] w fun e w' => e = .returned (.int .i64 (k0 + n)) ∧ w' = w := by
  go_enter Try.func39, Try.ntmps39
  go_wp2
  go_loopw [1, 5] (fun t i wr => ∃ j : Nat, j ≤ n ∧ i = .int .i64 j ∧ t = .int .i64 (k0 + j) ∧ wr = w) (fun _ i _ => n - (intOf i).toNat)
  case atStart => exact ⟨0, Nat.zero_le _, rfl, by simp, rfl⟩
  case round =>
    obtain ⟨j, hj, rfl, rfl, rfl⟩ := hrel
    by_cases hlt : j < n
    · obtain rfl := ha (by omega)
      have x0 := hv j hlt
      clear hv ha
      cases hb : ((k0 + (j : Int)) % 3 == 0)
      all_goals rw [hb] at x0
      all_goals go_wp2
      all_goals go_roundw
      case rel => exact ⟨j + 1, by omega, by go_num, by go_num, by first | rfl | trivial⟩
      case measure => simp [intOf]; omega
      case rel => exact ⟨j + 1, by omega, by go_num, by go_num, by first | rfl | trivial⟩
      case measure => simp [intOf]; omega
    · have e : j = n := by omega
      subst e
      clear ha hv
      go_wp2
      go_ret
      exact ⟨rfl, rfl⟩

set_option maxHeartbeats 2000000 in
theorem markInts_any (g n cap : Nat) (k0 : Int) (w : World) (h0 : 0 ≤ k0) (h1 : k0 ≤ 1152921504606846976) (hw : Wc w g n) (hl : n ≤ 1048576) :
    Calls Try.prog 37 #[.slice (some ⟨g, 0, none⟩) n cap, .int .i64 k0] w fun e w' => e = .returned (.int .i64 (k0 + n)) ∧ Chg (· = g) w w' := by
  go_enter Try.func37, Try.ntmps37
  go_wp2
  go_loopw [1, 5] (fun t i wr => ∃ j : Nat, j ≤ n ∧ i = .int .i64 j ∧ t = .int .i64 (k0 + j) ∧ Chg (· = g) w wr) (fun _ i _ => n - (intOf i).toNat)
  case atStart => exact ⟨0, Nat.zero_le _, rfl, by simp, Chg.refl _ _⟩
  case round =>
    obtain ⟨j, hj, rfl, rfl, hgj⟩ := hrel
    by_cases hlt : j < n
    · have HW := hide (hgj.keep _ _ hw)
      obtain ⟨fr, hc⟩ := HW.out.facts
      obtain ⟨o0, r0⟩ := hc j (by omega)
      have HB := hide hgj
      clear hgj hc hw HW
      go_wp2
      go_roundw
      case rel => exact ⟨j + 1, by omega, by go_num, by go_num, HB.out.set rfl _⟩
      case measure => simp [intOf]; omega
    · have e : j = n := by omega
      subst e
      go_wp2
      go_ret
      exact ⟨rfl, hgj⟩

/-- an answered row that is marked from k0 on -/
def Bm (w : World) (v : Value) (n : Nat) (k0 : Int) : Prop := (v = .slice none 0 0 ∧ n = 0) ∨ ∃ g cap, v = sl g n cap ∧ Vb w g n k0
theorem Bm.below {w w' : World} {v : Value} {n : Nat} {k0 : Int} (h : Bm w v n k0) (hb : Below w.heap.size w w') : Bm w' v n k0 := by
  rcases h with x | ⟨g, cap, e, h⟩
  · exact .inl x
  · exact .inr ⟨g, cap, e, fun j hj => keepc hb (h j hj)⟩
theorem markBo {w : World} {B E : Nat} {v : Value} {n : Nat} {h : Nat → Bool} (k0 : Int) (h0 : 0 ≤ k0) (h1 : k0 ≤ 1152921504606846976) (r : Bo w B E v n h) (hl : n ≤ 1048576) : Calls Try.prog 38 #[v, .int .i64 k0] w fun e w' => e = .returned (.int .i64 (k0 + n)) ∧ Chg (fun j => B ≤ j ∧ j < E) w w' ∧ Bm w' v n k0 := by
  rcases r with ⟨rfl, rfl⟩ | ⟨g, cap, rfl, hb, he, hw, _⟩
  · refine (markBoolS_any none 0 0 0 k0 w h0 h1 (fun h => by omega) (fun h => by omega) hl).mono ?_
    rintro e w' ⟨rfl, hc, _⟩
    exact ⟨rfl, hc.mono (fun j hj => by omega), .inl ⟨rfl, rfl⟩⟩
  · refine (markBoolS_any _ g n cap k0 w h0 h1 (fun _ => rfl) (fun _ => hw) hl).mono ?_
    rintro e w' ⟨rfl, hc, hv⟩
    exact ⟨rfl, hc.mono (fun j hj => by omega), .inr ⟨g, cap, rfl, hv⟩⟩
theorem heldBm {w : World} {v : Value} {n : Nat} (k0 : Int) (h0 : 0 ≤ k0) (h1 : k0 ≤ 1152921504606846976) (r : Bm w v n k0) (hl : n ≤ 1048576) : Calls Try.prog 39 #[v, .int .i64 k0] w fun e w' => e = .returned (.int .i64 (k0 + n)) ∧ w' = w := by
  rcases r with ⟨rfl, rfl⟩ | ⟨g, cap, rfl, hv⟩
  · exact heldBoolS_any none 0 0 0 k0 w h0 h1 (fun h => by omega) (fun j hj => by omega) hl
  · exact heldBoolS_any _ g n cap k0 w h0 h1 (fun _ => rfl) hv hl

end Go.Proofs.Ytcbadkljmcpghaa
