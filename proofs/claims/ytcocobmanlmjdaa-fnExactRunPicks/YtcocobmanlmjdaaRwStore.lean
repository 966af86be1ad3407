/- slices of Store: copied, compared (written by mkRow.py) -/
import Derived.Test.YtcocobmanlmjdaaTsS
import Derived.Deep.RegionHeld3
namespace Go.Proofs.Ytcocobmanlmjdaa
open Go.RowKit
set_option linter.unusedVariables false
set_option linter.unusedSimpArgs false

theorem infoStore : (Try.prog.info? 103).map (fun i => (i.zero, i.size, i.bytes)) = some (some (.agg #[.int .i64 0, .int .i64 0]), 2, 16) := by kernel_rfl

/-- the cells of a struct of a row that is the call's own -/
theorem Orow.at2 {w : World} {base g n cap k j : Nat} {T : TypeId} {f : Nat → Nat → Int} (hj : j < n) (h : Orow w base T 2 (.slice (some ⟨g, 0, none⟩) n cap) n k f) :
    (∀ i, w.frozen? ⟨g, i, none⟩ = false) ∧ (∃ o, w.cell? ⟨g, j * 2, none⟩ = some o) ∧ (∃ o, w.cell? ⟨g, j * 2 + 1, none⟩ = some o) := by
  refine ⟨fun i => World.ownsRow.frozenAt h i, ?_, ?_⟩
  · have := World.ownsRow.cellAt h (j * 2) (by omega)
    rw [rowC_get (by omega)] at this
    exact ⟨_, this⟩
  · have := World.ownsRow.cellAt h (j * 2 + 1) (by omega)
    rw [rowC_get (by omega)] at this
    exact ⟨_, this⟩

theorem keepR2 {w W W' : World} {p0 p1 p2 p3 : Addr} {x0 x1 x2 x3 : Value} (h : Below w.heap.size w W ∧ W.cell? p0 = some x0 ∧ W.cell? p1 = some x1 ∧ W.cell? p2 = some x2 ∧ W.cell? p3 = some x3) (hb : Below W.heap.size W W') : Below w.heap.size w W' ∧ W'.cell? p0 = some x0 ∧ W'.cell? p1 = some x1 ∧ W'.cell? p2 = some x2 ∧ W'.cell? p3 = some x3 := ⟨h.1.trans (hb.mono h.1.size), keepc hb h.2.1, keepc hb h.2.2.1, keepc hb h.2.2.2.1, keepc hb h.2.2.2.2⟩

set_option maxHeartbeats 4000000 in
theorem eqStoreS_same (a b : Value) (n : Nat) (f : Nat → Nat → Int) (w : World) (ha : Sr w a 2 n f) (hb : Sr w b 2 n f) (hl : n ≤ 1048576) :
    Calls Try.prog 59 #[a, b] w fun e w' => e = .returned (.bool true) ∧ Below w.heap.size w w' := by
  obtain ⟨ad, cap, rfl, ha⟩ := ha
  obtain ⟨bd, cbp, rfl, hb⟩ := hb
  go_enter Try.func59, Try.ntmps59
  go_wp2
  go_loopw [5] (fun i wr => ∃ k : Nat, k ≤ n ∧ i = .int .i64 k ∧ Below w.heap.size w wr) (fun i _ => n - (intOf i).toNat)
  case atStart => exact ⟨0, Nat.zero_le _, rfl, Below.refl _ _⟩
  case round =>
    obtain ⟨k, hk, rfl, hbk⟩ := hrel
    by_cases hlt : k < n
    · obtain ⟨p, off, rfl, hc⟩ := ha (by omega)
      obtain ⟨q, off', rfl, hd⟩ := hb (by omega)
      have c0 : wr.cell? ⟨p, off + k * 2, none⟩ = some (.int .i64 (f k 0)) := Below.keep hbk _ _ (hc k hlt 0 (by decide))
      have c1 : wr.cell? ⟨p, off + k * 2 + 1, none⟩ = some (.int .i64 (f k 1)) := Below.keep hbk _ _ (hc k hlt 1 (by decide))
      have d0 : wr.cell? ⟨q, off' + k * 2, none⟩ = some (.int .i64 (f k 0)) := Below.keep hbk _ _ (hd k hlt 0 (by decide))
      have d1 : wr.cell? ⟨q, off' + k * 2 + 1, none⟩ = some (.int .i64 (f k 1)) := Below.keep hbk _ _ (hd k hlt 1 (by decide))
      clear hc hd ha hb
      have hk0 : (0 : Int) ≤ (k : Int) := by omega
      have hk1 : (k : Int) < (n : Int) := by omega
      go_wp2
      go_region_held3 (fun w' => Below w.heap.size w w' ∧ w'.cell? ⟨p, off + k * 2, none⟩ = some (.int .i64 (f k 0)) ∧ w'.cell? ⟨p, off + k * 2 + 1, none⟩ = some (.int .i64 (f k 1)) ∧ w'.cell? ⟨q, off' + k * 2, none⟩ = some (.int .i64 (f k 0)) ∧ w'.cell? ⟨q, off' + k * 2 + 1, none⟩ = some (.int .i64 (f k 1))) (first | exact ⟨hbk.drew, c0, c1, d0, d1⟩ | exact keepR2 (by assumption) hbc) (first | (go_at_call 77; refine (eqStore_same _ _ _).mono ?_; rintro e w2 ⟨rfl, hbc⟩))
      all_goals go_wp2
      all_goals rename_i hS
      all_goals go_roundw
      case rel => exact ⟨k + 1, by omega, by go_num, hS.1⟩
      case measure => simp [intOf]; omega
    · go_wp2
      go_ret
      exact ⟨rfl, hbk⟩

end Go.Proofs.Ytcocobmanlmjdaa
