/- the reader of a code: what is known of it; next -/
import Derived.Test.YtokekgfompbdiaaDoorView
import Derived.Test.YtokekgfompbdiaaDoorChecked
import Derived.WalkSpells
import Derived.WalkLawsBesides
import Derived.Deep.QuietTactic
import Derived.BigQuiet
namespace Go.Proofs.YtokekgfompbdiaaDoor
open Go.RowKit

/-- a reader lies in block g: its bytes lie in an elder block -/
def Rdr (w : World) (g : Nat) : Prop :=
  ∃ (ad : Option Addr) (n cap p : Nat), w.heap[g]? = some (.cells #[.slice ad n cap, .int .i64 p] 76 (0, 0)) ∧ p ≤ n ∧ n ≤ 1048576 ∧
    (0 < n → ∃ b off, ad = some ⟨b, off, none⟩ ∧ b < g ∧ ∀ j, j < n → ∃ c : Int, 0 ≤ c ∧ c ≤ 255 ∧ w.cell? ⟨b, off + j, none⟩ = some (.int .u8 c))

theorem Rdr.lt {w : World} {g : Nat} (h : Rdr w g) : g < w.heap.size := by
  obtain ⟨ad, n, cap, p, hh, _⟩ := h
  exact lt_of_block hh

/-- what writes to younger blocks alone leaves the reader -/
theorem Rdr.grown {w w' : World} {g : Nat} {row : Option Nat} (h : Rdr w g) (hg : w.grownBy w' row) (hr : ∀ k, row = some k → g < k) : Rdr w' g := by
  have hlt := h.lt
  obtain ⟨ad, n, cap, p, hh, hp, hn, hb⟩ := h
  refine ⟨ad, n, cap, p, ?_, hp, hn, fun h0 => ?_⟩
  · rw [hg.block g hlt (fun e => by have := hr g e.symm; omega)]; exact hh
  · obtain ⟨b, off, rfl, hbg, hc⟩ := hb h0
    refine ⟨b, off, rfl, hbg, fun j hj => ?_⟩
    obtain ⟨c, h1, h2, h3⟩ := hc j hj
    exact ⟨c, h1, h2, hg.cell h3 (fun e => by have := hr b e.symm; omega)⟩

theorem Rdr.below {w w' : World} {g : Nat} (h : Rdr w g) (hb : Below w.heap.size w w') : Rdr w' g := h.grown (grown_of_below hb) (fun k hk => by cases hk)

/-- the world behind the reader's step -/
theorem next_world {w : World} {g n cap p b off : Nat} {c : Int} (hh : w.heap[g]? = some (.cells #[.slice (some ⟨b, off, none⟩) n cap, .int .i64 p] 76 (0, 0))) (hlt : p < n) (hn : n ≤ 1048576) (hbg : b < g)
    (hc : ∀ j, j < n → ∃ c : Int, 0 ≤ c ∧ c ≤ 255 ∧ w.cell? ⟨b, off + j, none⟩ = some (.int .u8 c)) (hcell : w.cell? ⟨b, off + p, none⟩ = some (.int .u8 c)) (m : Nat) (W : World) (hW : (w.drewN m).setCell ⟨g, 1, none⟩ (.int .i64 ((p : Int) + 1)) = W) :
    W.cell? ⟨g, 0, none⟩ = some (.slice (some ⟨b, off, none⟩) n cap) ∧ W.cell? ⟨g, 1, none⟩ = some (.int .i64 ((p : Int) + 1)) ∧ W.cell? ⟨b, off + p, none⟩ = some (.int .u8 c) ∧ Rdr W g ∧ w.grownBy W (some g) := by
  have hh' : (w.drewN m).heap[g]? = some (.cells #[.slice (some ⟨b, off, none⟩) n cap, .int .i64 p] 76 (0, 0)) := hh
  have h2 := heap_setCell_same (w.drewN m) g 1 _ _ (.int .i64 ((p : Int) + 1)) hh'
  rw [hW] at h2
  have ho : ∀ k, k ≠ g → W.heap[k]? = w.heap[k]? := fun k hk => by rw [← hW]; exact heap_setCell_other (w.drewN m) ⟨g, 1, none⟩ k _ hk
  have hoc : ∀ (a : Addr), a.block ≠ g → W.cell? a = w.cell? a := fun a ha => World.cell?_of_block (ho a.block ha)
  refine ⟨by rw [cell_of_row W g 0 _ _ _ h2]; rfl, by rw [cell_of_row W g 1 _ _ _ h2]; rfl, by rw [hoc _ (by show b ≠ g; omega)]; exact hcell, ?_, ?_⟩
  · refine ⟨some ⟨b, off, none⟩, n, cap, p + 1, h2, by omega, hn, fun _ => ⟨b, off, rfl, hbg, fun j hj => ?_⟩⟩
    rw [hoc _ (by show b ≠ g; omega)]
    exact hc j hj
  · rw [← hW]
    refine ⟨rfl, rfl, rfl, by simp, fun k _ hk => heap_setCell_other (w.drewN m) ⟨g, 1, none⟩ k _ (fun e => hk (by simp [e]))⟩

set_option maxHeartbeats 1000000 in
theorem next_any (g : Nat) (w : World) (h : Rdr w g) :
    Calls Tryd.prog 58 #[.pointer (some ⟨g, 0, none⟩)] w fun e w' => ∃ c : Int, e = .returned (.int .i64 c) ∧ 0 ≤ c ∧ c ≤ 255 ∧ Rdr w' g ∧ w.grownBy w' (some g) := by
  have hR := hide h
  obtain ⟨ad, n, cap, p, hh, hp, hn, hb⟩ := h
  have hc0 : w.cell? ⟨g, 0, none⟩ = some (.slice ad n cap) := by rw [cell_of_row w g 0 _ _ _ hh]; rfl
  have hc1 : w.cell? ⟨g, 1, none⟩ = some (.int .i64 p) := by rw [cell_of_row w g 1 _ _ _ hh]; rfl
  have hf1 : w.frozen? ⟨g, 1, none⟩ = false := frozen_of_row w g 1 _ _ hh
  have HH := hide hh
  clear hh
  by_cases hlt : p < n
  · obtain ⟨b, off, rfl, hbg, hc⟩ := hb (by omega)
    obtain ⟨c, hc0', hc255, hcell⟩ := hc p hlt
    have hne : ¬ b = g := by omega
    have hq : decide ((n : Int) ≤ (p : Int)) = false := by simp; omega
    have HC := hide hc
    clear hc hb
    go_enter Tryd.func58, Tryd.ntmps58
    go_wp2
    go_quiet (fail)
    all_goals go_wp2
    generalize hW : (w.drewN _).setCell ⟨g, 1, none⟩ (.int .i64 ((p : Int) + 1)) = W
    obtain ⟨d0, d1, d2, d3, d4⟩ := next_world HH.out hlt hn hbg HC.out hcell _ W hW
    have HF := hide (And.intro d3 d4)
    clear hW d3 d4 hcell hc0 hc1 hf1
    go_quiet (fail)
    all_goals go_wp2
    go_ret
    exact ⟨c, rfl, hc0', hc255, HF.out.1.grown (grown_drewN _ _ none) (fun k hk => by cases hk), grown_trans HF.out.2 (grown_drewN _ _ _)⟩
  · have hq : decide ((n : Int) ≤ (p : Int)) = true := by simp; omega
    clear hb
    go_enter Tryd.func58, Tryd.ntmps58
    go_wp2
    go_quiet (fail)
    all_goals go_wp2
    go_ret
    exact ⟨0, rfl, by omega, by omega, hR.out.grown (grown_drewN _ _ none) (fun k hk => by cases hk), grown_drewN _ _ _⟩

end Go.Proofs.YtokekgfompbdiaaDoor
