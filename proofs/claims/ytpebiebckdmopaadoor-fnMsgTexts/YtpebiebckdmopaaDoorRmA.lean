/- impl.msgReader: word, number -/
import Derived.Test.YtpebiebckdmopaaDoorNumB
import Derived.Test.YtpebiebckdmopaaDoorMsgD
namespace Go.Proofs.YtpebiebckdmopaaDoor
open Go.RowKit

/-- the reader in block g has these words left -/
def Rs (w : World) (g : Nat) (ws : List (List UInt8)) : Prop :=
  ∃ (ad : Option Addr) (cap : Nat), w.heap[g]? = some (.cells #[.slice ad ws.length cap] 43 (0, 0)) ∧ ws.length ≤ cap ∧ cap ≤ 2097152 ∧
    (0 < ws.length → ∃ b off, ad = some ⟨b, off, none⟩ ∧ b < g ∧ ∀ j, j < ws.length → w.cell? ⟨b, off + j, none⟩ = some (.string (bstr (ws.getD j [])))) ∧ ∀ x ∈ ws, x.length ≤ 1048576

theorem Rs.lt {w : World} {g : Nat} {ws : List (List UInt8)} (h : Rs w g ws) : g < w.heap.size := by
  obtain ⟨ad, cap, hh, _⟩ := h
  exact lt_of_block hh

theorem Rs.grown {w w' : World} {g : Nat} {ws : List (List UInt8)} {row : Option Nat} (h : Rs w g ws) (hg : w.grownBy w' row) (hr : ∀ k, row = some k → g < k) : Rs w' g ws := by
  have hlt := h.lt
  obtain ⟨ad, cap, hh, hc1, hc2, hb, hx⟩ := h
  refine ⟨ad, cap, ?_, hc1, hc2, fun h0 => ?_, hx⟩
  · rw [hg.block g hlt (fun e => by have := hr g e.symm; omega)]; exact hh
  · obtain ⟨b, off, rfl, hbg, hc⟩ := hb h0
    exact ⟨b, off, rfl, hbg, fun j hj => hg.cell (hc j hj) (fun e => by have := hr b e.symm; omega)⟩

theorem rgrown_of_below {w w' : World} (hb : Below w.heap.size w w') : w.grownBy w' none := ⟨hb.os, hb.tape, hb.output, hb.size, fun k hk _ => hb.block k hk⟩
theorem Rs.below {w w' : World} {g : Nat} {ws : List (List UInt8)} (h : Rs w g ws) (hb : Below w.heap.size w w') : Rs w' g ws := h.grown (rgrown_of_below hb) (fun k hk => by cases hk)
theorem rgrown_trans {w w1 w2 : World} {row : Option Nat} (h : w.grownBy w1 row) (k : w1.grownBy w2 row) : w.grownBy w2 row :=
  ⟨k.os.trans h.os, k.tape.trans h.tape, k.output.trans h.output, Nat.le_trans h.size k.size, fun j hj hne => (k.block j (Nat.lt_of_lt_of_le hj h.size) hne).trans (h.block j hj hne)⟩

/-- the panic of the reader -/
def noMsg : List UInt8 := [116, 104, 105, 115, 32, 116, 101, 120, 116, 32, 105, 115, 32, 110, 111, 32, 109, 101, 115, 115, 97, 103, 101]
abbrev gaveUp : List PanicEntry := [{ v := .iface 9 (.string (bstr noMsg)), recovered := false }]

/-- behind the first word -/
theorem word_world {w : World} {g cap b off : Nat} {x : List UInt8} {r : List (List UInt8)} {ad' : Option Addr} (hh : w.heap[g]? = some (.cells #[.slice (some ⟨b, off, none⟩) (r.length + 1) cap] 43 (0, 0))) (hc1 : r.length + 1 ≤ cap) (hc2 : cap ≤ 2097152) (hbg : b < g)
    (hc : ∀ j, j < r.length + 1 → w.cell? ⟨b, off + j, none⟩ = some (.string (bstr ((x :: r).getD j [])))) (hx : ∀ y ∈ x :: r, y.length ≤ 1048576) (had : 0 < r.length → ad' = some ⟨b, off + 1, none⟩) :
    Rs (w.setCell ⟨g, 0, none⟩ (.slice ad' r.length (cap - 1))) g r ∧ w.grownBy (w.setCell ⟨g, 0, none⟩ (.slice ad' r.length (cap - 1))) (some g) := by
  have h2 := heap_setCell_same w g 0 _ _ (.slice ad' r.length (cap - 1)) hh
  have ho : ∀ k, k ≠ g → (w.setCell ⟨g, 0, none⟩ (.slice ad' r.length (cap - 1))).heap[k]? = w.heap[k]? := fun k hk => heap_setCell_other w ⟨g, 0, none⟩ k _ hk
  refine ⟨⟨ad', cap - 1, h2, by omega, by omega, fun h0 => ⟨b, off + 1, had h0, hbg, fun j hj => ?_⟩, fun y hy => hx y (List.mem_cons_of_mem _ hy)⟩, ⟨rfl, rfl, rfl, by simp, fun k _ hk => ho k (fun e => hk (by rw [e]))⟩⟩
  rw [World.cell?_of_block (a := ⟨b, off + 1 + j, none⟩) (ho b (by omega))]
  have := hc (j + 1) (by omega)
  have e : off + (j + 1) = off + 1 + j := by omega
  rw [e] at this
  rw [this]
  simp

set_option maxRecDepth 20000 in
set_option maxHeartbeats 1000000 in
theorem word_none (g : Nat) (w : World) (h : Rs w g []) :
    Calls Tryd.prog 54 #[.pointer (some ⟨g, 0, none⟩)] w fun e w' => e = .panicked gaveUp ∧ w' = w := by
  obtain ⟨ad, cap, hh, _⟩ := h
  have hc0 : w.cell? ⟨g, 0, none⟩ = some (.slice ad 0 cap) := by rw [cell_of_row w g 0 _ _ _ hh]; rfl
  clear hh
  go_enter Tryd.func54, Tryd.ntmps54
  go_wp2
  exact ⟨rfl, rfl, rfl⟩

set_option maxRecDepth 20000 in
set_option maxHeartbeats 1000000 in
theorem word_some (g : Nat) (w : World) (x : List UInt8) (r : List (List UInt8)) (h : Rs w g (x :: r)) :
    Calls Tryd.prog 54 #[.pointer (some ⟨g, 0, none⟩)] w fun e w' => e = .returned (.string (bstr x)) ∧ Rs w' g r ∧ w.grownBy w' (some g) := by
  obtain ⟨ad, cap, hh, hc1, hc2, hb, hx⟩ := h
  obtain ⟨b, off, rfl, hbg, hc⟩ := hb (by simp)
  obtain ⟨n, hn⟩ : ∃ n, r.length = n := ⟨_, rfl⟩
  have hh' : w.heap[g]? = some (.cells #[.slice (some ⟨b, off, none⟩) (n + 1) cap] 43 (0, 0)) := by rw [← hn]; exact hh
  have hc0 : w.cell? ⟨g, 0, none⟩ = some (.slice (some ⟨b, off, none⟩) (n + 1) cap) := by rw [cell_of_row w g 0 _ _ _ hh']; rfl
  have hf0 : w.frozen? ⟨g, 0, none⟩ = false := frozen_of_row w g 0 _ _ hh'
  have hcx : w.cell? ⟨b, off, none⟩ = some (.string (bstr x)) := by have := hc 0 (by simp); simpa using this
  have hcap : n + 1 ≤ cap := by rw [← hn]; simpa using hc1
  have HW := fun ad' had => hide (word_world (ad' := ad') hh (by simpa using hc1) hc2 hbg (by simpa using hc) hx had)
  have HN := hide hn
  have HW' := hide HW
  clear hh hh' hc hx hn HW hc1
  have hne : ((n : Int) + 1 == 0) = false := by rw [beq_eq_false_iff_ne]; omega
  have hcapi : (n : Int) + 1 ≤ (cap : Int) := by omega
  go_enter Tryd.func54, Tryd.ntmps54
  go_wp2
  · have hn0 : r.length = 0 := by rw [HN.out]; omega
    go_ret
    have := (HW'.out (some ⟨b, off, none⟩) (fun h0 => by omega)).out
    rw [HN.out] at this
    simp only [show cap - 1 = 0 by omega] at this
    exact ⟨rfl, this.1, this.2⟩
  · go_ret
    have := (HW'.out (some ⟨b, off + 1, none⟩) (fun _ => rfl)).out
    rw [HN.out] at this
    exact ⟨rfl, this.1, this.2⟩

end Go.Proofs.YtpebiebckdmopaaDoor
