/- spec.ReadMsg: its parts -/
import Derived.Test.YtpebiebckdmopaaDoorRmU
import Derived.Test.YtpebiebckdmopaaDoorRmC
import Derived.Test.YtpebiebckdmopaaDoorMsgF
import Derived.WalkSmall
import Derived.Deep.QuietTactic
import Derived.BigQuiet
namespace Go.Proofs.YtpebiebckdmopaaDoor
open Go.RowKit

/-- the last kind below k whose word this is -/
def kUp (x : List UInt8) : Nat → Nat
  | 0 => 0
  | k + 1 => if k ≠ 0 ∧ shapeWord k = x then k else kUp x k
theorem kUp_le (x : List UInt8) (k : Nat) : kUp x k ≤ k - 1 := by
  induction k with
  | zero => simp [kUp]
  | succ k ih => simp only [kUp]; split <;> omega
theorem kUp_yes {x : List UInt8} {k : Nat} (h1 : 1 ≤ k) (h : shapeWord k = x) : kUp x (k + 1) = k := by simp only [kUp]; rw [if_pos ⟨by omega, h⟩]
theorem kUp_no {x : List UInt8} {k : Nat} (h : shapeWord k ≠ x) : kUp x (k + 1) = kUp x k := by simp only [kUp]; rw [if_neg (fun e => h e.2)]
theorem kUp_word : ∀ n ∈ [1, 2, 3, 4, 5, 6, 7, 8, 9], kUp (shapeWord n) 10 = n := by decide

/-- the kind that is read -/
def kOf : List (List UInt8) → Nat
  | [] => 0
  | x :: _ => kUp x 10
theorem kOf_le (ws : List (List UInt8)) : kOf ws ≤ 9 := by
  cases ws with
  | nil => simp [kOf]
  | cons x r => exact kUp_le x 10

theorem kinds0 {k : Nat} (h9 : k ≤ 9) : k = 0 ∨ k = 1 ∨ k = 2 ∨ k = 3 ∨ k = 4 ∨ k = 5 ∨ k = 6 ∨ k = 7 ∨ k = 8 ∨ k = 9 := by omega

set_option maxHeartbeats 400000 in
theorem l2Core_all (k : Nat) (w : World) (h9 : k ≤ 9) : Calls Tryd.prog 31 #[.int .i64 (k : Int)] w fun e w' => e = .returned (.bool (shapeHome k)) ∧ w' = w := by
  rcases kinds0 h9 with rfl | rfl | rfl | rfl | rfl | rfl | rfl | rfl | rfl | rfl
  all_goals
    go_enter Tryd.func31, Tryd.ntmps31
    go_wp2
    go_ret
    exact ⟨rfl, rfl⟩

set_option maxHeartbeats 400000 in
theorem l2Wants_all (k : Nat) (w : World) (h9 : k ≤ 9) : Calls Tryd.prog 22 #[.int .i64 (k : Int)] w fun e w' => e = .returned (.bool (shapeWant k)) ∧ w' = w := by
  rcases kinds0 h9 with rfl | rfl | rfl | rfl | rfl | rfl | rfl | rfl | rfl | rfl
  all_goals
    go_enter Tryd.func22, Tryd.ntmps22
    go_wp2
    go_ret
    exact ⟨rfl, rfl⟩

set_option maxHeartbeats 400000 in
theorem l2Holds_all (k : Nat) (w : World) (h9 : k ≤ 9) : Calls Tryd.prog 23 #[.int .i64 (k : Int)] w fun e w' => e = .returned (.bool (shapeData k)) ∧ w' = w := by
  rcases kinds0 h9 with rfl | rfl | rfl | rfl | rfl | rfl | rfl | rfl | rfl | rfl
  all_goals
    go_enter Tryd.func23, Tryd.ntmps23
    go_wp2
    go_ret
    exact ⟨rfl, rfl⟩

set_option maxHeartbeats 1000000 in
theorem l2Words_all (w : World) :
    Calls Tryd.prog 20 #[] w fun e w' => ∃ g, e = .returned (.slice (some ⟨g, 0, none⟩) 10 10) ∧ w.heap.size ≤ g ∧ (∀ n, n < 10 → w'.cell? ⟨g, n, none⟩ = some (.string (bstr (shapeWord n)))) ∧ Below w.heap.size w w' := by
  go_enter Tryd.func20, Tryd.ntmps20
  go_wp2
  go_ret
  refine ⟨_, rfl, Nat.le_refl _, fun n hn => ?_, (Below.refl _ _).alloc (Nat.le_refl _) _⟩
  have : n = 0 ∨ n = 1 ∨ n = 2 ∨ n = 3 ∨ n = 4 ∨ n = 5 ∨ n = 6 ∨ n = 7 ∨ n = 8 ∨ n = 9 := by omega
  rw [World.cell?_alloc_mark]
  rcases this with rfl | rfl | rfl | rfl | rfl | rfl | rfl | rfl | rfl | rfl <;> rfl

/-- the world on the way; the words lie ahead of block B -/
structure SS (w : World) (R B : Nat) (m : Array Value) (v : Value) (ws : List (List UInt8)) (wx : World) : Prop where
  be : Below w.heap.size w wx
  Rl : w.heap.size ≤ R
  RB : R < B
  hR : wx.heap[R]? = some (.cells #[.int .i64 0, .int .i64 0, .int .i64 0, .int .i64 0, .int .i64 0, .int .i64 0] 25 (0, 0))
  hB : wx.heap[B]? = some (.cells m 25 (0, 0))
  wd : Wd wx v ws
  ahead : ∀ a n c, v = .slice (some a) n c → 0 < n → a.block ≠ B

theorem SS.next {w wx wy : World} {R B : Nat} {m : Array Value} {v : Value} {ws : List (List UInt8)} (h : SS w R B m v ws wx) (hb : Below wx.heap.size wx wy) : SS w R B m v ws wy := by
  refine ⟨h.be.trans (hb.mono h.be.size), h.Rl, h.RB, ?_, ?_, h.wd.below hb, h.ahead⟩
  · rw [hb.block R (lt_of_block h.hR)]; exact h.hR
  · rw [hb.block B (lt_of_block h.hB)]; exact h.hB

theorem SS.drewN {w wx : World} {R B : Nat} {m : Array Value} {v : Value} {ws : List (List UInt8)} (h : SS w R B m v ws wx) (n : Nat) : SS w R B m v ws (wx.drewN n) := h.next ⟨rfl, rfl, rfl, Nat.le_refl _, fun _ _ => rfl⟩

theorem SS.put {w wx : World} {R B : Nat} {m : Array Value} {v : Value} {ws : List (List UInt8)} (h : SS w R B m v ws wx) (i : Nat) (u : Value) : SS w R B (m.setIfInBounds i u) v ws (wx.setCell ⟨B, i, none⟩ u) := by
  have l2 := h.Rl; have l3 := h.RB
  have ho : ∀ k, k ≠ B → (wx.setCell ⟨B, i, none⟩ u).heap[k]? = wx.heap[k]? := fun k hk => heap_setCell_other wx ⟨B, i, none⟩ k _ hk
  refine ⟨h.be.setCell (show w.heap.size ≤ B by omega) u, h.Rl, h.RB, ?_, heap_setCell_same wx B i _ _ u h.hB, ?_, h.ahead⟩
  · rw [ho R (by omega)]; exact h.hR
  · obtain ⟨ad, cap, hv, h1, h2, hc, hx⟩ := h.wd
    refine ⟨ad, cap, hv, h1, h2, fun h0 => ?_, hx⟩
    obtain ⟨b, off, rfl, hd⟩ := hc h0
    have hne := h.ahead _ _ _ hv h0
    refine ⟨b, off, rfl, fun j hj => ?_⟩
    rw [World.cell?_of_block (a := ⟨b, off + j, none⟩) (ho b hne)]
    exact hd j hj

theorem SS.six {w wx : World} {R B : Nat} {z0 z1 z2 z3 z4 z5 : Value} {v : Value} {ws : List (List UInt8)} (h : SS w R B #[z0, z1, z2, z3, z4, z5] v ws wx) :
    (∀ i, wx.frozen? ⟨B, i, none⟩ = false) ∧ wx.cell? ⟨B, 0, none⟩ = some z0 ∧ wx.cell? ⟨B, 1, none⟩ = some z1 ∧ wx.cell? ⟨B, 2, none⟩ = some z2 ∧ wx.cell? ⟨B, 3, none⟩ = some z3 ∧ wx.cell? ⟨B, 4, none⟩ = some z4 ∧ wx.cell? ⟨B, 5, none⟩ = some z5 := by
  refine ⟨fun i => frozen_of_row wx B i _ _ h.hB, ?_, ?_, ?_, ?_, ?_, ?_⟩
  · rw [cell_of_row wx B 0 _ _ _ h.hB]; rfl
  · rw [cell_of_row wx B 1 _ _ _ h.hB]; rfl
  · rw [cell_of_row wx B 2 _ _ _ h.hB]; rfl
  · rw [cell_of_row wx B 3 _ _ _ h.hB]; rfl
  · rw [cell_of_row wx B 4 _ _ _ h.hB]; rfl
  · rw [cell_of_row wx B 5 _ _ _ h.hB]; rfl

theorem SS.res {w wx : World} {R B : Nat} {m : Array Value} {v : Value} {ws : List (List UInt8)} (h : SS w R B m v ws wx) :
    (∀ i, wx.frozen? ⟨R, i, none⟩ = false) ∧ wx.cell? ⟨R, 0, none⟩ = some (.int .i64 0) ∧ wx.cell? ⟨R, 1, none⟩ = some (.int .i64 0) ∧ wx.cell? ⟨R, 2, none⟩ = some (.int .i64 0) ∧ wx.cell? ⟨R, 3, none⟩ = some (.int .i64 0) ∧ wx.cell? ⟨R, 4, none⟩ = some (.int .i64 0) ∧ wx.cell? ⟨R, 5, none⟩ = some (.int .i64 0) := by
  refine ⟨fun i => frozen_of_row wx R i _ _ h.hR, ?_, ?_, ?_, ?_, ?_, ?_⟩
  · rw [cell_of_row wx R 0 _ _ _ h.hR]; rfl
  · rw [cell_of_row wx R 1 _ _ _ h.hR]; rfl
  · rw [cell_of_row wx R 2 _ _ _ h.hR]; rfl
  · rw [cell_of_row wx R 3 _ _ _ h.hR]; rfl
  · rw [cell_of_row wx R 4 _ _ _ h.hR]; rfl
  · rw [cell_of_row wx R 5 _ _ _ h.hR]; rfl

theorem SS.fin {w wx : World} {R B : Nat} {m : Array Value} {v : Value} {ws : List (List UInt8)} (h : SS w R B m v ws wx) (z0 z1 z2 z3 z4 z5 : Value) :
    Below w.heap.size w ((((((wx.setCell ⟨R, 0, none⟩ z0).setCell ⟨R, 1, none⟩ z1).setCell ⟨R, 2, none⟩ z2).setCell ⟨R, 3, none⟩ z3).setCell ⟨R, 4, none⟩ z4).setCell ⟨R, 5, none⟩ z5) :=
  (((((h.be.setCell h.Rl _).setCell h.Rl _).setCell h.Rl _).setCell h.Rl _).setCell h.Rl _).setCell h.Rl _

theorem wd_of_own {w : World} {base : Nat} {v : Value} {xs : List (List UInt8)} (ho : OwS w base v xs) (hx : ∀ x ∈ xs, x.length ≤ 1048576) : Wd w v xs ∧ ∀ a n c, v = .slice (some a) n c → 0 < n → a.block < w.heap.size := by
  rcases ho.2 with ⟨hv, h0⟩ | ⟨g, cap, cur, hv, hb, hg, hnc, hcm, hcs, htake⟩
  · refine ⟨⟨none, 0, by rw [hv, h0], by omega, by omega, fun h => absurd h (by omega), hx⟩, fun a n c e h => ?_⟩
    rw [hv] at e; cases e
  · have hh : w.ownsRow base 9 1 (.slice (some ⟨g, 0, none⟩) xs.length cap) xs.length (xs.map fun x => Value.string (bstr x)) := hv ▸ ho
    refine ⟨⟨some ⟨g, 0, none⟩, cap, hv, hnc, hcm, fun _ => ⟨g, 0, rfl, fun j hj => ?_⟩, hx⟩, fun a n c e h => ?_⟩
    · rw [Nat.zero_add, hh.cellAt j (by omega)]
      simp [hj]
    · rw [hv] at e; cases e; exact lt_of_block hg

theorem SS.start {w w1 : World} {v : Value} {ws : List (List UInt8)} {l : Int} (hb : Below (w.heap.size + 1) (w.alloc (.cells #[.int .i64 0, .int .i64 0, .int .i64 0, .int .i64 0, .int .i64 0, .int .i64 0] 25)) w1) (hw : Wd w1 v ws) (ha : ∀ a n c, v = .slice (some a) n c → 0 < n → a.block < w1.heap.size) :
    SS w w.heap.size w1.heap.size #[.int .i64 0, .int .i64 0, .int .i64 0, .int .i64 l, .int .i64 0, .int .i64 0] v ws (w1.alloc (.cells #[.int .i64 0, .int .i64 0, .int .i64 0, .int .i64 l, .int .i64 0, .int .i64 0] 25)) := by
  have hs := hb.size
  simp only [World.size_alloc] at hs
  have b0 : Below w.heap.size w (w.alloc (.cells #[.int .i64 0, .int .i64 0, .int .i64 0, .int .i64 0, .int .i64 0, .int .i64 0] 25)) := (Below.refl _ _).alloc (Nat.le_refl _) _
  have b1 : Below w1.heap.size w1 (w1.alloc (.cells #[.int .i64 0, .int .i64 0, .int .i64 0, .int .i64 l, .int .i64 0, .int .i64 0] 25)) := (Below.refl _ _).alloc (Nat.le_refl _) _
  refine ⟨(b0.trans (hb.mono (by omega))).trans (b1.mono (by omega)), Nat.le_refl _, by omega, ?_, heap_alloc_new _ _, hw.below b1, fun a n c e h => by have := ha a n c e h; omega⟩
  rw [b1.block _ (by omega), hb.block _ (by omega)]
  exact heap_alloc_new _ _

end Go.Proofs.YtpebiebckdmopaaDoor
