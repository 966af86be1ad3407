/- RdC, RdE, SwE -/
import Derived.Test.YtgflipkhhpkidaaYkOrder47
import Derived.Test.YtgflipkhhpkidaaYkOrder43
/- off -/
namespace Go.Proofs.Ytgflipkhhpkidaa
open Go.RowKit

/-- a block more -/
theorem grown_alloc (w : World) (o : Obj) (row : Option Nat) : w.grownBy (w.alloc o) row := by
  have h := (Below.refl w.heap.size w).alloc (Nat.le_refl _) o
  exact ⟨h.os, h.tape, h.output, h.size, fun k hk _ => h.block k hk⟩

/-- four numbers in a new block are still there behind the reader's steps -/
theorem four_there {w1 w2 : World} {g : Nat} {a b c d : Int} (hlt : g < w1.heap.size) (hg : (w1.alloc (.cells #[.int .i64 a, .int .i64 b, .int .i64 c, .int .i64 d] 2)).grownBy w2 (some g)) (j : Nat) (hj : j < 4) : ∃ z, w2.cell? ⟨w1.heap.size, j, none⟩ = some (.int .i64 z) := by
  have h1 := hg.block w1.heap.size (by simp) (by simp; omega)
  rw [heap_alloc_new] at h1
  have h2 := cell_of_row w2 w1.heap.size j _ _ _ h1
  match j, hj with
  | 0, _ => exact ⟨a, h2⟩
  | 1, _ => exact ⟨b, h2⟩
  | 2, _ => exact ⟨c, h2⟩
  | 3, _ => exact ⟨d, h2⟩

set_option maxHeartbeats 2000000 in
theorem off_any (g : Nat) (lo hi : Int) (w : World) (h : Rdr w g) (h1 : -1048575 ≤ lo) (h2 : lo ≤ hi) (h3 : hi ≤ 1099511627776) :
    Calls Try.prog 39 #[.pointer (some ⟨g, 0, none⟩), .int .i64 lo, .int .i64 hi] w fun e w' => ∃ c : Int, e = .returned (.int .i64 c) ∧ Rdr w' g ∧ w.grownBy w' (some g) := by
  go_enter Try.func39, Try.ntmps39
  go_wp2_with fail
  refine (once_any g 24 _ h (by decide) (by decide)).mono ?_
  rintro e w1 ⟨b, rfl, hr1, hg1⟩
  clear h
  cases b with
  | false =>
    go_wp2_with fail
    refine (near_any g lo hi _ hr1 (by omega) h2 h3).mono ?_
    rintro e w2 ⟨c, rfl, hc0, hc1, hr2, hg2⟩
    have HF := hide (And.intro hr2 (grown_trans hg1 hg2))
    clear hr1 hg1 hr2 hg2
    go_wp2
    go_ret
    exact ⟨c, rfl, HF.out.1, HF.out.2⟩
  | true =>
    go_wp2_with fail
    refine (below_any g 4 _ (hr1.grown (grown_alloc _ _ none) (fun k hk => by cases hk)) (by decide) (by decide)).mono ?_
    rintro e w2 ⟨c, rfl, hc0, hc4, hr2, hg2⟩
    obtain ⟨j, rfl⟩ := Int.eq_ofNat_of_zero_le hc0
    obtain ⟨z, hz⟩ := four_there hr1.lt hg2 j (by omega)
    have HF := hide (And.intro hr2 (grown_trans hg1 (grown_trans (grown_alloc _ _ _) hg2)))
    clear hr1 hg1 hr2 hg2
    go_wp2
    go_ret
    exact ⟨z, rfl, HF.out.1, HF.out.2⟩

end Go.Proofs.Ytgflipkhhpkidaa

/- the reader opened -/
namespace Go.Proofs.Ytgflipkhhpkidaa
open Go.RowKit

/-- the bytes of a code -/
def Bt (w : World) (ad : Option Addr) (n : Nat) : Prop :=
  0 < n → ∃ b off, ad = some ⟨b, off, none⟩ ∧ ∀ j, j < n → ∃ c : Int, 0 ≤ c ∧ c ≤ 255 ∧ w.cell? ⟨b, off + j, none⟩ = some (.int .u8 c)

theorem open_rd {w : World} {ad : Option Addr} {n cap : Nat} (hb : Bt w ad n) (hn : n ≤ 1048576) : Rdr (w.alloc (.cells #[.slice ad n cap, .int .i64 0] 59)) w.heap.size := by
  refine ⟨ad, n, cap, 0, heap_alloc_new w _, Nat.zero_le _, hn, fun h0 => ?_⟩
  obtain ⟨b, off, rfl, hc⟩ := hb h0
  have hb0 : b < w.heap.size := by
    obtain ⟨c, _, _, h⟩ := hc 0 h0
    exact World.block_lt_of_cell? w _ h
  refine ⟨b, off, rfl, hb0, fun j hj => ?_⟩
  obtain ⟨c, h1, h2, h3⟩ := hc j hj
  exact ⟨c, h1, h2, Below.keep ((Below.refl _ w).alloc (Nat.le_refl _) _) _ _ h3⟩

set_option maxHeartbeats 1000000 in
theorem open_any (ad : Option Addr) (n cap : Nat) (w : World) (hb : Bt w ad n) (hn : n ≤ 1048576) :
    Calls Try.prog 22 #[.slice ad n cap] w fun e w' => ∃ g, e = .returned (.pointer (some ⟨g, 0, none⟩)) ∧ w.heap.size ≤ g ∧ Rdr w' g ∧ Below w.heap.size w w' := by
  have HR := hide (open_rd (cap := cap) hb hn)
  clear hb
  go_enter Try.func22, Try.ntmps22
  go_wp2
  go_ret
  exact ⟨_, rfl, Nat.le_refl _, HR.out, (Below.refl _ _).alloc (Nat.le_refl _) _⟩

end Go.Proofs.Ytgflipkhhpkidaa

/- what walks beside a reader want; a region's condition made stronger. No seat's function is named but the reader's. -/
namespace Go.Proofs.Ytgflipkhhpkidaa
open Go.RowKit
set_option linter.unusedVariables false

theorem wpAnyK_re {P : Program} {ops : Array Oper} {Q : Exit → Act → World → Prop} {md : Region.Mode} {S S' : World → Prop} {z : Nat} (h : ∀ w, S' w → S w) : ∀ {n : Nat} {done : Array Bool} {a : Act} {w : World}, wpAnyK P md ops Q (But S' z) n done a w → wpAnyK P md ops Q (But S z) n done a w
  | 0, _, _, _, k => k
  | _ + 1, _, _, _, k => ⟨k.1, fun i hi => wpOp_mono (fun a' w' k' => ⟨fun e => h _ (k'.1 e), wpAnyK_re h k'.2⟩) (k.2 i hi)⟩
theorem Rdr.mv {S : Nat → Prop} {w w' : World} {g : Nat} (h : Rdr w g) (m : Mv S w w') (hs : ∀ x, S x → g < x) : Rdr w' g := by
  have hlt := h.lt
  obtain ⟨ad, n, cap, p, hh, hp, hn, hb⟩ := h
  refine ⟨ad, n, cap, p, (m.block g hlt (fun e => by have := hs g e; omega)).trans hh, hp, hn, fun h0 => ?_⟩
  obtain ⟨b, off, rfl, hbg, hc⟩ := hb h0
  refine ⟨b, off, rfl, hbg, fun j hj => ?_⟩
  obtain ⟨c, h1, h2, h3⟩ := hc j hj
  exact ⟨c, h1, h2, m.cell h3 (fun e => by have := hs b e; omega)⟩
theorem mv_rd {w w' : World} {g : Nat} (h : w.grownBy w' (some g)) : Mv (fun x => x = g) w w' := ⟨h.os, h.tape, h.output, h.size, fun j hj hn => h.block j hj (fun e => hn (by cases e; rfl))⟩
theorem gr_mv {w w' : World} {g : Nat} (h : Mv (fun x => x = g) w w') : w.grownBy w' (some g) := ⟨h.os, h.tape, h.output, h.size, fun j hj hn => h.block j hj (fun e => hn (by rw [e]))⟩
theorem Xrn {w w' : World} {g : Nat} (h : Hid (Rdr w g)) (m : Mv nob w w') : Hid (Rdr w' g) := hide (h.out.mv m (fun _ h => h.elim))
theorem Xrb {w w' : World} {g B : Nat} (h : Hid (Rdr w g)) (m : Mv (fun x => x = B) w w') (n : g < B := by omega) : Hid (Rdr w' g) := hide (h.out.mv m (fun x e => by have e : x = B := e; omega))
theorem Xro {w : World} {g c : Nat} (h : Hid (Rdr w g)) (e : w.heap.size = c) : g < c := e ▸ h.out.lt
theorem Xhg {S : Nat → Prop} {w v v' : World} (h : Hid (Mv S w v)) (m : Mv S v v') : Hid (Mv S w v') := hide (h.out.step m (fun _ _ h => h))
section
variable {P : Program} {ops : Array Oper} {Q : Exit → Act → World → Prop} {a a' : Act} {w : World} {rest : List Oper} {o : Oper} {b : Nat} {T : TypeId}
/-- a store of four cells -/
theorem ss4 (x0 x1 x2 x3 : Value) {y0 y1 y2 y3 : Value} (hb : Hid (w.heap[b]? = some (.cells #[y0, y1, y2, y3] T (0, 0)))) (k : ∀ V : World, Mv (fun g => g = b) w V → Hid (V.heap[b]? = some (.cells #[x0, x1, x2, x3] T (0, 0))) → wpList P ops Q rest a' V) (hw : Region.wanted o (yielded ops a.tmps) = true := by rfl)
    (h : (∀ i, w.frozen? ⟨b, i, none⟩ = false) → w.cell? ⟨b, 0, none⟩ = some y0 → w.cell? ⟨b, 1, none⟩ = some y1 → w.cell? ⟨b, 2, none⟩ = some y2 → w.cell? ⟨b, 3, none⟩ = some y3 → (execOp a.eval o).run P w = .ok .skip ((((w.setCell ⟨b, 0, none⟩ x0).setCell ⟨b, 1, none⟩ x1).setCell ⟨b, 2, none⟩ x2).setCell ⟨b, 3, none⟩ x3) := by intro fr z0 z1 z2 z3; go_simp)
    (hp : a.put o.dst undef = a' := by simp only [Act.put, List.getElem_toArray, List.getElem_cons_zero, List.getElem_cons_succ, List.setIfInBounds_toArray, List.set_cons_zero, List.set_cons_succ]; rfl) : wpList P ops Q (o :: rest) a w := by
  subst hp
  exact sw_skipW hw (h (fun i => frozen_of_row _ _ i _ _ hb.out) (cell_box 0 hb.out rfl) (cell_box 1 hb.out rfl) (cell_box 2 hb.out rfl) (cell_box 3 hb.out rfl)) (k _ (((((Mv.refl _ _).set _ _).set _ _).set _ _).set _ _) (hide (blk1 _ (blk1 _ (blk1 _ (blk1 _ hb.out))))))
end
end Go.Proofs.Ytgflipkhhpkidaa
