/- RdB, RdC, RdE, SwE, LdX0 -/
import Derived.Test.YtgflipkhhpkidaaYnkCalm23
import Derived.OpenShut
/- below, once, word, near -/
namespace Go.Proofs.Ytgflipkhhpkidaa
open Go.RowKit

set_option maxHeartbeats 1000000 in
theorem below_any (g : Nat) (n : Int) (w : World) (h : Rdr w g) (h1 : 1 ≤ n) (h2 : n ≤ 2097152) :
    Calls Try.prog 35 #[.pointer (some ⟨g, 0, none⟩), .int .i64 n] w fun e w' => ∃ c : Int, e = .returned (.int .i64 c) ∧ 0 ≤ c ∧ c < n ∧ Rdr w' g ∧ w.grownBy w' (some g) := by
  by_cases hn1 : n ≤ 1
  · go_enter Try.func35, Try.ntmps35
    go_wp2
    go_ret
    exact ⟨0, rfl, by omega, by omega, h, World.grownBy.refl _ _⟩
  · have hz : (n == 0) = false := by simp; omega
    by_cases hn2 : n ≤ 256
    · go_enter Try.func35, Try.ntmps35
      go_wp2_with fail
      refine (next_any g _ h).mono ?_
      rintro e w1 ⟨c, rfl, hc0, hc1, hr1, hg1⟩
      have HF := hide (And.intro hr1 hg1)
      clear hr1 hg1 h
      go_wp2
      go_ret
      exact ⟨_, rfl, Int.emod_nonneg _ (by omega), Int.emod_lt_of_pos _ (by omega), HF.out.1, HF.out.2⟩
    · go_enter Try.func35, Try.ntmps35
      go_wp2_with fail
      refine (next_any g _ h).mono ?_
      rintro e w1 ⟨c, rfl, hc0, hc1, hr1, hg1⟩
      clear h
      go_wp2_with fail
      refine (next_any g _ hr1).mono ?_
      rintro e w2 ⟨d, rfl, hd0, hd1, hr2, hg2⟩
      have HF := hide (And.intro hr2 (grown_trans hg1 hg2))
      clear hr1 hg1 hr2 hg2
      go_wp2
      go_ret
      exact ⟨_, rfl, Int.emod_nonneg _ (by omega), Int.emod_lt_of_pos _ (by omega), HF.out.1, HF.out.2⟩

set_option maxHeartbeats 1000000 in
theorem once_any (g : Nat) (n : Int) (w : World) (h : Rdr w g) (h1 : 1 ≤ n) (h2 : n ≤ 65536) :
    Calls Try.prog 34 #[.pointer (some ⟨g, 0, none⟩), .int .i64 n] w fun e w' => ∃ b : Bool, e = .returned (.bool b) ∧ Rdr w' g ∧ w.grownBy w' (some g) := by
  go_enter Try.func34, Try.ntmps34
  go_wp2_with fail
  refine (below_any g n _ h h1 (by omega)).mono ?_
  rintro e w1 ⟨c, rfl, hc0, hc1, hr1, hg1⟩
  have HF := hide (And.intro hr1 hg1)
  clear hr1 hg1 h
  go_wp2
  go_ret
  exact ⟨_, rfl, HF.out.1, HF.out.2⟩

set_option maxHeartbeats 1000000 in
theorem word_any (g : Nat) (w : World) (h : Rdr w g) :
    Calls Try.prog 62 #[.pointer (some ⟨g, 0, none⟩)] w fun e w' => ∃ c : Int, e = .returned (.int .u64 c) ∧ 0 ≤ c ∧ Rdr w' g ∧ w.grownBy w' (some g) := by
  have HR := hide h
  clear h
  go_enter Try.func62, Try.ntmps62
  go_wp2
  go_loopw [3, 4] (fun t i wr => ∃ (k : Nat) (s : Int), k ≤ 8 ∧ i = .int .i64 k ∧ t = .int .u64 s ∧ 0 ≤ s ∧ Rdr wr g ∧ w.grownBy wr (some g)) (fun _ i _ => 8 - (intOf i).toNat)
  case atStart => exact ⟨0, 0, Nat.zero_le _, rfl, rfl, by omega, HR.out, World.grownBy.refl _ _⟩
  case round =>
    obtain ⟨k, s, hk, rfl, rfl, hs0, hr, hg⟩ := hrel
    by_cases hlt : k < 8
    · go_wp2_with fail
      refine (next_any g _ hr).mono ?_
      rintro e w1 ⟨c, rfl, hc0, hc1, hr1, hg1⟩
      have HF := hide (And.intro hr1 (grown_trans hg hg1))
      clear hr hg hr1 hg1
      go_wp2
      go_roundw
      case rel => exact ⟨k + 1, _, by omega, by go_num, rfl, (bounds_u64 (wf_bits _ _ _ _)).1, HF.out.1, HF.out.2⟩
      case measure => simp [intOf]; omega
    · go_wp2
      go_ret
      exact ⟨s, rfl, hs0, hr, hg⟩

theorem near_val (lo hi m : Int) (h1 : -1048576 ≤ lo) (h3 : hi ≤ 1099511627776) (h0 : 0 ≤ m) (hm : m < hi - lo + 1) : lo ≤ wrap64 (lo + wrap64 m) ∧ wrap64 (lo + wrap64 m) ≤ hi := by
  rw [Go.IntWalk.wrap64_in m (by omega), Go.IntWalk.wrap64_in (lo + m) (by omega)]
  omega

set_option maxHeartbeats 2000000 in
theorem near_any (g : Nat) (lo hi : Int) (w : World) (h : Rdr w g) (h1 : -1048576 ≤ lo) (h2 : lo ≤ hi) (h3 : hi ≤ 1099511627776) :
    Calls Try.prog 50 #[.pointer (some ⟨g, 0, none⟩), .int .i64 lo, .int .i64 hi] w fun e w' => ∃ c : Int, e = .returned (.int .i64 c) ∧ lo ≤ c ∧ c ≤ hi ∧ Rdr w' g ∧ w.grownBy w' (some g) := by
  have hnl : ¬ hi < lo := by omega
  go_enter Try.func50, Try.ntmps50
  go_wp2_with fail
  refine (below_any g 8 _ h (by decide) (by decide)).mono ?_
  rintro e w1 ⟨c, rfl, hc0, hc1, hr1, hg1⟩
  clear h
  by_cases e0 : (c == 0) = true
  · have HF := hide (And.intro hr1 hg1)
    clear hr1 hg1
    go_wp2
    go_ret
    exact ⟨lo, rfl, by omega, by omega, HF.out.1, HF.out.2⟩
  · have e0' : (c == 0) = false := by simpa using e0
    clear e0
    by_cases e1 : (c == 1) = true
    · have HF := hide (And.intro hr1 hg1)
      clear hr1 hg1
      go_wp2
      go_ret
      exact ⟨hi, rfl, by omega, by omega, HF.out.1, HF.out.2⟩
    · have e1' : (c == 1) = false := by simpa using e1
      clear e1
      go_wp2_with fail
      refine (word_any g _ hr1).mono ?_
      rintro e w2 ⟨s, rfl, hs0, hr2, hg2⟩
      have HF := hide (And.intro hr2 (grown_trans hg1 hg2))
      clear hr1 hg1 hr2 hg2
      have hz : (hi - lo + 1 == 0) = false := by simp; omega
      go_wp2
      go_ret
      have hv := near_val lo hi (s / 2 % (hi - lo + 1)) h1 h3 (Int.emod_nonneg _ (by omega)) (Int.emod_lt_of_pos _ (by omega))
      exact ⟨_, rfl, hv.1, hv.2, HF.out.1, HF.out.2⟩

end Go.Proofs.Ytgflipkhhpkidaa

/- off -/
namespace Go.Proofs.Ytgflipkhhpkidaa
open Go.RowKit

/-- a block more -/
theorem grown_alloc (w : World) (o : Obj) (row : Option Nat) : w.grownBy (w.alloc o) row := by
  have h := (Below.refl w.heap.size w).alloc (Nat.le_refl _) o
  exact ⟨h.os, h.tape, h.output, h.size, fun k hk _ => h.block k hk⟩

/-- four numbers in a new block are still there behind the reader's steps -/
theorem four_there {w1 w2 : World} {g : Nat} {a b c d : Int} (hlt : g < w1.heap.size) (hg : (w1.alloc (.cells #[.int .i64 a, .int .i64 b, .int .i64 c, .int .i64 d] 2)).grownBy w2 (some g)) (j : Nat) (hj : j < 4) : ∃ z, w2.cell? ⟨w1.heap.size, j, none⟩ = some (.int .i64 z) := by
  have h1 := hg.block w1.heap.size (by simp) (by simp; omega)
  rw [heap_alloc_new] at h1
  have h2 := cell_of_row w2 w1.heap.size j _ _ _ h1
  match j, hj with
  | 0, _ => exact ⟨a, h2⟩
  | 1, _ => exact ⟨b, h2⟩
  | 2, _ => exact ⟨c, h2⟩
  | 3, _ => exact ⟨d, h2⟩

set_option maxHeartbeats 2000000 in
theorem off_any (g : Nat) (lo hi : Int) (w : World) (h : Rdr w g) (h1 : -1048575 ≤ lo) (h2 : lo ≤ hi) (h3 : hi ≤ 1099511627776) :
    Calls Try.prog 39 #[.pointer (some ⟨g, 0, none⟩), .int .i64 lo, .int .i64 hi] w fun e w' => ∃ c : Int, e = .returned (.int .i64 c) ∧ Rdr w' g ∧ w.grownBy w' (some g) := by
  go_enter Try.func39, Try.ntmps39
  go_wp2_with fail
  refine (once_any g 24 _ h (by decide) (by decide)).mono ?_
  rintro e w1 ⟨b, rfl, hr1, hg1⟩
  clear h
  cases b with
  | false =>
    go_wp2_with fail
    refine (near_any g lo hi _ hr1 (by omega) h2 h3).mono ?_
    rintro e w2 ⟨c, rfl, hc0, hc1, hr2, hg2⟩
    have HF := hide (And.intro hr2 (grown_trans hg1 hg2))
    clear hr1 hg1 hr2 hg2
    go_wp2
    go_ret
    exact ⟨c, rfl, HF.out.1, HF.out.2⟩
  | true =>
    go_wp2_with fail
    refine (below_any g 4 _ (hr1.grown (grown_alloc _ _ none) (fun k hk => by cases hk)) (by decide) (by decide)).mono ?_
    rintro e w2 ⟨c, rfl, hc0, hc4, hr2, hg2⟩
    obtain ⟨j, rfl⟩ := Int.eq_ofNat_of_zero_le hc0
    obtain ⟨z, hz⟩ := four_there hr1.lt hg2 j (by omega)
    have HF := hide (And.intro hr2 (grown_trans hg1 (grown_trans (grown_alloc _ _ _) hg2)))
    clear hr1 hg1 hr2 hg2
    go_wp2
    go_ret
    exact ⟨z, rfl, HF.out.1, HF.out.2⟩

end Go.Proofs.Ytgflipkhhpkidaa

/- the reader opened -/
namespace Go.Proofs.Ytgflipkhhpkidaa
open Go.RowKit

/-- the bytes of a code -/
def Bt (w : World) (ad : Option Addr) (n : Nat) : Prop :=
  0 < n → ∃ b off, ad = some ⟨b, off, none⟩ ∧ ∀ j, j < n → ∃ c : Int, 0 ≤ c ∧ c ≤ 255 ∧ w.cell? ⟨b, off + j, none⟩ = some (.int .u8 c)

theorem open_rd {w : World} {ad : Option Addr} {n cap : Nat} (hb : Bt w ad n) (hn : n ≤ 1048576) : Rdr (w.alloc (.cells #[.slice ad n cap, .int .i64 0] 59)) w.heap.size := by
  refine ⟨ad, n, cap, 0, heap_alloc_new w _, Nat.zero_le _, hn, fun h0 => ?_⟩
  obtain ⟨b, off, rfl, hc⟩ := hb h0
  have hb0 : b < w.heap.size := by
    obtain ⟨c, _, _, h⟩ := hc 0 h0
    exact World.block_lt_of_cell? w _ h
  refine ⟨b, off, rfl, hb0, fun j hj => ?_⟩
  obtain ⟨c, h1, h2, h3⟩ := hc j hj
  exact ⟨c, h1, h2, Below.keep ((Below.refl _ w).alloc (Nat.le_refl _) _) _ _ h3⟩

set_option maxHeartbeats 1000000 in
theorem open_any (ad : Option Addr) (n cap : Nat) (w : World) (hb : Bt w ad n) (hn : n ≤ 1048576) :
    Calls Try.prog 22 #[.slice ad n cap] w fun e w' => ∃ g, e = .returned (.pointer (some ⟨g, 0, none⟩)) ∧ w.heap.size ≤ g ∧ Rdr w' g ∧ Below w.heap.size w w' := by
  have HR := hide (open_rd (cap := cap) hb hn)
  clear hb
  go_enter Try.func22, Try.ntmps22
  go_wp2
  go_ret
  exact ⟨_, rfl, Nat.le_refl _, HR.out, (Below.refl _ _).alloc (Nat.le_refl _) _⟩

end Go.Proofs.Ytgflipkhhpkidaa

/- what walks beside a reader want; a region's condition made stronger. No seat's function is named but the reader's. -/
namespace Go.Proofs.Ytgflipkhhpkidaa
open Go.RowKit
set_option linter.unusedVariables false

theorem wpAnyK_re {P : Program} {ops : Array Oper} {Q : Exit → Act → World → Prop} {md : Region.Mode} {S S' : World → Prop} {z : Nat} (h : ∀ w, S' w → S w) : ∀ {n : Nat} {done : Array Bool} {a : Act} {w : World}, wpAnyK P md ops Q (But S' z) n done a w → wpAnyK P md ops Q (But S z) n done a w
  | 0, _, _, _, k => k
  | _ + 1, _, _, _, k => ⟨k.1, fun i hi => wpOp_mono (fun a' w' k' => ⟨fun e => h _ (k'.1 e), wpAnyK_re h k'.2⟩) (k.2 i hi)⟩
theorem Rdr.mv {S : Nat → Prop} {w w' : World} {g : Nat} (h : Rdr w g) (m : Mv S w w') (hs : ∀ x, S x → g < x) : Rdr w' g := by
  have hlt := h.lt
  obtain ⟨ad, n, cap, p, hh, hp, hn, hb⟩ := h
  refine ⟨ad, n, cap, p, (m.block g hlt (fun e => by have := hs g e; omega)).trans hh, hp, hn, fun h0 => ?_⟩
  obtain ⟨b, off, rfl, hbg, hc⟩ := hb h0
  refine ⟨b, off, rfl, hbg, fun j hj => ?_⟩
  obtain ⟨c, h1, h2, h3⟩ := hc j hj
  exact ⟨c, h1, h2, m.cell h3 (fun e => by have := hs b e; omega)⟩
theorem mv_rd {w w' : World} {g : Nat} (h : w.grownBy w' (some g)) : Mv (fun x => x = g) w w' := ⟨h.os, h.tape, h.output, h.size, fun j hj hn => h.block j hj (fun e => hn (by cases e; rfl))⟩
theorem gr_mv {w w' : World} {g : Nat} (h : Mv (fun x => x = g) w w') : w.grownBy w' (some g) := ⟨h.os, h.tape, h.output, h.size, fun j hj hn => h.block j hj (fun e => hn (by rw [e]))⟩
theorem Xrn {w w' : World} {g : Nat} (h : Hid (Rdr w g)) (m : Mv nob w w') : Hid (Rdr w' g) := hide (h.out.mv m (fun _ h => h.elim))
theorem Xrb {w w' : World} {g B : Nat} (h : Hid (Rdr w g)) (m : Mv (fun x => x = B) w w') (n : g < B := by omega) : Hid (Rdr w' g) := hide (h.out.mv m (fun x e => by have e : x = B := e; omega))
theorem Xhg {S : Nat → Prop} {w v v' : World} (h : Hid (Mv S w v)) (m : Mv S v v') : Hid (Mv S w v') := hide (h.out.step m (fun _ _ h => h))
section
variable {P : Program} {ops : Array Oper} {Q : Exit → Act → World → Prop} {a a' : Act} {w : World} {rest : List Oper} {o : Oper} {b : Nat} {T : TypeId}
/-- a store of four cells -/
theorem ss4 (x0 x1 x2 x3 : Value) {y0 y1 y2 y3 : Value} (hb : Hid (w.heap[b]? = some (.cells #[y0, y1, y2, y3] T (0, 0)))) (k : ∀ V : World, Mv (fun g => g = b) w V → Hid (V.heap[b]? = some (.cells #[x0, x1, x2, x3] T (0, 0))) → wpList P ops Q rest a' V) (hw : Region.wanted o (yielded ops a.tmps) = true := by rfl)
    (h : (∀ i, w.frozen? ⟨b, i, none⟩ = false) → w.cell? ⟨b, 0, none⟩ = some y0 → w.cell? ⟨b, 1, none⟩ = some y1 → w.cell? ⟨b, 2, none⟩ = some y2 → w.cell? ⟨b, 3, none⟩ = some y3 → (execOp a.eval o).run P w = .ok .skip ((((w.setCell ⟨b, 0, none⟩ x0).setCell ⟨b, 1, none⟩ x1).setCell ⟨b, 2, none⟩ x2).setCell ⟨b, 3, none⟩ x3) := by intro fr z0 z1 z2 z3; go_simp)
    (hp : a.put o.dst undef = a' := by simp only [Act.put, List.getElem_toArray, List.getElem_cons_zero, List.getElem_cons_succ, List.setIfInBounds_toArray, List.set_cons_zero, List.set_cons_succ]; rfl) : wpList P ops Q (o :: rest) a w := by
  subst hp
  exact sw_skipW hw (h (fun i => frozen_of_row _ _ i _ _ hb.out) (cell_box 0 hb.out rfl) (cell_box 1 hb.out rfl) (cell_box 2 hb.out rfl) (cell_box 3 hb.out rfl)) (k _ (((((Mv.refl _ _).set _ _).set _ _).set _ _).set _ _) (hide (blk1 _ (blk1 _ (blk1 _ (blk1 _ hb.out))))))
end
end Go.Proofs.Ytgflipkhhpkidaa

/- spec.l8Down, spec.l8Up (written by mkLdX.py) -/
namespace Go.Proofs.Ytgflipkhhpkidaa
open Go.RowKit
set_option linter.unusedVariables false
set_option linter.unusedSimpArgs false

def downL (p : Lk) (s : ByteArray) : Lk := if Flit.rd s && decide (Flit.rK s = 1) then dgL p (Flit.rS s) (Flit.rB s) else p
def upL (p : Lk) (s : ByteArray) : Lk := if Flit.rd s && decide (Flit.rK s = 2) then ackL p (Flit.rS s) else p
theorem Lr.num {w : World} {base : Nat} {wv gv dv uv : Value} {p : Lk} (h : Lr w base wv gv dv uv p) (x y : Int) : Lr w base wv gv dv uv { p with base := x, want := y } := ⟨h.wa, h.go, h.dn, h.up, h.aw, h.ag, h.ad⟩
theorem comeD_eq (p : Lk) (z : Nat) : comeD p z = downL (outD p z) (p.dt z) := rfl
theorem comeU_eq (p : Lk) (z : Nat) : comeU p z = upL (outU p z) (p.ut z) := rfl
theorem l8Text_ack (s : Int) (w : World) (h0 : 0 ≤ s) (h1 : s ≤ 1000000) : Calls Try.prog 57 #[.agg #[.int .i64 2, .int .i64 s, .string ⟨#[]⟩]] w fun e w' => e = .returned (.string (Flit.txt 2 s ⟨#[]⟩)) ∧ Below w.heap.size w w' := by
  obtain ⟨n, rfl⟩ := Int.eq_ofNat_of_zero_le h0
  have e : Flit.txt 2 (n : Int) ⟨#[]⟩ = Flit.text 2 n ⟨#[]⟩ := by
    have hk : Flit.ok 2 (n : Int) ⟨#[]⟩ = true := by simp [Flit.ok]; first | omega | exact ⟨by omega, rfl⟩ | rfl
    unfold Flit.txt
    rw [if_pos hk]
    rfl
  rw [e]
  exact l8Text_any 2 n ⟨#[]⟩ w (by omega) (.inr rfl) (Nat.zero_le _)
theorem l8Text_data (s : Int) (b : ByteArray) (w : World) (h0 : 0 ≤ s) (h1 : s ≤ 1000000) (h8 : b.size ≤ 8) : Calls Try.prog 57 #[.agg #[.int .i64 1, .int .i64 s, .string b]] w fun e w' => e = .returned (.string (Flit.txt 1 s b)) ∧ Below w.heap.size w w' := by
  obtain ⟨n, rfl⟩ := Int.eq_ofNat_of_zero_le h0
  have e : Flit.txt 1 (n : Int) b = Flit.text 1 n b := by
    have hk : Flit.ok 1 (n : Int) b = true := by rw [Flit.ok_one ⟨h0, h1⟩]; exact decide_eq_true h8
    unfold Flit.txt
    rw [if_pos hk]
    rfl
  rw [e]
  exact l8Text_any 1 n b w (by omega) (.inl rfl) h8
theorem sread_as (s : ByteArray) (b : Bool) (h : Flit.rd s = b) (w : World) (hl : s.size ≤ 15) : Calls Try.prog 74 #[.string s] w fun e w' => e = .returned (.tuple #[.agg #[.int .i64 (Flit.rK s), .int .i64 (Flit.rS s), .string (Flit.rB s)], .bool b]) ∧ Below w.heap.size w w' := by
  subst h; exact specRead_any s w (by omega)

end Go.Proofs.Ytgflipkhhpkidaa
