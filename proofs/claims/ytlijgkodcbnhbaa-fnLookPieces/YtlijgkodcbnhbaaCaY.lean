/- impl: what is looked up in a set (written by mkCaY.py) -/
import Derived.Test.YtlijgkodcbnhbaaCaJ
import Derived.Test.YtlijgkodcbnhbaaPlL
namespace Go.Proofs.Ytlijgkodcbnhbaa
open Go.RowKit
set_option linter.unusedVariables false
set_option linter.unusedSimpArgs false

namespace Ca
def wy (s : Sm) (x : Int) : Int := if ¬ fst s true x = -1 then fst s true x else if ¬ fst s false 0 = -1 then fst s false 0 else Plru.vI s.b
def hd (s : Sm) (x : Int) : Bool := decide (¬ fst s true x = -1)
def gn (s : Sm) (x : Int) : Int := if ¬ fst s true x = -1 then -1 else if ¬ fst s false 0 = -1 then -1 else s.a (Plru.vI s.b).toNat
def lk (s : Sm) (x : Int) : Sm := ⟨Plru.tI s.b (wy s x), fun k => if (k : Int) = wy s x then true else s.u k, fun k => if (k : Int) = wy s x then x else s.a k⟩
theorem vI_range {b : Int} (h : inR b 7 = true) : Plru.vI b = 0 ∨ Plru.vI b = 1 ∨ Plru.vI b = 2 ∨ Plru.vI b = 3 := by
  obtain ⟨h0, h1⟩ := (inR_cases h).1 rfl
  obtain ⟨n, rfl⟩ := Int.eq_ofNat_of_zero_le h0
  rw [Plru.vI_yes (by omega)]
  have := Plru.victim_lt ⟨n, by omega⟩
  simp only [] at this
  omega
theorem wy_range {s : Sm} {x : Int} (h : inR s.b 7 = true) : wy s x = 0 ∨ wy s x = 1 ∨ wy s x = 2 ∨ wy s x = 3 := by
  unfold wy
  have h1 := fst_range s true x
  have h2 := fst_range s false 0
  have h3 := vI_range h
  split
  · omega
  · split
    · omega
    · exact h3
end Ca

theorem ret_ibi {a b c d : Int} {u v : Bool} (h : a = b) (k : u = v) (l : c = d) : Ending.returned (.tuple #[.int .i64 a, .bool u, .int .i64 c]) = .returned (.tuple #[.int .i64 b, .bool v, .int .i64 d]) := by rw [h, k, l]

set_option maxHeartbeats 2000000 in
set_option maxRecDepth 20000 in
theorem placeFor_any (s : Sm) (x : Int) (w : World) (hb : inR s.b 7 = true) : Calls Try.prog 36 #[.agg (c9 s), .int .i64 x] w fun e w' => e = .returned (.tuple #[.int .i64 (Ca.wy s x), .bool (Ca.hd s x), .int .i64 (Ca.gn s x)]) ∧ Below w.heap.size w w' := by
  obtain ⟨W, hW⟩ : ∃ W, w.alloc (.cells (c9 s) 43) = W := ⟨_, rfl⟩
  have hg : W.heap[w.heap.size]? = some (.cells (c9 s) 43 (0, 0)) := by rw [← hW]; exact heap_alloc_new _ _
  have hB : Below w.heap.size w W := by rw [← hW]; exact (Below.refl _ _).alloc (Nat.le_refl _) _
  obtain ⟨c0, c1, c2, c3, c4, c5, c6, c7, c8⟩ := nine hg
  have hf := fun w => wayOf_any s x w
  have hz := fun w => first_any s false 0 w
  have hv := fun w => victim_all s.b w
  have hvr := Ca.vI_range hb
  have HW : Hid (Ca.wy s x = if ¬ Ca.fst s true x = -1 then Ca.fst s true x else if ¬ Ca.fst s false 0 = -1 then Ca.fst s false 0 else Plru.vI s.b) := hide rfl
  have HH : Hid (Ca.hd s x = decide (¬ Ca.fst s true x = -1)) := hide rfl
  have HG : Hid (Ca.gn s x = if ¬ Ca.fst s true x = -1 then -1 else if ¬ Ca.fst s false 0 = -1 then -1 else s.a (Plru.vI s.b).toNat) := hide rfl
  generalize Ca.fst s true x = y at hf HW HH HG
  generalize Ca.fst s false 0 = z at hz HW HG
  generalize Plru.vI s.b = v at hv HW HG hvr
  go_enter Try.func36, Try.ntmps36
  go_wp2_with fail
  refine (hf _).mono ?_
  rintro e w1 ⟨rfl, hb1⟩
  have hB1 := hB.trans (hb1.mono hB.size)
  have hg1 := heap_b hg hb1
  clear c0 c1 c2 c3 c4 c5 c6 c7 c8
  by_cases hy : y = -1
  · have hy' : (y != -1) = false := by simpa using hy
    have HY := hide hy
    clear hy
    obtain ⟨c0, c1, c2, c3, c4, c5, c6, c7, c8⟩ := nine hg1
    go_wp2_with fail
    refine (hz _).mono ?_
    rintro e w2 ⟨rfl, hb2⟩
    have hB2 := hB1.trans (hb2.mono hB1.size)
    have hg2 := heap_b hg1 hb2
    clear c0 c1 c2 c3 c4 c5 c6 c7 c8
    by_cases hzz : z = -1
    · have hz' : (z != -1) = false := by simpa using hzz
      have HZ := hide hzz
      clear hzz
      obtain ⟨c0, c1, c2, c3, c4, c5, c6, c7, c8⟩ := nine hg2
      go_wp2_with fail
      refine (hv _).mono ?_
      rintro e w3 ⟨rfl, rfl⟩
      rcases hvr with rfl | rfl | rfl | rfl
      all_goals go_wp2
      all_goals go_quiet (fail)
      all_goals go_wp2
      all_goals go_ret3
      all_goals exact ⟨ret_ibi (by rw [HW.out, HY.out, HZ.out]; rfl) (by rw [HH.out, HY.out]; rfl) (by rw [HG.out, HY.out, HZ.out]; rfl), below_drewN hB2 _⟩
    · have hz' : (z != -1) = true := by simpa using hzz
      have HZ := hide hzz
      clear hzz
      go_wp2
      go_ret3
      exact ⟨ret_ibi (by rw [HW.out, HY.out, if_neg (by simp), if_pos HZ.out]) (by rw [HH.out, HY.out]; rfl) (by rw [HG.out, HY.out, if_neg (by simp), if_pos HZ.out]), hB2⟩
  · have hy' : (y != -1) = true := by simpa using hy
    have HY := hide hy
    clear hy
    go_wp2
    go_ret3
    exact ⟨ret_ibi (by rw [HW.out, if_pos HY.out]) (by rw [HH.out]; exact (decide_eq_true HY.out).symm) (by rw [HG.out, if_pos HY.out]), hB1⟩


end Go.Proofs.Ytlijgkodcbnhbaa
