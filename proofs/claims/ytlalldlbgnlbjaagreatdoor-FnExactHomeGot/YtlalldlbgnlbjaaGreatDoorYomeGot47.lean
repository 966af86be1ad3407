/- MsgD -/
import Derived.Test.YtlalldlbgnlbjaaGreatDoorYomeGot1
import Derived.Test.YtlalldlbgnlbjaaGreatDoorYomeGot46
/- impl.MsgOk -/
namespace Go.Proofs.YtlalldlbgnlbjaaGreatDoor
open Go.RowKit

theorem ands0 {a b c d : Bool} (h : a = false) : (a && b && c && d) = false := by rw [h]; rfl
theorem ands1 {a b c d : Bool} (h : a = true) (h1 : b = false) : (a && b && c && d) = false := by rw [h, h1]; rfl
theorem ands2 {a b c d : Bool} (h : a = true) (h1 : b = true) (h2 : c = false) : (a && b && c && d) = false := by rw [h, h1, h2]; rfl
theorem ands3 {a b c d : Bool} (h : a = true) (h1 : b = true) (h2 : c = true) : (a && b && c && d) = d := by rw [h, h1, h2]; rfl

theorem shape_kinds : ∀ n ∈ [1, 2, 3, 4, 5, 6, 7, 8, 9], homeB ((n : Nat) : Int) = shapeHome n ∧ wantB ((n : Nat) : Int) = shapeWant n ∧ dataB ((n : Nat) : Int) = shapeData n := by decide

theorem okB_split (n : Nat) (h1 : 1 ≤ n) (h9 : n ≤ 9) (f t l wt d : Int) : okB (n : Int) f t l wt d = (endsH (shapeHome n) f t && inB l 0 3 && wantH (shapeWant n) wt && dataH (shapeData n) d) := by
  have hin : inB (n : Int) 1 9 = true := inB_yes (by omega) (by omega)
  have hm : n ∈ [1, 2, 3, 4, 5, 6, 7, 8, 9] := by
    have hn : n = 1 ∨ n = 2 ∨ n = 3 ∨ n = 4 ∨ n = 5 ∨ n = 6 ∨ n = 7 ∨ n = 8 ∨ n = 9 := by omega
    rcases hn with rfl | rfl | rfl | rfl | rfl | rfl | rfl | rfl | rfl <;> decide
  obtain ⟨e1, e2, e3⟩ := shape_kinds n hm
  unfold okB endsB wantOkB dataOkB endsH wantH dataH
  rw [hin, e1, e2, e3]
  cases inB l 0 3 <;> simp

set_option maxHeartbeats 8000000 in
theorem implOk_any (k f t l wt d : Int) (w : World) (ht : Tab w) :
    Calls Tryz.prog 20 #[.agg #[.int .i64 k, .int .i64 f, .int .i64 t, .int .i64 l, .int .i64 wt, .int .i64 d]] w fun e w' => e = .returned (.bool (okB k f t l wt d)) ∧ Below w.heap.size w w' := by
  by_cases hk : 1 ≤ k ∧ k ≤ 9
  · obtain ⟨h1, h9⟩ := hk
    obtain ⟨n, rfl⟩ := Int.eq_ofNat_of_zero_le (by omega : 0 ≤ k)
    obtain ⟨s, _, c0, c1, c2, c3⟩ := ht n (by omega)
    have h0 : 0 < w.heap.size := World.block_lt_of_cell? w _ c0
    have hne : ¬ w.heap.size = 0 := by omega
    have hne' : ¬ 0 = w.heap.size := by omega
    have HO := hide (okB_split n (by omega) (by omega) f t l wt d)
    have hn : n = 1 ∨ n = 2 ∨ n = 3 ∨ n = 4 ∨ n = 5 ∨ n = 6 ∨ n = 7 ∨ n = 8 ∨ n = 9 := by omega
    clear ht
    rcases hn with rfl | rfl | rfl | rfl | rfl | rfl | rfl | rfl | rfl
    all_goals
      simp [shapeHome, shapeWant, shapeData] at c0 c1 c2 c3
      go_enter Tryz.func20, Tryz.ntmps20
      go_wp2_with fail
      refine (ends_any _ _ _ _ _ _ _ _ _ _ _).mono ?_
      rintro e w1 ⟨rfl, hb1⟩
      obtain ⟨hc1, hf1⟩ := bcell hb1
      have hz1 : w.heap.size + 1 < w1.heap.size := by have := hb1.size; simp at this; omega
      have hz1' : w.heap.size < w1.heap.size := by omega
      have HB1 := hide (((Below.refl w.heap.size w).alloc (Nat.le_refl _) _).alloc (by simp) _ |>.trans (hb1.mono (by simp; omega)))
      clear hb1 c0 c1 c2 c3
      cases e1 : endsH _ f t with
      | false =>
        have HR := hide (HO.out.trans (ands0 e1))
        go_wp2
        go_ret
        exact ⟨ret_bool HR.out.symm, HB1.out⟩
      | true =>
        go_wp2_with fail
        refine (isLine_any _ _).mono ?_
        rintro e w2 ⟨rfl, rfl⟩
        cases e2 : inB l 0 3 with
        | false =>
          have HR := hide (HO.out.trans (ands1 e1 e2))
          go_wp2
          go_ret
          exact ⟨ret_bool HR.out.symm, HB1.out⟩
        | true =>
          go_wp2_with fail
          refine (want_any _ _ _ _ _ _ _ _ _ _ _).mono ?_
          rintro e w3 ⟨rfl, hb3⟩
          obtain ⟨hc3, hf3⟩ := bcell hb3
          have hz3 : w.heap.size + 1 < w3.heap.size := by have := hb3.size; omega
          have HB3 := hide (HB1.out.trans (hb3.mono HB1.out.size))
          clear hb3
          cases e3 : wantH _ wt with
          | false =>
            have HR := hide (HO.out.trans (ands2 e1 e2 e3))
            go_wp2
            go_ret
            exact ⟨ret_bool HR.out.symm, HB3.out⟩
          | true =>
            have HR := hide (HO.out.trans (ands3 e1 e2 e3))
            go_wp2_with fail
            refine (data_any _ _ _ _ _ _ _ _ _ _ _).mono ?_
            rintro e w4 ⟨rfl, hb4⟩
            have HB4 := hide (HB3.out.trans (hb4.mono HB3.out.size))
            clear hb4
            go_wp2
            go_ret
            exact ⟨ret_bool HR.out.symm, HB4.out⟩
  · have HR : Hid (okB k f t l wt d = false) := hide (by unfold okB; rw [inB_no hk]; rfl)
    by_cases hk1 : k < 1
    · clear hk ht
      go_enter Tryz.func20, Tryz.ntmps20
      go_wp2
      go_ret
      exact ⟨ret_bool HR.out.symm, (Below.refl _ _).alloc (Nat.le_refl _) _⟩
    · have hk9 : 9 < k := by omega
      clear hk ht
      go_enter Tryz.func20, Tryz.ntmps20
      go_wp2
      go_ret
      exact ⟨ret_bool HR.out.symm, (Below.refl _ _).alloc (Nat.le_refl _) _⟩

end Go.Proofs.YtlalldlbgnlbjaaGreatDoor
