/- spec.ReadMsg, one shape -/
import Derived.Test.YtpebiebckdmopaaDoorRmW0
namespace Go.Proofs.YtpebiebckdmopaaDoor
open Go.RowKit
set_option linter.unusedSimpArgs false

set_option maxRecDepth 20000 in
set_option maxHeartbeats 8000000 in
theorem sread_fff (s : ByteArray) (w : World) (hs : s.size ≤ 1048576) (ws : List (List UInt8)) (hws : Rdm.nz (Rdm.sp s.data.toList) = ws) (ha : shapeHome (kOf ws) = false) (hb : shapeWant (kOf ws) = false) (hd : shapeData (kOf ws) = false) :
    Calls Tryd.prog 11 #[.string s] w fun e w' => e = ans (sans s.data.toList ws) ∧ Below w.heap.size w w' := by
  have hk9 := kOf_le ws
  have hxl : ∀ x ∈ ws, x.length ≤ 1048576 := by rw [← hws]; exact nz_len s hs
  have HSR : Hid (sread ws = ((kOf ws : Int), 0, (numAt ws 1), (numAt ws 2), 0, 0)) := hide (by simp [sread, ha, hb, hd])
  go_enter Tryd.func11, Tryd.ntmps11
  go_wp2_with fail
  refine (l2Split_any s _ hs).mono ?_
  rintro e w1 ⟨v, rfl, ho, hb1⟩
  rw [hws] at ho
  obtain ⟨hw, hah⟩ := wd_of_own ho hxl
  have S0 := SS.start (l := numAt ws 2) (by simpa using hb1) hw hah
  go_wp2_with fail
  refine (l2Num_any w1 v ws hw 2 (by omega)).mono ?_
  rintro e w1' ⟨rfl, rfl⟩
  clear ho hb1 hah hw hws
  go_wp2_with fail
  refine (l2Words_all _).mono ?_
  rintro e w2 ⟨gw, rfl, hgw, hcw, hb2⟩
  have L0 : Lp w w1'.heap.size gw (numAt ws 2) v ws 1 w2 := ⟨by cases ws <;> exact S0.next hb2, hcw⟩
  have hgB : gw ≠ w1'.heap.size := by simp at hgw; omega
  have hRB : w.heap.size < w1'.heap.size := S0.RB
  have n1 : ¬ gw = w1'.heap.size := hgB
  have n2 : ¬ w1'.heap.size = gw := fun e => hgB e.symm
  have n3 : ¬ w.heap.size = w1'.heap.size := by omega
  have n4 : ¬ w1'.heap.size = w.heap.size := by omega
  clear hcw hb2 S0 hgw
  obtain ⟨ad, cap, hv, hc1, hc2, hcc, _⟩ := L0.1.wd
  subst hv
  obtain ⟨n, hn⟩ : ∃ n, ws.length = n := ⟨_, rfl⟩
  have HN := hide hn
  rw [hn] at L0
  rw [hn]
  have HC := hide hcc
  clear hcc hn hc1 hc2
  go_wp2_with fail
  go_loopw [7] (fun i wr => ∃ k : Nat, 1 ≤ k ∧ k ≤ 10 ∧ i = .int .i64 k ∧ Lp w w1'.heap.size gw (numAt ws 2) (.slice ad n cap) ws k wr) (fun i _ => 10 - (intOf i).toNat)
  case atStart => exact ⟨1, by omega, by omega, rfl, L0⟩
  case round =>
    clear L0
    obtain ⟨k, hk1, hk10, rfl, hL⟩ := hrel
    by_cases hgo : k < 10 ∧ 0 < n
    · obtain ⟨hk, hpos⟩ := hgo
      obtain ⟨x, r, rfl⟩ : ∃ x r, ws = x :: r := by
        cases ws with
        | nil => have := HN.out; simp at this; omega
        | cons x r => exact ⟨x, r, rfl⟩
      have hki : (k : Int) < 10 := by omega
      have hk0 : (0 : Int) ≤ (k : Int) := by omega
      have hpi : (0 : Int) < (n : Int) := by omega
      have hcw := hL.2 k hk
      obtain ⟨ad', cap', hv', _, _, hcc, _⟩ := hL.1.wd
      have had : ad' = ad := by injection hv' with e1 e2 e3; exact e1.symm
      clear hv'
      subst had
      obtain ⟨bb, off, rfl, hc0s⟩ := hcc (by simp)
      have hc0 : wr.cell? ⟨bb, off, none⟩ = some (.string (bstr x)) := by have := hc0s 0 (by simp); rw [Nat.add_zero] at this; exact this
      obtain ⟨fz, j0, _, _, _, _, _⟩ := hL.1.six
      have HL := hide hL
      clear hL hcc hc0s
      by_cases hw : shapeWord k = x
      · have hbeq : ((bstr (shapeWord k)).toList == (bstr x).toList) = true := by rw [str_list (bstr_list _), hw]; simp
        have HY := hide (fun q => HL.out.yes hk1 hw hgB q)
        go_wp2_with fail
        go_quiet (fail)
        go_wp2
        go_roundw
        case rel => exact ⟨k + 1, by omega, by omega, by go_num, HY.out _⟩
        case measure => simp [intOf]; omega
      · have hbeq : ((bstr (shapeWord k)).toList == (bstr x).toList) = false := by rw [str_list (bstr_list _), beq_eq_false_iff_ne]; exact hw
        have HY := hide (fun q => HL.out.no hw q)
        go_wp2_with fail
        go_quiet (fail)
        go_wp2
        go_roundw
        case rel => exact ⟨k + 1, by omega, by omega, by go_num, HY.out _⟩
        case measure => simp [intOf]; omega
    · have hex : ¬ (k : Int) < 10 ∨ ((k : Int) < 10 ∧ ¬ (0 : Int) < (n : Int)) := by omega
      have hkk : kUpW ws k = kOf ws := by
        cases ws with
        | nil => rfl
        | cons x r =>
          have : k = 10 := by have := HN.out; simp at this; omega
          rw [this]; rfl
      have S := hL.1
      rw [hkk] at S
      clear hL hkk hgo
      rcases hex with hex | ⟨hex1, hex⟩
      all_goals
        obtain ⟨fz0, a0, a1, a2, a3, a4, a5⟩ := S.six
        go_wp2_with fail
        refine (l2Core_all (kOf ws) _ hk9).mono ?_
        rintro e wq ⟨rfl, rfl⟩
        rw [ha]
        go_wp2_with fail
        refine (l2Num_any _ _ ws S.wd 1 (by omega)).mono ?_
        rintro e wq ⟨rfl, rfl⟩
        have S1 : SS _ _ _ #[.int .i64 (kOf ws : Int), .int .i64 0, .int .i64 (numAt ws 1), .int .i64 (numAt ws 2), .int .i64 0, .int .i64 0] _ _ _ := S.put 2 (.int .i64 (numAt ws 1))
        go_wp2_with fail
        refine (l2Wants_all (kOf ws) _ hk9).mono ?_
        rintro e wq ⟨rfl, rfl⟩
        rw [hb]
        go_wp2_with fail
        refine (l2Holds_all (kOf ws) _ hk9).mono ?_
        rintro e wq ⟨rfl, rfl⟩
        rw [hd]
        by_cases hse : s.data.toList = []
        · have hbe : (s.toList == []) = true := by rw [ByteArray.toList_eq, hse]; rfl
          have HA : Hid (sans s.data.toList ws = none) := hide (by simp [sans, hse])
          have HF := hide S1.fin
          obtain ⟨fr, r0, r1, r2, r3, r4, r5⟩ := S1.res
          clear hse
          go_wp2
          exact bodyPost_ret (v := .tuple #[aggOf Z6, .bool false]) (by simp [results, Tryd.results11, go_sem, r0, r1, r2, r3, r4, r5]) rfl ⟨by rw [HA.out]; rfl, HF.out _ _ _ _ _ _⟩
        · have hbe : (s.toList == []) = false := by rw [ByteArray.toList_eq, beq_eq_false_iff_ne]; exact hse
          go_wp2_with fail
          refine (specText_any _ _ _ _ _ _ _).mono ?_
          rintro e u ⟨rfl, hbu⟩
          have U := S1.next hbu
          have HF := hide U.fin
          obtain ⟨fr, r0, r1, r2, r3, r4, r5⟩ := U.res
          obtain ⟨fz1, i0, i1, i2, i3, i4, i5⟩ := U.six
          clear hbu fz0 a0 a1 a2 a3 a4 a5
          by_cases htx : textB (kOf ws : Int) 0 (numAt ws 1) (numAt ws 2) 0 0 = s.data.toList
          · have heq : ((bstr (textB (kOf ws : Int) 0 (numAt ws 1) (numAt ws 2) 0 0)).toList == s.toList) = true := by rw [blist, ByteArray.toList_eq, htx]; simp
            have HA : Hid (sans s.data.toList ws = some ((kOf ws : Int), 0, (numAt ws 1), (numAt ws 2), 0, 0)) := hide (by unfold sans; rw [if_pos ⟨hse, by rw [HSR.out]; exact htx⟩, HSR.out])
            clear htx hse
            go_wp2
            exact bodyPost_ret (v := .tuple #[aggOf ((kOf ws : Int), 0, (numAt ws 1), (numAt ws 2), 0, 0), .bool true]) (by simp [results, Tryd.results11, go_sem, r0, r1, r2, r3, r4, r5]) rfl ⟨by rw [HA.out]; rfl, HF.out _ _ _ _ _ _⟩
          · have heq : ((bstr (textB (kOf ws : Int) 0 (numAt ws 1) (numAt ws 2) 0 0)).toList == s.toList) = false := by rw [blist, ByteArray.toList_eq, beq_eq_false_iff_ne]; exact htx
            have HA : Hid (sans s.data.toList ws = none) := hide (by unfold sans; rw [if_neg (fun e => htx (by have := e.2; rw [HSR.out] at this; exact this))])
            clear htx hse
            go_wp2
            exact bodyPost_ret (v := .tuple #[aggOf Z6, .bool false]) (by simp [results, Tryd.results11, go_sem, r0, r1, r2, r3, r4, r5]) rfl ⟨by rw [HA.out]; rfl, HF.out _ _ _ _ _ _⟩

end Go.Proofs.YtpebiebckdmopaaDoor
