/- impl.readDecimal -/
import Derived.Test.YtokekgfompbdiaaDoorNumA
namespace Go.Proofs.YtokekgfompbdiaaDoor
open Go.RowKit

theorem one_byte48 (b : ByteArray) (hp : 0 < b.size) (h1 : b.size ≤ 1) (hz : ((b[0].toNat : Int) == 48) = true) : b.data.toList = [48] := by
  have e := drop_at b 0 hp
  have hl := len_list b
  have : (b.data.toList.drop (0 + 1)) = [] := List.drop_eq_nil_of_le (by omega)
  rw [List.drop_zero, this] at e
  have h2 : b[0].toNat = 48 := by have := eq_of_beq hz; omega
  have h3 : b[0] = 48 := UInt8.toNat_inj.1 h2
  rw [e, h3]

set_option maxRecDepth 20000 in
set_option maxHeartbeats 2000000 in
theorem readDecimal_any (b : ByteArray) (w : World) (hs : b.size ≤ 1048576) :
    Calls Tryd.prog 50 #[.string b] w fun e w' => e = .returned (.tuple #[.int .i64 (rdV b.data.toList), .bool (rdB b.data.toList)]) ∧ w' = w := by
  by_cases h0 : b.size < 1
  · have HB := hide (rd_bad (rd_out (l := b.data.toList) (.inl (List.eq_nil_of_length_eq_zero (by rw [len_list]; omega)))))
    have hE : b.toList = [] := by rw [ByteArray.toList_eq]; exact List.eq_nil_of_length_eq_zero (by rw [len_list]; omega)
    go_enter Tryd.func50, Tryd.ntmps50
    go_wp2
    go_ret2
    exact ⟨ret_num HB.out.1.symm HB.out.2.symm, rfl⟩
  · by_cases h9 : 9 < b.size
    · have HB := hide (rd_bad (rd_out (l := b.data.toList) (.inr (.inl (by rw [len_list]; omega)))))
      have hE : ¬ b.toList = [] := by rw [ByteArray.toList_eq]; intro h; have := len_list b; rw [h] at this; simp at this; omega
      have hE2 : b.toList.isEmpty = false := by cases h : b.toList with
        | nil => exact absurd h hE
        | cons => rfl
      have h9' : (9 : Int) < (b.size : Int) := by omega
      go_enter Tryd.func50, Tryd.ntmps50
      go_wp2
      go_ret2
      exact ⟨ret_num HB.out.1.symm HB.out.2.symm, rfl⟩
    · have hp : 0 < b.size := by omega
      have hE : ¬ b.toList = [] := by rw [ByteArray.toList_eq]; intro h; have := len_list b; rw [h] at this; simp at this; omega
      have hE2 : b.toList.isEmpty = false := by cases h : b.toList with
        | nil => exact absurd h hE
        | cons => rfl
      have h9' : ¬ (9 : Int) < (b.size : Int) := by omega
      have hpi : (0 : Int) < (b.size : Int) := by omega
      by_cases hbad : ((b[0].toNat : Int) == 48) = true ∧ 1 < b.size
      · obtain ⟨hz, h1⟩ := hbad
        have HB := hide (rd_bad (lead_bad b hp hz h1))
        have h48 : (b.toList == [48]) = false := by rw [ByteArray.toList_eq]; rw [beq_eq_false_iff_ne]; intro h; have := len_list b; rw [h] at this; simp at this; omega
        go_enter Tryd.func50, Tryd.ntmps50
        go_wp2
        go_ret2
        exact ⟨ret_num HB.out.1.symm HB.out.2.symm, rfl⟩
      · have hgo : ((b[0].toNat : Int) == 48) = false ∨ (((b[0].toNat : Int) == 48) = true ∧ ¬ (1 : Int) < (b.size : Int)) := by
          rcases Bool.eq_false_or_eq_true ((b[0].toNat : Int) == 48) with h | h
          · exact .inr ⟨h, fun h1 => hbad ⟨h, by omega⟩⟩
          · exact .inl h
        have HR := hide (lead_ok b hp (by omega) (hgo.imp id (fun h => by have := h.2; omega)))
        clear hbad
        have hgo2 : ((b[0].toNat : Int) == 48) = false ∨ (((b[0].toNat : Int) == 48) = true ∧ (b.toList == [48]) = true) := hgo.imp id (fun h => ⟨h.1, by rw [ByteArray.toList_eq, one_byte48 b hp (by have := h.2; omega) h.1]; rfl⟩)
        clear hgo
        rcases hgo2 with hz | ⟨hz, h48⟩
        all_goals
          go_enter Tryd.func50, Tryd.ntmps50
          go_wp2
          go_loop [4, 24] (fun t i => ∃ (k : Nat) (z : Int) (v : Nat), k ≤ b.size ∧ i = .int .i64 k ∧ t = .int .i64 z ∧ 0 ≤ z ∧ z ≤ 999999999 ∧ Hid (NumInv b k z v)) (fun _ i => b.size - (intOf i).toNat)
          case atStart => exact ⟨0, 0, 0, Nat.zero_le _, rfl, rfl, by omega, by omega, hide ⟨rfl, by decide, rfl⟩⟩
          case round =>
            obtain ⟨k, z, v, hk, rfl, rfl, hz0, hz9, HI⟩ := hrel
            by_cases hlt : k < b.size
            · by_cases hd : 48 ≤ b[k].toNat ∧ b[k].toNat ≤ 57
              · obtain ⟨hd1, hd2⟩ := hd
                obtain ⟨hst, hz8⟩ := HI.out.step hlt (by omega) hd1 hd2
                have HS := hide hst
                clear hst
                have hd1' : (48 : Int) ≤ (b[k].toNat : Int) := by omega
                have hd2' : (b[k].toNat : Int) ≤ 57 := by omega
                clear hd1 hd2
                go_wp2
                go_round
                case rel => exact ⟨k + 1, z * 10 + ((b[k].toNat : Int) - 48), v * 10 + (b[k].toNat - 48), by omega, by go_num, by go_num, by omega, by omega, HS⟩
                case measure => simp [intOf]; omega
              · have HB := hide (rd_bad (HR.out.trans (HI.out.2.2.trans (dv_no b k v hlt hd))))
                have hdo : (b[k].toNat : Int) < 48 ∨ (57 : Int) < (b[k].toNat : Int) := by omega
                clear hd
                rcases hdo with hd | hd
                all_goals
                  go_wp2
                  go_ret2
                  exact ⟨ret_num HB.out.1.symm HB.out.2.symm, rfl⟩
            · have e : k = b.size := by omega
              have HB := hide (rd_good (HR.out.trans (dv_done e HI.out.2.2)))
              have HZ := hide HI.out.1
              clear e
              go_wp2
              go_ret2
              exact ⟨ret_num (HZ.out.trans HB.out.1.symm) HB.out.2.symm, rfl⟩

end Go.Proofs.YtokekgfompbdiaaDoor
