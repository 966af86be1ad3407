/- spec.l1Int, impl.readDecimal: a number in decimal -/
import Derived.Test.YtokekgfompbdiaaDoorStrA
import Derived.Test.YtokekgfompbdiaaDoorReadMath
namespace Go.Proofs.YtokekgfompbdiaaDoor
open Go.RowKit

def rdV (l : List UInt8) : Int := (((Rdm.rd l).getD 0 : Nat) : Int)
def rdB (l : List UInt8) : Bool := (Rdm.rd l).isSome

theorem rd_bad {l : List UInt8} (h : Rdm.rd l = none) : rdV l = 0 ∧ rdB l = false := by simp [rdV, rdB, h]
theorem rd_good {l : List UInt8} {v : Nat} (h : Rdm.rd l = some v) : rdV l = (v : Int) ∧ rdB l = true := by simp [rdV, rdB, h]
theorem ret_num {a b : Int} {c d : Bool} (h : a = b) (k : c = d) : Ending.returned (.tuple #[.int .i64 a, .bool c]) = .returned (.tuple #[.int .i64 b, .bool d]) := by rw [h, k]

theorem rd_out {l : List UInt8} (h : l = [] ∨ 9 < l.length ∨ (l.head? = some 48 ∧ l ≠ [48])) : Rdm.rd l = none := by unfold Rdm.rd; rw [if_pos h]
theorem rd_in {l : List UInt8} (h : ¬ (l = [] ∨ 9 < l.length ∨ (l.head? = some 48 ∧ l ≠ [48]))) : Rdm.rd l = Rdm.dv l 0 := by unfold Rdm.rd; rw [if_neg h]

theorem drop_at (b : ByteArray) (k : Nat) (h : k < b.size) : b.data.toList.drop k = b[k] :: b.data.toList.drop (k + 1) := by
  rw [List.drop_eq_getElem_cons (by simpa using h)]; rfl

theorem dv_yes (b : ByteArray) (k v : Nat) (h : k < b.size) (h1 : 48 ≤ b[k].toNat) (h2 : b[k].toNat ≤ 57) : Rdm.dv (b.data.toList.drop k) v = Rdm.dv (b.data.toList.drop (k + 1)) (v * 10 + (b[k].toNat - 48)) := by
  rw [drop_at b k h, Rdm.dv, if_pos ⟨h1, h2⟩]
theorem dv_no (b : ByteArray) (k v : Nat) (h : k < b.size) (hn : ¬ (48 ≤ b[k].toNat ∧ b[k].toNat ≤ 57)) : Rdm.dv (b.data.toList.drop k) v = none := by
  rw [drop_at b k h, Rdm.dv, if_neg hn]

theorem pow9 {v k : Nat} (hk : k < 9) (h : v < 10 ^ k) (c : Nat) (hc : c ≤ 9) : v * 10 + c < 10 ^ (k + 1) ∧ (v : Int) ≤ 99999999 := by
  have h1 : 10 ^ k ≤ 10 ^ 8 := Nat.pow_le_pow_right (by decide) (by omega)
  have h2 : (10 : Nat) ^ 8 = 100000000 := by decide
  refine ⟨by rw [Nat.pow_succ]; omega, by omega⟩

theorem head_at (b : ByteArray) (h : 0 < b.size) : b.data.toList.head? = some b[0] := by
  have e := drop_at b 0 h
  rw [List.drop_zero] at e
  rw [e]; rfl

theorem len_list (b : ByteArray) : b.data.toList.length = b.size := by rw [Array.length_toList]; rfl

theorem lead_bad (b : ByteArray) (hp : 0 < b.size) (hz : ((b[0].toNat : Int) == 48) = true) (h1 : 1 < b.size) : Rdm.rd b.data.toList = none := by
  refine rd_out (.inr (.inr ⟨?_, fun e => ?_⟩))
  · rw [head_at b hp]
    have h2 : b[0].toNat = 48 := by have := eq_of_beq hz; omega
    congr 1
    exact UInt8.toNat_inj.1 h2
  · have := len_list b
    rw [e] at this
    simp at this
    omega

theorem lead_ok (b : ByteArray) (hp : 0 < b.size) (h9 : b.size ≤ 9) (hz : ((b[0].toNat : Int) == 48) = false ∨ b.size ≤ 1) : Rdm.rd b.data.toList = Rdm.dv b.data.toList 0 := by
  have hl := len_list b
  refine rd_in ?_
  rintro (h | h | ⟨h1, h2⟩)
  · rw [h] at hl; simp at hl; omega
  · omega
  · rw [head_at b hp] at h1
    have h3 : b[0] = 48 := Option.some.inj h1
    rcases hz with hz | hz
    · rw [h3] at hz; exact absurd hz (by decide)
    · apply h2
      have e := drop_at b 0 hp
      rw [List.drop_zero, h3] at e
      have : (b.data.toList.drop (0 + 1)) = [] := List.drop_eq_nil_of_le (by omega)
      rw [e, this]

/-- where the digits end -/
theorem dv_done {b : ByteArray} {k v : Nat} (hk : k = b.size) (h : Rdm.dv b.data.toList 0 = Rdm.dv (b.data.toList.drop k) v) : Rdm.dv b.data.toList 0 = some v := by
  rw [h, hk, ← len_list b, List.drop_length]; rfl

def NumInv (b : ByteArray) (k : Nat) (z : Int) (v : Nat) : Prop := z = (v : Int) ∧ v < 10 ^ k ∧ Rdm.dv b.data.toList 0 = Rdm.dv (b.data.toList.drop k) v

theorem NumInv.step {b : ByteArray} {k v : Nat} {z : Int} (h : NumInv b k z v) (hk : k < b.size) (h9 : b.size ≤ 9) (h1 : 48 ≤ b[k].toNat) (h2 : b[k].toNat ≤ 57) : NumInv b (k + 1) (z * 10 + ((b[k].toNat : Int) - 48)) (v * 10 + (b[k].toNat - 48)) ∧ z ≤ 99999999 := by
  obtain ⟨e, hp, hd⟩ := h
  have hh := pow9 (by omega : k < 9) hp (b[k].toNat - 48) (by omega)
  refine ⟨⟨by rw [e]; omega, hh.1, ?_⟩, by rw [e]; exact hh.2⟩
  rw [hd, dv_yes b k v hk h1 h2]

set_option maxRecDepth 20000 in
set_option maxHeartbeats 2000000 in
theorem l1Int_any (b : ByteArray) (w : World) (hs : b.size ≤ 1048576) :
    Calls Tryd.prog 59 #[.string b] w fun e w' => e = .returned (.tuple #[.int .i64 (rdV b.data.toList), .bool (rdB b.data.toList)]) ∧ w' = w := by
  by_cases h0 : b.size < 1
  · have HB := hide (rd_bad (rd_out (l := b.data.toList) (.inl (List.eq_nil_of_length_eq_zero (by rw [len_list]; omega)))))
    have h0' : (b.size : Int) < 1 := by omega
    go_enter Tryd.func59, Tryd.ntmps59
    go_wp2
    go_ret2
    exact ⟨ret_num HB.out.1.symm HB.out.2.symm, rfl⟩
  · by_cases h9 : 9 < b.size
    · have HB := hide (rd_bad (rd_out (l := b.data.toList) (.inr (.inl (by rw [len_list]; omega)))))
      have h0' : ¬ (b.size : Int) < 1 := by omega
      have h9' : (9 : Int) < (b.size : Int) := by omega
      go_enter Tryd.func59, Tryd.ntmps59
      go_wp2
      go_ret2
      exact ⟨ret_num HB.out.1.symm HB.out.2.symm, rfl⟩
    · have hp : 0 < b.size := by omega
      have h0' : ¬ (b.size : Int) < 1 := by omega
      have h9' : ¬ (9 : Int) < (b.size : Int) := by omega
      have hpi : (0 : Int) < (b.size : Int) := by omega
      by_cases hbad : ((b[0].toNat : Int) == 48) = true ∧ 1 < b.size
      · obtain ⟨hz, h1⟩ := hbad
        have HB := hide (rd_bad (lead_bad b hp hz h1))
        have h1' : (1 : Int) < (b.size : Int) := by omega
        go_enter Tryd.func59, Tryd.ntmps59
        go_wp2
        go_ret2
        exact ⟨ret_num HB.out.1.symm HB.out.2.symm, rfl⟩
      · have hgo : ((b[0].toNat : Int) == 48) = false ∨ (((b[0].toNat : Int) == 48) = true ∧ ¬ (1 : Int) < (b.size : Int)) := by
          rcases Bool.eq_false_or_eq_true ((b[0].toNat : Int) == 48) with h | h
          · exact .inr ⟨h, fun h1 => hbad ⟨h, by omega⟩⟩
          · exact .inl h
        have HR := hide (lead_ok b hp (by omega) (hgo.imp id (fun h => by have := h.2; omega)))
        clear hbad
        rcases hgo with hz | ⟨hz, h1⟩
        all_goals
          go_enter Tryd.func59, Tryd.ntmps59
          go_wp2
          go_loop [4, 5] (fun t i => ∃ (k : Nat) (z : Int) (v : Nat), k ≤ b.size ∧ i = .int .i64 k ∧ t = .int .i64 z ∧ 0 ≤ z ∧ z ≤ 999999999 ∧ Hid (NumInv b k z v)) (fun _ i => b.size - (intOf i).toNat)
          case atStart => exact ⟨0, 0, 0, Nat.zero_le _, rfl, rfl, by omega, by omega, hide ⟨rfl, by decide, rfl⟩⟩
          case round =>
            obtain ⟨k, z, v, hk, rfl, rfl, hz0, hz9, HI⟩ := hrel
            by_cases hlt : k < b.size
            · by_cases hd : 48 ≤ b[k].toNat ∧ b[k].toNat ≤ 57
              · obtain ⟨hd1, hd2⟩ := hd
                obtain ⟨hst, hz8⟩ := HI.out.step hlt (by omega) hd1 hd2
                have HS := hide hst
                clear hst
                have hd1' : (48 : Int) ≤ (b[k].toNat : Int) := by omega
                have hd2' : (b[k].toNat : Int) ≤ 57 := by omega
                clear hd1 hd2
                go_wp2
                go_round
                case rel => exact ⟨k + 1, _, _, by omega, by go_num, rfl, by omega, by omega, HS⟩
                case measure => simp [intOf]; omega
              · have HB := hide (rd_bad (HR.out.trans (HI.out.2.2.trans (dv_no b k v hlt hd))))
                have hdo : (b[k].toNat : Int) < 48 ∨ (57 : Int) < (b[k].toNat : Int) := by omega
                clear hd
                rcases hdo with hd | hd
                all_goals
                  go_wp2
                  go_ret2
                  exact ⟨ret_num HB.out.1.symm HB.out.2.symm, rfl⟩
            · have e : k = b.size := by omega
              have HB := hide (rd_good (HR.out.trans (dv_done e HI.out.2.2)))
              have HZ := hide HI.out.1
              clear e
              go_wp2
              go_ret2
              exact ⟨ret_num (HZ.out.trans HB.out.1.symm) HB.out.2.symm, rfl⟩

end Go.Proofs.YtokekgfompbdiaaDoor
