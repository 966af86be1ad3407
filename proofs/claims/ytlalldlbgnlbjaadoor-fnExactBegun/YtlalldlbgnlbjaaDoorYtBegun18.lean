/- FH -/
import Derived.Test.YtlalldlbgnlbjaaDoorYtBegun17
/- l1Has -/
namespace Go.Proofs.YtlalldlbgnlbjaaDoor
open Go.RowKit

/-- none of the first k -/
def noneOf (zs : List Int) (x : Int) (k : Nat) : Prop := ∀ j, j < k → zs.getD j 0 ≠ x
theorem has_yes (zs : List Int) (x : Int) (k : Nat) (hk : k < zs.length) (h : zs.getD k 0 = x) : zs.contains x = true := by
  have e : zs.getD k 0 = zs[k] := by simp [hk]
  rw [List.contains_iff_mem, ← h, e]
  exact List.getElem_mem hk
theorem has_no (zs : List Int) (x : Int) (h : noneOf zs x zs.length) : zs.contains x = false := by
  rw [Bool.eq_false_iff]
  intro hc
  rw [List.contains_iff_mem, List.mem_iff_getElem] at hc
  obtain ⟨j, hj, e⟩ := hc
  exact h j hj (by simp [hj, e])

def hasBl (zs : List Int) (x : Int) : Bool := zs.contains x

set_option maxHeartbeats 1000000 in
theorem has_any (v : Value) (zs : List Int) (x : Int) (w : World) (ha : Sl w v zs) (hl : zs.length ≤ 1048576) :
    Calls Tryd.prog 87 #[v, .int .i64 x] w fun e w' => e = .returned (.bool (hasBl zs x)) ∧ w' = w := by
  obtain ⟨ad, cap, rfl, ha⟩ := ha
  obtain ⟨n, hn⟩ : ∃ n, zs.length = n := ⟨_, rfl⟩
  rw [hn] at ha hl ⊢
  have HN := hide hn
  clear hn
  go_enter Tryd.func87, Tryd.ntmps87
  go_wp2
  go_loop [5] (fun i => ∃ j : Nat, j ≤ n ∧ i = .int .i64 j ∧ Hid (noneOf zs x j)) (fun i => n - (intOf i).toNat)
  case atStart => exact ⟨0, Nat.zero_le _, rfl, hide (fun j hj => by omega)⟩
  case round =>
    obtain ⟨j, hj, rfl, HR⟩ := hrel
    by_cases hlt : j < n
    · obtain ⟨p, off, rfl, hc⟩ := ha (by omega)
      have hck := hc j hlt
      obtain ⟨z, hz⟩ : ∃ z, zs.getD j 0 = z := ⟨_, rfl⟩
      rw [hz] at hck
      have HZ := hide hz
      clear hz hc ha
      by_cases hzx : z = x
      · have HY : Hid (hasBl zs x = true) := hide (has_yes zs x j (by rw [HN.out]; exact hlt) (HZ.out.trans hzx))
        have hq : (z == x) = true := by simpa using hzx
        clear hzx
        go_wp2
        go_ret
        exact ⟨ret_bool HY.out.symm, rfl⟩
      · have HX := hide hzx
        have hq : (z == x) = false := by simpa using hzx
        clear hzx
        go_wp2
        go_round
        case rel =>
          refine ⟨j + 1, by omega, by go_num, hide fun i hi => ?_⟩
          by_cases e : i = j
          · subst e; rw [HZ.out]; exact HX.out
          · exact HR.out i (by omega)
        case measure => simp [intOf]; omega
    · have e : j = n := by omega
      subst e
      have HY : Hid (hasBl zs x = false) := hide (has_no zs x (by rw [HN.out]; exact HR.out))
      go_wp2
      go_ret
      exact ⟨ret_bool HY.out.symm, rfl⟩

end Go.Proofs.YtlalldlbgnlbjaaDoor
