/- FH, G -/
import Derived.Test.YtlalldlbgnlbjaaGreatDoorYomeGot13
/- l1Has -/
namespace Go.Proofs.YtlalldlbgnlbjaaGreatDoor
open Go.RowKit

/-- none of the first k -/
def noneOf (zs : List Int) (x : Int) (k : Nat) : Prop := ∀ j, j < k → zs.getD j 0 ≠ x
theorem has_yes (zs : List Int) (x : Int) (k : Nat) (hk : k < zs.length) (h : zs.getD k 0 = x) : zs.contains x = true := by
  have e : zs.getD k 0 = zs[k] := by simp [hk]
  rw [List.contains_iff_mem, ← h, e]
  exact List.getElem_mem hk
theorem has_no (zs : List Int) (x : Int) (h : noneOf zs x zs.length) : zs.contains x = false := by
  rw [Bool.eq_false_iff]
  intro hc
  rw [List.contains_iff_mem, List.mem_iff_getElem] at hc
  obtain ⟨j, hj, e⟩ := hc
  exact h j hj (by simp [hj, e])

def hasBl (zs : List Int) (x : Int) : Bool := zs.contains x

set_option maxHeartbeats 1000000 in
theorem has_any (v : Value) (zs : List Int) (x : Int) (w : World) (ha : Sl w v zs) (hl : zs.length ≤ 1048576) :
    Calls Tryz.prog 93 #[v, .int .i64 x] w fun e w' => e = .returned (.bool (hasBl zs x)) ∧ w' = w := by
  obtain ⟨ad, cap, rfl, ha⟩ := ha
  obtain ⟨n, hn⟩ : ∃ n, zs.length = n := ⟨_, rfl⟩
  rw [hn] at ha hl ⊢
  have HN := hide hn
  clear hn
  go_enter Tryz.func93, Tryz.ntmps93
  go_wp2
  go_loop [5] (fun i => ∃ j : Nat, j ≤ n ∧ i = .int .i64 j ∧ Hid (noneOf zs x j)) (fun i => n - (intOf i).toNat)
  case atStart => exact ⟨0, Nat.zero_le _, rfl, hide (fun j hj => by omega)⟩
  case round =>
    obtain ⟨j, hj, rfl, HR⟩ := hrel
    by_cases hlt : j < n
    · obtain ⟨p, off, rfl, hc⟩ := ha (by omega)
      have hck := hc j hlt
      obtain ⟨z, hz⟩ : ∃ z, zs.getD j 0 = z := ⟨_, rfl⟩
      rw [hz] at hck
      have HZ := hide hz
      clear hz hc ha
      by_cases hzx : z = x
      · have HY : Hid (hasBl zs x = true) := hide (has_yes zs x j (by rw [HN.out]; exact hlt) (HZ.out.trans hzx))
        have hq : (z == x) = true := by simpa using hzx
        clear hzx
        go_wp2
        go_ret
        exact ⟨ret_bool HY.out.symm, rfl⟩
      · have HX := hide hzx
        have hq : (z == x) = false := by simpa using hzx
        clear hzx
        go_wp2
        go_round
        case rel =>
          refine ⟨j + 1, by omega, by go_num, hide fun i hi => ?_⟩
          by_cases e : i = j
          · subst e; rw [HZ.out]; exact HX.out
          · exact HR.out i (by omega)
        case measure => simp [intOf]; omega
    · have e : j = n := by omega
      subst e
      have HY : Hid (hasBl zs x = false) := hide (has_no zs x (by rw [HN.out]; exact HR.out))
      go_wp2
      go_ret
      exact ⟨ret_bool HY.out.symm, rfl⟩

end Go.Proofs.YtlalldlbgnlbjaaGreatDoor

/- idsIn; l1With; l1Without -/
namespace Go.Proofs.YtlalldlbgnlbjaaGreatDoor
open Go.RowKit

theorem Ow.snoc {w : World} {base : Nat} {v : Value} {zs : List Int} {x : Int} (h : w.ownsRow base 2 1 v (zs.length + 1) (zs.map (Value.int .i64) ++ [.int .i64 x])) : Ow w base v (zs ++ [x]) := by
  unfold Ow
  simpa using h

theorem Ow.empty_nil (w : World) (base : Nat) : Ow w base (.slice none 0 0) [] := World.ownsRow_nil _ _ _ _

/-- the first k numbers 1, 2, .. that meet p -/
def upTo (p : Int → Bool) : Nat → List Int
  | 0 => []
  | k + 1 => upTo p k ++ if p ((k : Int) + 1) then [(k : Int) + 1] else []
theorem upTo_le (p : Int → Bool) (k : Nat) : (upTo p k).length ≤ k := by
  induction k with
  | zero => simp [upTo]
  | succ k ih => simp only [upTo, List.length_append]; split <;> simp <;> omega
theorem upTo_yes (p : Int → Bool) (k : Nat) (h : p ((k : Int) + 1) = true) : upTo p (k + 1) = upTo p k ++ [(k : Int) + 1] := by simp [upTo, h]
theorem upTo_no (p : Int → Bool) (k : Nat) (h : p ((k : Int) + 1) = false) : upTo p (k + 1) = upTo p k := by simp [upTo, h]
theorem upTo_five (p : Int → Bool) : upTo p 5 = [1, 2, 3, 4, 5].filter p := by
  have e : upTo p 5 = (((([] ++ if p 1 then [1] else []) ++ if p 2 then [2] else []) ++ if p 3 then [3] else []) ++ if p 4 then [4] else []) ++ if p 5 then [5] else [] := rfl
  rw [e]
  simp only [List.filter]
  cases p 1 <;> cases p 2 <;> cases p 3 <;> cases p 4 <;> cases p 5 <;> rfl

/-- one element appended -/
theorem grow_rel {B : Nat} {w wr w1 : World} {v v' : Value} {zs : List Int} {x : Int} (hB : B = w.heap.size) (hbk : Below B w wr) (hown : Ow wr B v zs)
    (hown' : w1.ownsRow B 2 1 v' (zs.length + 1) (zs.map (Value.int .i64) ++ [.int .i64 x])) (hg : (wr.alloc (.cells #[.int .i64 x] 2)).grownBy w1 v.ownBlock) : Ow w1 B v' (zs ++ [x]) ∧ Below B w w1 := by
  refine ⟨Ow.snoc hown', ?_⟩
  have hs : B ≤ wr.heap.size := by rw [hB]; exact hbk.size
  exact (hbk.alloc hs _).grown hg (by simp; omega) (fun k hk => (World.ownsRow.lt hown k hk).1)

def bitB (s : Int) (n : Int) : Bool := s / 2 ^ n.toNat % 2 == 1

theorem bitB_and (s : Int) (k : Nat) (h0 : 0 ≤ s) (h : s < 64) : (bits BinOp.and IntKind.u64 (s / 2 ^ (k + 1)) 1 == 1) = bitB s ((k : Int) + 1) := by
  have e : ((k : Int) + 1).toNat = k + 1 := by omega
  unfold bitB
  rw [e]
  have hp : (0 : Int) < 2 ^ (k + 1) := Int.pow_pos (by decide)
  have h1 : 0 ≤ s / 2 ^ (k + 1) := Int.ediv_nonneg h0 (Int.le_of_lt hp)
  have h2 : s / 2 ^ (k + 1) ≤ s := Int.ediv_le_self _ h0
  obtain ⟨m, hm⟩ := fin_of (s / 2 ^ (k + 1)) h1 (by omega)
  rw [hm, and_fin m]

set_option maxHeartbeats 1000000 in
theorem idsIn_any (s : Int) (w : World) (h0 : 0 ≤ s) (h64 : s < 64) :
    Calls Tryz.prog 107 #[.int .u64 s] w fun e w' => ∃ u, e = .returned u ∧ Ow w' w.heap.size u (Ids.inSet s) ∧ Below w.heap.size w w' := by
  obtain ⟨i0, hi, hz0, hz1, hz2⟩ := info_parts Tryz.info2
  go_enter Tryz.func107, Tryz.ntmps107
  go_wp2
  go_loopw [3, 4] (fun v i wr => ∃ k : Nat, k ≤ 5 ∧ i = .int .i64 ((k : Int) + 1) ∧ Ow wr w.heap.size v (upTo (bitB s) k) ∧ Below w.heap.size w wr) (fun _ i _ => 6 - (intOf i).toNat)
  case atStart => exact ⟨0, Nat.zero_le _, rfl, Ow.empty_nil _ _, Below.refl _ _⟩
  case round =>
    obtain ⟨k, hk, rfl, hok, hbk⟩ := hrel
    have hle := upTo_le (bitB s) k
    by_cases hlt : k < 5
    · have hbb := bitB_and s k h0 h64
      have hc5 : decide ((k : Int) + 1 ≤ 5) = true := by simp; omega
      by_cases hbit : bitB s ((k : Int) + 1) = true
      · rw [hbit] at hbb
        have HU := hide (upTo_yes (bitB s) k hbit)
        have hsz : w.heap.size ≤ wr.heap.size := hbk.size
        clear hbit
        go_wp2_with (first | (at_builtin; refine wpList_append_own _ rfl _ _ 22 rfl w.heap.size 2 i0 (.int .i64 0) 1 8 Tryz.underlying22 hi hz0 hz1 hz2 rfl (by decide) _ _ _ rfl (World.ownsRow.alloc hok _) ⟨wr.heap.size, 0, none⟩ 1 1 [.int .i64 ((k : Int) + 1)] rfl rfl (cell_one_new _ _ _) (by intro u hu; simp at hu; subst hu; rfl) (by unfold maxLen; omega) (by omega) (by simp; omega) ?_) | go_in)
        intro v' w1 hown' hgrow _
        have R := grow_rel rfl hbk hok hown' hgrow
        rw [← HU.out] at R
        have HR := hide R
        clear hown' hgrow R hok hbk
        go_wp2
        go_roundw
        case rel => exact ⟨k + 1, by omega, by go_num, HR.out.1, HR.out.2⟩
        case measure => simp [intOf]; omega
      · have hbit' : bitB s ((k : Int) + 1) = false := by simpa using hbit
        rw [hbit'] at hbb
        have HU := hide (upTo_no (bitB s) k hbit')
        clear hbit hbit'
        go_wp2
        go_roundw
        case rel => exact ⟨k + 1, by omega, by go_num, by rw [HU.out]; exact hok, hbk⟩
        case measure => simp [intOf]; omega
    · have e : k = 5 := by omega
      have HU : Hid (upTo (bitB s) k = Ids.inSet s) := hide (by rw [e]; exact upTo_five _)
      have hc5 : decide ((k : Int) + 1 ≤ 5) = false := by simp; omega
      clear e
      go_wp2
      go_ret
      exact ⟨_, rfl, by rw [← HU.out]; exact hok, hbk⟩

end Go.Proofs.YtlalldlbgnlbjaaGreatDoor
