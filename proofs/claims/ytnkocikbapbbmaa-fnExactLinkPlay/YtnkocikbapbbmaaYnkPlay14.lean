/- FlD -/
import Derived.Test.YtnkocikbapbbmaaYnkPlay13
import Derived.Deep.RegionWith
import Derived.Deep.QuietTactic
import Derived.BigQuiet
/- ReadFlit -/
namespace Go.Proofs.Ytnkocikbapbbmaa
open Go.RowKit
set_option linter.unusedVariables false
set_option linter.unusedSimpArgs false

namespace Flit
def kd (s : ByteArray) : Nat := Crc.at' s 0
def sq (s : ByteArray) : Nat := Crc.at' s 1 * 65536 + Crc.at' s 2 * 256 + Crc.at' s 3
def bd (s : ByteArray) : ByteArray := s.extract 5 (s.size - 2)
theorem wrap_nat (n : Nat) (h : n < 9223372036854775808) : wrap64 (n : Int) = (n : Int) := by unfold wrap64; omega
theorem sq_add (a b c : Nat) (ha : a < 256) (hb : b < 256) (hc : c < 256) : wrap64 (wrap64 (wrap64 (wrap64 (a : Int) * 65536) + wrap64 (wrap64 (b : Int) * 256)) + wrap64 (c : Int)) = ((a * 65536 + b * 256 + c : Nat) : Int) := by
  rw [wrap_nat a (by omega), wrap_nat b (by omega), wrap_nat c (by omega)]
  have e1 : wrap64 ((a : Int) * 65536) = ((a * 65536 : Nat) : Int) := wrap_nat (a * 65536) (by omega)
  have e2 : wrap64 ((b : Int) * 256) = ((b * 256 : Nat) : Int) := wrap_nat (b * 256) (by omega)
  rw [e1, e2]
  have e3 : wrap64 (((a * 65536 : Nat) : Int) + ((b * 256 : Nat) : Int)) = ((a * 65536 + b * 256 : Nat) : Int) := wrap_nat (a * 65536 + b * 256) (by omega)
  rw [e3]
  exact wrap_nat (a * 65536 + b * 256 + c) (by omega)
theorem sq_or (a b c : Nat) (ha : a < 256) (hb : b < 256) (hc : c < 256) : bits BinOp.or IntKind.i64 (bits BinOp.or IntKind.i64 (wrap64 (wrap64 (a : Int) * 65536)) (wrap64 (wrap64 (b : Int) * 256))) (wrap64 (c : Int)) = ((a * 65536 + b * 256 + c : Nat) : Int) := by
  have e1 : wrap64 (wrap64 (a : Int) * 65536) = ((a * 65536 : Nat) : Int) := by unfold wrap64; omega
  have e2 : wrap64 (wrap64 (b : Int) * 256) = ((b * 256 : Nat) : Int) := by unfold wrap64; omega
  have e3 : wrap64 (c : Int) = (c : Int) := by unfold wrap64; omega
  rw [e1, e2, e3, Ecc.i64_or _ _ (by omega) (by omega)]
  have o1 : a * 65536 ||| b * 256 = a * 65536 + b * 256 := by
    rw [Nat.or_comm, show a * 65536 = a * 2 ^ 16 from rfl, Ecc.or_add (b * 256) a 16 (by omega)]; omega
  rw [o1, Ecc.i64_or _ _ (by omega) (by omega)]
  have o2 : (a * 65536 + b * 256) ||| c = a * 65536 + b * 256 + c := by
    rw [Nat.or_comm, show a * 65536 + b * 256 = (a * 256 + b) * 2 ^ 8 by omega, Ecc.or_add c (a * 256 + b) 8 (by omega)]; omega
  rw [o2]
end Flit

namespace Flit
def tx (s : ByteArray) : ByteArray := txt (kd s) (sq s) (bd s)
def rd (s : ByteArray) : Bool := decide (7 ≤ s.size ∧ tx s = s)
def rK (s : ByteArray) : Int := if rd s then (kd s : Int) else 0
def rS (s : ByteArray) : Int := if rd s then (sq s : Int) else 0
def rB (s : ByteArray) : ByteArray := if rd s then bd s else ⟨#[]⟩
theorem rd_no {s : ByteArray} (h : rd s = false) : rK s = 0 ∧ rS s = 0 ∧ rB s = ⟨#[]⟩ := by unfold rK rS rB; rw [h]; exact ⟨rfl, rfl, rfl⟩
theorem rd_yes {s : ByteArray} (h : rd s = true) : rK s = kd s ∧ rS s = sq s ∧ rB s = bd s := by unfold rK rS rB; rw [h]; exact ⟨rfl, rfl, rfl⟩
end Flit

namespace Flit
theorem bd_size (s : ByteArray) (h : 7 ≤ s.size) : (bd s).size = s.size - 7 := by
  unfold bd
  rw [ByteArray.size_extract]
  omega
theorem rd_long (s : ByteArray) (h : 15 < s.size) : rd s = false := by
  refine decide_eq_false (fun h2 => ?_)
  have hb := bd_size s h2.1
  have ho : ok (kd s) (sq s) (bd s) = false := decide_eq_false (fun h3 => by rcases h3.2 with h4 | h4 <;> omega)
  have e := h2.2
  unfold tx txt at e
  rw [ho, if_neg (by simp)] at e
  rw [← e] at h
  exact absurd h (by show ¬ 15 < 0; omega)
end Flit

theorem loop_eq (b : ByteArray) : ∀ (n i : Nat) (r : List UInt8), b.size - i = n → ByteArray.toList.loop b i r = r.reverse ++ b.data.toList.drop i
  | 0, i, r, h => by
    unfold ByteArray.toList.loop
    rw [if_neg (by omega)]
    have h2 : b.data.toList.length ≤ i := by show b.size ≤ i; omega
    rw [List.drop_eq_nil_of_le h2, List.append_nil]
  | n + 1, i, r, h => by
    unfold ByteArray.toList.loop
    rw [if_pos (by omega), loop_eq b n (i + 1) _ (by omega)]
    have hi : i < b.data.size := by show i < b.size; omega
    have h2 : i < b.data.toList.length := by simpa using hi
    have e : b.get! i = b.data[i] := by
      exact getElem!_pos b.data i hi
    rw [List.drop_eq_getElem_cons h2, e, List.reverse_cons, List.append_assoc]
    simp
theorem toList_data (b : ByteArray) : b.toList = b.data.toList := by
  unfold ByteArray.toList
  rw [loop_eq b b.size 0 [] rfl]; simp
theorem list_ne {a b : ByteArray} (h : ¬ a = b) : (a.toList == b.toList) = false := by
  cases hb : (a.toList == b.toList)
  · rfl
  · have e := eq_of_beq hb
    rw [toList_data, toList_data] at e
    obtain ⟨⟨x⟩⟩ := a
    obtain ⟨⟨y⟩⟩ := b
    simp at e
    exact absurd (by rw [e]) h

/-- the worlds of ReadFlit: the result's block, then the flit's -/
structure RW (w0 w : World) (k s : Int) (b : ByteArray) : Prop where
  bel : Below w0.heap.size w0 w
  res : w.heap[w0.heap.size]? = some (.cells #[.int .i64 0, .int .i64 0, .string ⟨#[]⟩] 88 (0, 0))
  fl : w.heap[w0.heap.size + 1]? = some (.cells #[.int .i64 k, .int .i64 s, .string b] 88 (0, 0))
theorem rw_start (w : World) (k s : Int) (b : ByteArray) : RW w ((w.alloc (.cells #[.int .i64 0, .int .i64 0, .string ⟨#[]⟩] 88)).alloc (.cells #[.int .i64 k, .int .i64 s, .string b] 88)) k s b := by
  refine ⟨((Below.refl _ _).alloc (Nat.le_refl _) _).alloc (by simp) _, ?_, ?_⟩
  · rw [Below.heap_alloc _ _ _ (by simp)]; exact heap_alloc_new _ _
  · have := heap_alloc_new (w.alloc (.cells #[.int .i64 0, .int .i64 0, .string ⟨#[]⟩] 88)) (.cells #[.int .i64 k, .int .i64 s, .string b] 88)
    rw [World.size_alloc] at this
    exact this
theorem RW.drew {w0 w : World} {k s : Int} {b : ByteArray} (h : RW w0 w k s b) : RW w0 w.drew k s b := ⟨h.bel.drew, h.res, h.fl⟩
theorem RW.next {w0 w w' : World} {k s : Int} {b : ByteArray} (h : RW w0 w k s b) (hb : Below w.heap.size w w') : RW w0 w' k s b :=
  ⟨h.bel.trans (hb.mono h.bel.size), by rw [hb.block _ (lt_of_block h.res)]; exact h.res, by rw [hb.block _ (lt_of_block h.fl)]; exact h.fl⟩
theorem RW.facts {w0 w : World} {k s : Int} {b : ByteArray} (h : RW w0 w k s b) :
    w.cell? ⟨w0.heap.size + 1, 0, none⟩ = some (.int .i64 k) ∧ w.cell? ⟨w0.heap.size + 1, 1, none⟩ = some (.int .i64 s) ∧ w.cell? ⟨w0.heap.size + 1, 2, none⟩ = some (.string b) ∧ (∀ i, w.frozen? ⟨w0.heap.size, i, none⟩ = false) ∧
    w.cell? ⟨w0.heap.size, 0, none⟩ = some (.int .i64 0) ∧ w.cell? ⟨w0.heap.size, 1, none⟩ = some (.int .i64 0) ∧ w.cell? ⟨w0.heap.size, 2, none⟩ = some (.string ⟨#[]⟩) := by
  refine ⟨?_, ?_, ?_, fun i => frozen_of_row w _ i _ _ h.res, ?_, ?_, ?_⟩
  all_goals first
    | (rw [cell_of_row w (w0.heap.size + 1) _ _ _ _ h.fl]; rfl)
    | (rw [cell_of_row w w0.heap.size _ _ _ _ h.res]; rfl)
theorem RW.put {w0 w : World} {k s : Int} {b : ByteArray} (h : RW w0 w k s b) (v0 v1 v2 : Value) : Below w0.heap.size w0 (((w.setCell ⟨w0.heap.size, 0, none⟩ v0).setCell ⟨w0.heap.size, 1, none⟩ v1).setCell ⟨w0.heap.size, 2, none⟩ v2) :=
  ((h.bel.setCell (Nat.le_refl _) _).setCell (Nat.le_refl _) _).setCell (Nat.le_refl _) _

set_option maxHeartbeats 4000000 in
theorem implRead_any (s : ByteArray) (w : World) (hl : s.size ≤ 1048576) : Calls Try.prog 78 #[.string s] w fun e w' => e = .returned (.tuple #[.agg #[.int .i64 (Flit.rK s), .int .i64 (Flit.rS s), .string (Flit.rB s)], .bool (Flit.rd s)]) ∧ Below w.heap.size w w' := by
  by_cases h7 : 7 ≤ s.size
  · have t0 := Crc.at_eq s 0 (by omega)
    have t1 := Crc.at_eq s 1 (by omega)
    have t2 := Crc.at_eq s 2 (by omega)
    have t3 := Crc.at_eq s 3 (by omega)
    have HSQ : Hid (bits BinOp.or IntKind.i64 (bits BinOp.or IntKind.i64 (wrap64 (wrap64 (s[1].toNat : Int) * 65536)) (wrap64 (wrap64 (s[2].toNat : Int) * 256))) (wrap64 (s[3].toNat : Int)) = ((Flit.sq s : Nat) : Int)) := hide (by rw [← t1, ← t2, ← t3]; exact Flit.sq_or _ _ _ (Crc.at_lt s 1) (Crc.at_lt s 2) (Crc.at_lt s 3))
    have HKD : Hid (wrap64 (s[0].toNat : Int) = ((Flit.kd s : Nat) : Int)) := hide (by rw [← t0]; have := Crc.at_lt s 0; show wrap64 (Crc.at' s 0 : Int) = (Crc.at' s 0 : Int); unfold wrap64; omega)
    have ht := fun w => implText_any (Flit.kd s) (Flit.sq s) (Flit.bd s) w
    change ∀ w, Calls _ _ _ _ fun e w' => e = .returned (.string (Flit.tx s)) ∧ _ at ht
    unfold Flit.bd at ht
    have HR : Hid (Flit.rd s = decide (7 ≤ s.size ∧ Flit.tx s = s)) := hide rfl
    have HY := hide (fun h => Flit.rd_yes (s := s) h)
    have HN := hide (fun h => Flit.rd_no (s := s) h)
    unfold Flit.bd at HY
    generalize Flit.rd s = r at HR HY HN
    generalize Flit.rK s = rk at HY HN
    generalize Flit.rS s = rs at HY HN
    generalize Flit.rB s = rb at HY HN
    generalize Flit.tx s = T at ht HR
    generalize Flit.sq s = sq at HSQ ht HY
    generalize Flit.kd s = kd at HKD ht HY
    have g0 : (0 : Int) < (s.size : Int) := by omega
    have g00 : 0 < s.size := by omega
    have g1 : (1 : Int) < (s.size : Int) := by omega
    have g2 : (2 : Int) < (s.size : Int) := by omega
    have g3 : (3 : Int) < (s.size : Int) := by omega
    clear t0 t1 t2 t3
    have HB := hide (rw_start w kd sq (s.extract 5 (s.size - 2))).drew.drew
    go_enter Try.func78, Try.ntmps78
    go_wp2
    go_region
    go_wp2
    rw [HSQ.out]
    go_region
    rw [HKD.out]
    clear HSQ HKD
    go_wp2_with fail
    refine (ht _).mono ?_
    rintro e w1 ⟨rfl, hb1⟩
    have rw1 := HB.out.next hb1
    clear hb1 HB
    obtain ⟨q0, q1, q2, fy, y0, y1, y2⟩ := rw1.facts
    by_cases hT : T = s
    · rw [hT]
      have HE : Hid (r = true ∧ rk = kd ∧ rs = sq ∧ rb = s.extract 5 (s.size - 2)) := hide (by
        have hr : r = true := by rw [HR.out]; exact decide_eq_true ⟨h7, hT⟩
        exact ⟨hr, HY.out hr⟩)
      go_wp2
      refine bodyPost_ret (v := .tuple #[.agg #[.int .i64 kd, .int .i64 sq, .string (s.extract 5 (s.size - 2))], .bool true]) (by simp [results, Try.results78, go_sem, Act.put, y0, y1, y2]) rfl ⟨?_, rw1.put _ _ _⟩
      rw [HE.out.1, HE.out.2.1, HE.out.2.2.1, HE.out.2.2.2]
    · have hq := list_ne hT
      have HE : Hid (r = false ∧ rk = 0 ∧ rs = 0 ∧ rb = ⟨#[]⟩) := hide (by
        have hr : r = false := by rw [HR.out]; exact decide_eq_false (fun h => hT h.2)
        exact ⟨hr, HN.out hr⟩)
      clear hT
      go_wp2
      refine bodyPost_ret (v := .tuple #[.agg #[.int .i64 0, .int .i64 0, .string ⟨#[]⟩], .bool false]) (by simp [results, Try.results78, go_sem, Act.put, y0, y1, y2]) rfl ⟨?_, by first | exact rw1.put _ _ _ | exact rw1.bel⟩
      rw [HE.out.1, HE.out.2.1, HE.out.2.2.1, HE.out.2.2.2]
  · have hr : Flit.rd s = false := decide_eq_false (fun h => h7 h.1)
    obtain ⟨e1, e2, e3⟩ := Flit.rd_no hr
    rw [hr, e1, e2, e3]
    clear hr e1 e2 e3
    go_enter Try.func78, Try.ntmps78
    go_wp2
    refine bodyPost_ret (v := .tuple #[.agg #[.int .i64 0, .int .i64 0, .string ⟨#[]⟩], .bool false]) (by simp [results, Try.results78, go_sem, Act.put]) rfl ⟨rfl, ?_⟩
    exact (Below.refl _ _).alloc (Nat.le_refl _) _

set_option maxHeartbeats 4000000 in
theorem specRead_any (s : ByteArray) (w : World) (hl : s.size ≤ 1048576) : Calls Try.prog 76 #[.string s] w fun e w' => e = .returned (.tuple #[.agg #[.int .i64 (Flit.rK s), .int .i64 (Flit.rS s), .string (Flit.rB s)], .bool (Flit.rd s)]) ∧ Below w.heap.size w w' := by
  by_cases h7 : 7 ≤ s.size ∧ s.size ≤ 15
  · obtain ⟨h7, h15⟩ := h7
    have t0 := Crc.at_eq s 0 (by omega)
    have t1 := Crc.at_eq s 1 (by omega)
    have t2 := Crc.at_eq s 2 (by omega)
    have t3 := Crc.at_eq s 3 (by omega)
    have HSQ : Hid (wrap64 (wrap64 (wrap64 (wrap64 (s[1].toNat : Int) * 65536) + wrap64 (wrap64 (s[2].toNat : Int) * 256)) + wrap64 (s[3].toNat : Int)) = ((Flit.sq s : Nat) : Int)) := hide (by rw [← t1, ← t2, ← t3]; exact Flit.sq_add _ _ _ (Crc.at_lt s 1) (Crc.at_lt s 2) (Crc.at_lt s 3))
    have HKD : Hid (wrap64 (s[0].toNat : Int) = ((Flit.kd s : Nat) : Int)) := hide (by rw [← t0]; have := Crc.at_lt s 0; show wrap64 (Crc.at' s 0 : Int) = (Crc.at' s 0 : Int); unfold wrap64; omega)
    have ht := fun w => specText_any (Flit.kd s) (Flit.sq s) (Flit.bd s) w
    change ∀ w, Calls _ _ _ _ fun e w' => e = .returned (.string (Flit.tx s)) ∧ _ at ht
    unfold Flit.bd at ht
    have HR : Hid (Flit.rd s = decide (7 ≤ s.size ∧ Flit.tx s = s)) := hide rfl
    have HY := hide (fun h => Flit.rd_yes (s := s) h)
    have HN := hide (fun h => Flit.rd_no (s := s) h)
    unfold Flit.bd at HY
    generalize Flit.rd s = r at HR HY HN
    generalize Flit.rK s = rk at HY HN
    generalize Flit.rS s = rs at HY HN
    generalize Flit.rB s = rb at HY HN
    generalize Flit.tx s = T at ht HR
    generalize Flit.sq s = sq at HSQ ht HY
    generalize Flit.kd s = kd at HKD ht HY
    have g0 : (0 : Int) < (s.size : Int) := by omega
    have g00 : 0 < s.size := by omega
    have g1 : (1 : Int) < (s.size : Int) := by omega
    have g2 : (2 : Int) < (s.size : Int) := by omega
    have g3 : (3 : Int) < (s.size : Int) := by omega
    clear t0 t1 t2 t3
    have HB := hide (rw_start w kd sq (s.extract 5 (s.size - 2))).drew
    go_enter Try.func76, Try.ntmps76
    go_wp2
    go_region
    rw [HKD.out]
    rw [HSQ.out]
    clear HSQ HKD
    go_wp2_with fail
    refine (ht _).mono ?_
    rintro e w1 ⟨rfl, hb1⟩
    have rw1 := HB.out.next hb1
    clear hb1 HB
    obtain ⟨q0, q1, q2, fy, y0, y1, y2⟩ := rw1.facts
    by_cases hT : T = s
    · rw [hT]
      have HE : Hid (r = true ∧ rk = kd ∧ rs = sq ∧ rb = s.extract 5 (s.size - 2)) := hide (by
        have hr : r = true := by rw [HR.out]; exact decide_eq_true ⟨h7, hT⟩
        exact ⟨hr, HY.out hr⟩)
      go_wp2
      refine bodyPost_ret (v := .tuple #[.agg #[.int .i64 kd, .int .i64 sq, .string (s.extract 5 (s.size - 2))], .bool true]) (by simp [results, Try.results76, go_sem, Act.put, y0, y1, y2]) rfl ⟨?_, rw1.put _ _ _⟩
      rw [HE.out.1, HE.out.2.1, HE.out.2.2.1, HE.out.2.2.2]
    · have hq := list_ne hT
      have HE : Hid (r = false ∧ rk = 0 ∧ rs = 0 ∧ rb = ⟨#[]⟩) := hide (by
        have hr : r = false := by rw [HR.out]; exact decide_eq_false (fun h => hT h.2)
        exact ⟨hr, HN.out hr⟩)
      clear hT
      go_wp2
      refine bodyPost_ret (v := .tuple #[.agg #[.int .i64 0, .int .i64 0, .string ⟨#[]⟩], .bool false]) (by simp [results, Try.results76, go_sem, Act.put, y0, y1, y2]) rfl ⟨?_, by first | exact rw1.put _ _ _ | exact rw1.bel⟩
      rw [HE.out.1, HE.out.2.1, HE.out.2.2.1, HE.out.2.2.2]
  · have hr : Flit.rd s = false := by
      by_cases h : 7 ≤ s.size
      · exact Flit.rd_long s (by omega)
      · exact decide_eq_false (fun h2 => h h2.1)
    have hor : s.size < 7 ∨ 15 < s.size := by omega
    obtain ⟨e1, e2, e3⟩ := Flit.rd_no hr
    rw [hr, e1, e2, e3]
    clear hr e1 e2 e3 h7
    rcases hor with hor | hor
    all_goals go_enter Try.func76, Try.ntmps76
    all_goals go_wp2
    all_goals refine bodyPost_ret (v := .tuple #[.agg #[.int .i64 0, .int .i64 0, .string ⟨#[]⟩], .bool false]) (by simp [results, Try.results76, go_sem, Act.put]) rfl ⟨rfl, ?_⟩
    all_goals exact (Below.refl _ _).alloc (Nat.le_refl _) _

end Go.Proofs.Ytnkocikbapbbmaa
