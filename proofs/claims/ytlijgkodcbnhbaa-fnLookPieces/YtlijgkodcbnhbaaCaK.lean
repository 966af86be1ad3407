/- impl: setsOf -/
import Derived.Test.YtlijgkodcbnhbaaCaJ
import Derived.Deep.RegionHeld3
import Derived.Deep.DeepCutAuto
import Derived.Deep.MidRow
import Derived.Laws.ResultCell
namespace Go.Proofs.Ytlijgkodcbnhbaa
open Go.RowKit
set_option linter.unusedVariables false
set_option linter.unusedSimpArgs false

abbrev z18 : Array Value := #[.int .i64 0, .bool false, .int .i64 0, .bool false, .int .i64 0, .bool false, .int .i64 0, .bool false, .int .i64 0, .int .i64 0, .bool false, .int .i64 0, .bool false, .int .i64 0, .bool false, .int .i64 0, .bool false, .int .i64 0]

theorem info73 : (Try.prog.info? 45).map (·.size) = some 18 := by kernel_rfl

theorem load73 {W : World} {g : Nat} {C : Array Value} (h : W.heap[g]? = some (.cells C 45 (0, 0))) (hs : C.size = 18) : (Instr.loadAt 45 (.pointer (some ⟨g, 0, none⟩))).run Try.prog W = .ok (.agg C) W := by
  have h1 := run_loadAt_mid (P := Try.prog) W g 0 45 C.toList _ (fun j v hv => by rw [cell_of_row _ _ _ _ _ _ h, Nat.zero_add]; simpa using hv) Try.underlying45 rfl (by rw [info73]; simp [hs])
  simpa using h1
theorem store73 {W : World} {g : Nat} {C V : Array Value} (h : W.heap[g]? = some (.cells C 45 (0, 0))) (hs : C.size = 18) (hv : V.size = 18) (h1 : V.all (·.oneCell') = true) : (Instr.storeAt 45 (.pointer (some ⟨g, 0, none⟩)) (.agg V)).run Try.prog W = .ok () (W.setCells g 0 V.toList) := by
  refine run_storeAt_mid (P := Try.prog) W g 0 45 V (fun j hj => ?_) (by rw [info73, hv]) h1
  rw [cell_of_row _ _ _ _ _ _ h, Nat.zero_add]
  exact ⟨by simp; omega, frozen_of_row _ _ _ _ _ h⟩

def c18 (s t : Sm) : Array Value := #[.int .i64 s.b, .bool (s.u 0), .int .i64 (s.a 0), .bool (s.u 1), .int .i64 (s.a 1), .bool (s.u 2), .int .i64 (s.a 2), .bool (s.u 3), .int .i64 (s.a 3), .int .i64 t.b, .bool (t.u 0), .int .i64 (t.a 0), .bool (t.u 1), .int .i64 (t.a 1), .bool (t.u 2), .int .i64 (t.a 2), .bool (t.u 3), .int .i64 (t.a 3)]
theorem c18_size (s t : Sm) : (c18 s t).size = 18 := rfl
theorem c18_one (s t : Sm) : (c18 s t).all (·.oneCell') = true := by simp [c18, Value.oneCell']
def zS : Sm := ⟨0, fun _ => false, fun _ => 0⟩
def pS (s : Sm) (j : Nat) : Sm := ⟨s.b, fun i => if i < j then s.u i else false, fun i => if i < j then s.a i else 0⟩
theorem z18_is : z18 = c18 zS zS := rfl

/-- the two variables of the call: the answer's, still zero, and the sets -/
structure Sk (w W : World) (s t : Sm) : Prop where
  bel : Below w.heap.size w W
  res : W.heap[w.heap.size + 1]? = some (.cells (c18 zS zS) 45 (0, 0))
  set : W.heap[w.heap.size + 1 + 1]? = some (.cells (c18 s t) 45 (0, 0))
theorem Sk.range {w W : World} {s t : Sm} (h : Sk w W s t) : W.rangeAt (w.heap.size + 1 + 1) 0 (c18 s t).toList := fun j v hv => by rw [cell_of_row _ _ _ _ _ _ h.set, Nat.zero_add]; simpa using hv
theorem Sk.room {w W : World} {s t : Sm} (h : Sk w W s t) (n : Nat) (hn : n = 18) : W.there (w.heap.size + 1) 0 n := fun j hj => by
  rw [cell_of_row _ _ _ _ _ _ h.res, Nat.zero_add]
  exact ⟨by simp [c18]; omega, frozen_of_row _ _ _ _ _ h.res⟩
theorem Sk.store {w W : World} {s t : Sm} (h : Sk w W s t) : (storeCells ⟨w.heap.size + 1, 0, none⟩ (c18 s t).toList).run Try.prog W = .ok () (W.setCells (w.heap.size + 1) 0 (c18 s t).toList) := by
  have h2 := h.room 18 rfl
  exact run_storeCells_cells (P := Try.prog) (w.heap.size + 1) 0 (c18 s t).toList 0 W (fun j hj => by simpa using (h2 j (by simpa [c18] using hj)).1) (fun j hj => by simpa using (h2 j (by simpa [c18] using hj)).2) (fun v hv => by simp [c18] at hv; rcases hv with h | h | h | h | h | h | h | h | h | h | h | h | h | h | h | h | h | h <;> subst h <;> rfl)
theorem Sk.read {w W : World} {s t : Sm} (h : Sk w W s t) : (loadVar 45 ⟨w.heap.size + 1, 0, none⟩).run Try.prog (W.setCells (w.heap.size + 1) 0 (c18 s t).toList) = .ok (.agg (c18 s t)) (W.setCells (w.heap.size + 1) 0 (c18 s t).toList) := by
  have h1 := World.rangeAt_setCells_same W (w.heap.size + 1) 0 (c18 s t).toList (h.room _ rfl)
  have h2 := run_loadVar_mid (P := Try.prog) _ (w.heap.size + 1) 0 45 (c18 s t).toList _ h1 Try.underlying45 rfl (by rw [info73]; rfl)
  simpa using h2
theorem below_setCells {B b : Nat} {w W : World} (h : Below B w W) (hB : B ≤ b) : ∀ (vs : List Value) (o : Nat), Below B w (W.setCells b o vs) := by
  intro vs
  induction vs generalizing W with
  | nil => intro o; exact h
  | cons v vs ih => intro o; exact ih (h.setCell (p := ⟨b, o, none⟩) hB v) (o + 1)

theorem Sk.next {w W W' : World} {s t : Sm} (h : Sk w W s t) (hb : Below W.heap.size W W') : Sk w W' s t := ⟨h.bel.trans (hb.mono h.bel.size), heap_b h.res hb, heap_b h.set hb⟩
theorem Sk.alloc {w W : World} {s t : Sm} (h : Sk w W s t) (o : Obj) : Sk w (W.alloc o) s t := h.next ((Below.refl _ W).alloc (Nat.le_refl _) o)
theorem Sk.drew {w W : World} {s t : Sm} (h : Sk w W s t) : Sk w W.drew s t := ⟨h.bel.drew, h.res, h.set⟩
theorem Sk.put {w W : World} {s t s' t' : Sm} {i : Nat} {v : Value} (h : Sk w W s t) (he : (c18 s t).setIfInBounds i v = c18 s' t') : Sk w (W.setCell ⟨w.heap.size + 1 + 1, i, none⟩ v) s' t' := by
  refine ⟨h.bel.setCell (show w.heap.size ≤ w.heap.size + 1 + 1 by omega) _, ?_, ?_⟩
  · rw [heap_setCell_other _ _ _ _ (show w.heap.size + 1 ≠ w.heap.size + 1 + 1 by omega)]; exact h.res
  · rw [← he]; exact heap_setCell_same _ _ i _ _ v h.set
theorem Sk.put2 {w W : World} {s t s' t' : Sm} {i j : Nat} {u v : Value} (h : Sk w W s t) (he : ((c18 s t).setIfInBounds i u).setIfInBounds j v = c18 s' t') : Sk w ((W.setCell ⟨w.heap.size + 1 + 1, i, none⟩ u).setCell ⟨w.heap.size + 1 + 1, j, none⟩ v) s' t' := by
  refine ⟨(h.bel.setCell (show w.heap.size ≤ w.heap.size + 1 + 1 by omega) _).setCell (show w.heap.size ≤ w.heap.size + 1 + 1 by omega) _, ?_, ?_⟩
  · rw [heap_setCell_other _ _ _ _ (show w.heap.size + 1 ≠ w.heap.size + 1 + 1 by omega), heap_setCell_other _ _ _ _ (show w.heap.size + 1 ≠ w.heap.size + 1 + 1 by omega)]; exact h.res
  · rw [← he]; exact heap_setCell_same _ _ j _ _ v (heap_setCell_same _ _ i _ _ u h.set)
theorem Sk.cell {w W : World} {s t : Sm} (h : Sk w W s t) (i : Nat) : W.cell? ⟨w.heap.size + 1 + 1, i, none⟩ = (c18 s t)[i]? := cell_of_row _ _ i _ _ _ h.set
theorem Sk.fr {w W : World} {s t : Sm} (h : Sk w W s t) (i : Nat) : W.frozen? ⟨w.heap.size + 1 + 1, i, none⟩ = false := frozen_of_row _ _ i _ _ h.set
theorem pS_all (s t : Sm) : c18 (pS s 4) t = c18 s t ∧ c18 t (pS s 4) = c18 t s := ⟨rfl, rfl⟩
theorem Sk.same {w W : World} {s t s' t' : Sm} (h : Sk w W s t) (e : c18 s t = c18 s' t') : Sk w W s' t' := ⟨h.bel, h.res, e ▸ h.set⟩

namespace Ca
def okB (L : Nat → Nat) (D : Nat → Sm) : Bool := decide (L 0 = 4) && rightB (D 0) 0 && decide (L 1 = 4) && rightB (D 1) 1
end Ca

set_option maxHeartbeats 1000000 in
set_option maxRecDepth 20000 in
theorem setsOf_no (ad : Option Addr) (n cap : Nat) (w : World) (hn : n ≠ 2) : Calls Try.prog 13 #[.agg #[.slice ad n cap]] w fun e w' => ∃ s t, e = .returned (.tuple #[.agg (c18 s t), .bool false]) ∧ Below w.heap.size w w' := by
  have hd : ((n : Int) != 2) = true := by simp; omega
  obtain ⟨W, hW⟩ : ∃ W, ((w.alloc (.cells #[.slice ad n cap] 26)).alloc (.cells z18 45)).alloc (.cells z18 45) = W := ⟨_, rfl⟩
  have hk : Sk w W zS zS := by
    subst hW
    refine ⟨(((Below.refl _ _).alloc (Nat.le_refl _) _).alloc (by simp) _).alloc (by simp; omega) _, ?_, ?_⟩
    · rw [← z18_is, Below.heap_alloc _ _ _ (by simp)]
      have := heap_alloc_new (w.alloc (.cells #[.slice ad n cap] 26)) (.cells z18 45)
      simpa only [World.size_alloc] using this
    · rw [← z18_is]
      have := heap_alloc_new ((w.alloc (.cells #[.slice ad n cap] 26)).alloc (.cells z18 45)) (.cells z18 45)
      simpa only [World.size_alloc] using this
  have hc : W.cell? ⟨w.heap.size, 0, none⟩ = some (.slice ad n cap) := by
    subst hW
    have h0 : (w.alloc (.cells #[.slice ad n cap] 26)).cell? ⟨w.heap.size, 0, none⟩ = some (.slice ad n cap) := cell_of_row _ _ 0 _ _ _ (heap_alloc_new _ _)
    exact allocc (allocc h0 _) _
  have HL := hide hk.range
  have hst := hk.store
  have HR := hide hk.read
  have HB := hide hk.bel
  have hsz : (c18 zS zS).toList.length = 18 := rfl
  clear hk
  obtain ⟨C, hC⟩ : ∃ C, c18 zS zS = C := ⟨_, rfl⟩
  rw [hC] at HL HR hst hsz
  have HC := hide hC
  clear hC
  go_enter Try.func13, Try.ntmps13
  go_wp2_with ((with_reducible refine wpList_load_mid (op := { dst := some 13, op := Op.load 45 (Operand.tmp 4), type := 45, pos := _, after := _, guard := none }) ?ga 45 (Operand.tmp 4) ?gb (w.heap.size + 1 + 1) 0 ?gc C.toList _ HL.out Try.underlying45 ?gd ?ge ?gf); (case ga => rfl); (case gb => rfl); (case gc => rfl); (case gd => rfl); (case ge => rw [info73, hsz]))
  refine bodyPost_ret (v := .tuple #[.agg C, .bool false]) ?_ rfl ⟨zS, zS, by rw [HC.out], below_setCells HB.out (by omega) _ _⟩
  rw [results_cell_tmp Try.results13]
  have HR2 := HR.out
  simp [asAddr, HR2]

set_option maxHeartbeats 4000000 in
set_option maxRecDepth 20000 in
theorem setsOf_yes (ad : Option Addr) (cap : Nat) (L : Nat → Nat) (D : Nat → Sm) (w : World) (hv : Cv w (.slice ad 2 cap) 2 L D) :
    Calls Try.prog 13 #[.agg #[.slice ad 2 cap]] w fun e w' => ∃ s t, e = .returned (.tuple #[.agg (c18 s t), .bool (Ca.okB L D)]) ∧ (Ca.okB L D = true → s = D 0 ∧ t = D 1) ∧ Below w.heap.size w w' := by
  obtain ⟨ad', cap', hv0, hv⟩ := hv
  simp only [Value.slice.injEq, true_and] at hv0
  obtain ⟨rfl, rfl⟩ := hv0
  obtain ⟨b, off, rfl, hv2⟩ := hv (by omega)
  clear hv
  obtain ⟨W, hW⟩ : ∃ W, ((w.alloc (.cells #[.slice (some ⟨b, off, none⟩) 2 cap] 26)).alloc (.cells z18 45)).alloc (.cells z18 45) = W := ⟨_, rfl⟩
  have hk : Sk w W zS zS := by
    subst hW
    refine ⟨(((Below.refl _ _).alloc (Nat.le_refl _) _).alloc (by simp) _).alloc (by simp; omega) _, ?_, ?_⟩
    · rw [← z18_is, Below.heap_alloc _ _ _ (by simp)]
      have := heap_alloc_new (w.alloc (.cells #[.slice (some ⟨b, off, none⟩) 2 cap] 26)) (.cells z18 45)
      simpa only [World.size_alloc] using this
    · rw [← z18_is]
      have := heap_alloc_new ((w.alloc (.cells #[.slice (some ⟨b, off, none⟩) 2 cap] 26)).alloc (.cells z18 45)) (.cells z18 45)
      simpa only [World.size_alloc] using this
  have hc : W.cell? ⟨w.heap.size, 0, none⟩ = some (.slice (some ⟨b, off, none⟩) 2 cap) := by
    subst hW
    have h0 : (w.alloc (.cells #[.slice (some ⟨b, off, none⟩) 2 cap] 26)).cell? ⟨w.heap.size, 0, none⟩ = some (.slice (some ⟨b, off, none⟩) 2 cap) := cell_of_row _ _ 0 _ _ _ (heap_alloc_new _ _)
    exact allocc (allocc h0 _) _
  have HK0 := hide hk
  clear hk
  go_enter Try.func13, Try.ntmps13
  go_wp2
  clear hW hc
  go_loopw [17] (fun i wr => (i = .int .i64 0 ∧ Hid (Sk w wr zS zS)) ∨ (i = .int .i64 1 ∧ Hid (Sk w wr (D 0) zS) ∧ Hid (decide (L 0 = 4) = true ∧ Ca.rightB (D 0) 0 = true)) ∨ (i = .int .i64 2 ∧ Hid (Sk w wr (D 0) (D 1)) ∧ Hid (Ca.okB L D = true))) (fun i _ => 2 - (intOf i).toNat)
  case atStart => exact .inl ⟨rfl, HK0⟩
  case round =>
    clear HK0
    rcases hrel with ⟨rfl, HK⟩ | ⟨rfl, HK, HP⟩ | ⟨rfl, HK, HO⟩
    · obtain ⟨ia, ic, q0', q1', hr0⟩ := hv2 0 (by omega)
      have q0 : wr.cell? ⟨b, off, none⟩ = some (.int .i64 (D 0).b) := Below.keep HK.out.bel _ _ q0'
      have q1 : wr.cell? ⟨b, off + 1, none⟩ = some (.slice ia (L 0) ic) := Below.keep HK.out.bel _ _ q1'
      have HR0 := hide hr0
      clear q0' q1' hr0 hv2
      by_cases hL : L 0 = 4
      · have HL4 := hide hL
        rw [hL] at q1
        obtain ⟨W1, hW1⟩ : ∃ W1, wr.alloc (.cells #[.int .i64 (D 0).b, .slice ia 4 ic] 58) = W1 := ⟨_, rfl⟩
        have hk1 : Sk w W1 zS zS := by rw [← hW1]; exact HK.out.alloc _
        have e0 : W1.cell? ⟨wr.heap.size, 0, none⟩ = some (.int .i64 (D 0).b) := by rw [← hW1]; exact box2.1
        have e1 : W1.cell? ⟨wr.heap.size, 1, none⟩ = some (.slice ia 4 ic) := by rw [← hW1]; exact box2.2
        have hne : ¬ wr.heap.size = w.heap.size + 1 + 1 := by have := lt_of_block HK.out.set; omega
        obtain ⟨W2, hW2⟩ : ∃ W2, W1.setCell ⟨w.heap.size + 1 + 1, 0, none⟩ (.int .i64 (D 0).b) = W2 := ⟨_, rfl⟩
        have hk2 : Sk w W2 (pS (D 0) 0) zS := by rw [← hW2]; exact hk1.put rfl
        have e2 : W2.cell? ⟨wr.heap.size, 1, none⟩ = some (.slice ia 4 ic) := by rw [← hW2, other_set (fun h => hne h.symm)]; exact e1
        have z0 := hk1.cell 0
        have z1 := hk1.fr 0
        simp only [c18, zS] at z0
        have HK2 := hide hk2
        have HKr := hide HK.out
        clear hk1 hk2 HK hL
        go_wp2
        clear hW1 hW2 e0 e1 e2 z0 z1 q0 q1
        go_loopw [35] (fun i wr2 => ∃ j : Nat, j ≤ 4 ∧ i = .int .i64 j ∧ Hid (Sk w wr2 (pS (D 0) j) zS)) (fun i _ => 4 - (intOf i).toNat)
        case atStart => exact ⟨0, by omega, rfl, HK2⟩
        case round =>
          clear HK2
          obtain ⟨j, hj, rfl, HJ⟩ := hrel
          obtain ⟨ia', ic', hvx, hw⟩ := HR0.out
          simp only [Value.slice.injEq, true_and] at hvx
          obtain ⟨rfl, rfl⟩ := hvx
          rw [HL4.out] at hw
          obtain ⟨p, po, rfl, hw2⟩ := hw (by omega)
          clear hw
          have hj5 : j = 0 ∨ j = 1 ∨ j = 2 ∨ j = 3 ∨ j = 4 := by omega
          rcases hj5 with rfl | rfl | rfl | rfl | rfl
          · have q0 : wr.cell? ⟨p, po, none⟩ = some (.bool ((D 0).u 0)) := Below.keep HJ.out.bel _ _ (hw2 0 (by omega)).1
            have q1 : wr.cell? ⟨p, po + 1, none⟩ = some (.int .i64 ((D 0).a 0)) := Below.keep HJ.out.bel _ _ (hw2 0 (by omega)).2
            obtain ⟨W1, hW1⟩ : ∃ W1, wr.alloc (.cells #[.bool ((D 0).u 0), .int .i64 ((D 0).a 0)] 40) = W1 := ⟨_, rfl⟩
            have hk1 : Sk w W1 (pS (D 0) 0) zS := by rw [← hW1]; exact HJ.out.alloc _
            have e0 : W1.cell? ⟨wr.heap.size, 0, none⟩ = some (.bool ((D 0).u 0)) := by rw [← hW1]; exact box2.1
            have e1 : W1.cell? ⟨wr.heap.size, 1, none⟩ = some (.int .i64 ((D 0).a 0)) := by rw [← hW1]; exact box2.2
            have hne : ¬ wr.heap.size = w.heap.size + 1 + 1 := by have := lt_of_block HJ.out.set; omega
            have z0 : ∃ x, W1.cell? ⟨w.heap.size + 1 + 1, 1, none⟩ = some x := ⟨_, hk1.cell 1⟩
            have z1 : ∃ x, W1.cell? ⟨w.heap.size + 1 + 1, 2, none⟩ = some x := ⟨_, hk1.cell 2⟩
            obtain ⟨x0, z0⟩ := z0
            obtain ⟨x1, z1⟩ := z1
            have y0 := hk1.fr
            have HK1 : Hid (Sk w ((W1.drew.setCell ⟨w.heap.size + 1 + 1, 1, none⟩ (.bool ((D 0).u 0))).setCell ⟨w.heap.size + 1 + 1, 2, none⟩ (.int .i64 ((D 0).a 0))) (pS (D 0) 1) zS) := hide (hk1.drew.put2 rfl)
            clear hk1 HJ hw2 HR0 HL4
            go_wp2
            go_region
            all_goals go_wp2
            all_goals exact ⟨⟨0 + 1, by omega, rfl, HK1⟩, by simp [intOf]⟩
          · have q0 : wr.cell? ⟨p, po + 2, none⟩ = some (.bool ((D 0).u 1)) := Below.keep HJ.out.bel _ _ (hw2 1 (by omega)).1
            have q1 : wr.cell? ⟨p, po + 2 + 1, none⟩ = some (.int .i64 ((D 0).a 1)) := Below.keep HJ.out.bel _ _ (hw2 1 (by omega)).2
            obtain ⟨W1, hW1⟩ : ∃ W1, wr.alloc (.cells #[.bool ((D 0).u 1), .int .i64 ((D 0).a 1)] 40) = W1 := ⟨_, rfl⟩
            have hk1 : Sk w W1 (pS (D 0) 1) zS := by rw [← hW1]; exact HJ.out.alloc _
            have e0 : W1.cell? ⟨wr.heap.size, 0, none⟩ = some (.bool ((D 0).u 1)) := by rw [← hW1]; exact box2.1
            have e1 : W1.cell? ⟨wr.heap.size, 1, none⟩ = some (.int .i64 ((D 0).a 1)) := by rw [← hW1]; exact box2.2
            have hne : ¬ wr.heap.size = w.heap.size + 1 + 1 := by have := lt_of_block HJ.out.set; omega
            have z0 : ∃ x, W1.cell? ⟨w.heap.size + 1 + 1, 3, none⟩ = some x := ⟨_, hk1.cell 3⟩
            have z1 : ∃ x, W1.cell? ⟨w.heap.size + 1 + 1, 4, none⟩ = some x := ⟨_, hk1.cell 4⟩
            obtain ⟨x0, z0⟩ := z0
            obtain ⟨x1, z1⟩ := z1
            have y0 := hk1.fr
            have HK1 : Hid (Sk w ((W1.drew.setCell ⟨w.heap.size + 1 + 1, 3, none⟩ (.bool ((D 0).u 1))).setCell ⟨w.heap.size + 1 + 1, 4, none⟩ (.int .i64 ((D 0).a 1))) (pS (D 0) 2) zS) := hide (hk1.drew.put2 rfl)
            clear hk1 HJ hw2 HR0 HL4
            go_wp2
            go_region
            all_goals go_wp2
            all_goals exact ⟨⟨1 + 1, by omega, rfl, HK1⟩, by simp [intOf]⟩
          · have q0 : wr.cell? ⟨p, po + 4, none⟩ = some (.bool ((D 0).u 2)) := Below.keep HJ.out.bel _ _ (hw2 2 (by omega)).1
            have q1 : wr.cell? ⟨p, po + 4 + 1, none⟩ = some (.int .i64 ((D 0).a 2)) := Below.keep HJ.out.bel _ _ (hw2 2 (by omega)).2
            obtain ⟨W1, hW1⟩ : ∃ W1, wr.alloc (.cells #[.bool ((D 0).u 2), .int .i64 ((D 0).a 2)] 40) = W1 := ⟨_, rfl⟩
            have hk1 : Sk w W1 (pS (D 0) 2) zS := by rw [← hW1]; exact HJ.out.alloc _
            have e0 : W1.cell? ⟨wr.heap.size, 0, none⟩ = some (.bool ((D 0).u 2)) := by rw [← hW1]; exact box2.1
            have e1 : W1.cell? ⟨wr.heap.size, 1, none⟩ = some (.int .i64 ((D 0).a 2)) := by rw [← hW1]; exact box2.2
            have hne : ¬ wr.heap.size = w.heap.size + 1 + 1 := by have := lt_of_block HJ.out.set; omega
            have z0 : ∃ x, W1.cell? ⟨w.heap.size + 1 + 1, 5, none⟩ = some x := ⟨_, hk1.cell 5⟩
            have z1 : ∃ x, W1.cell? ⟨w.heap.size + 1 + 1, 6, none⟩ = some x := ⟨_, hk1.cell 6⟩
            obtain ⟨x0, z0⟩ := z0
            obtain ⟨x1, z1⟩ := z1
            have y0 := hk1.fr
            have HK1 : Hid (Sk w ((W1.drew.setCell ⟨w.heap.size + 1 + 1, 5, none⟩ (.bool ((D 0).u 2))).setCell ⟨w.heap.size + 1 + 1, 6, none⟩ (.int .i64 ((D 0).a 2))) (pS (D 0) 3) zS) := hide (hk1.drew.put2 rfl)
            clear hk1 HJ hw2 HR0 HL4
            go_wp2
            go_region
            all_goals go_wp2
            all_goals exact ⟨⟨2 + 1, by omega, rfl, HK1⟩, by simp [intOf]⟩
          · have q0 : wr.cell? ⟨p, po + 6, none⟩ = some (.bool ((D 0).u 3)) := Below.keep HJ.out.bel _ _ (hw2 3 (by omega)).1
            have q1 : wr.cell? ⟨p, po + 6 + 1, none⟩ = some (.int .i64 ((D 0).a 3)) := Below.keep HJ.out.bel _ _ (hw2 3 (by omega)).2
            obtain ⟨W1, hW1⟩ : ∃ W1, wr.alloc (.cells #[.bool ((D 0).u 3), .int .i64 ((D 0).a 3)] 40) = W1 := ⟨_, rfl⟩
            have hk1 : Sk w W1 (pS (D 0) 3) zS := by rw [← hW1]; exact HJ.out.alloc _
            have e0 : W1.cell? ⟨wr.heap.size, 0, none⟩ = some (.bool ((D 0).u 3)) := by rw [← hW1]; exact box2.1
            have e1 : W1.cell? ⟨wr.heap.size, 1, none⟩ = some (.int .i64 ((D 0).a 3)) := by rw [← hW1]; exact box2.2
            have hne : ¬ wr.heap.size = w.heap.size + 1 + 1 := by have := lt_of_block HJ.out.set; omega
            have z0 : ∃ x, W1.cell? ⟨w.heap.size + 1 + 1, 7, none⟩ = some x := ⟨_, hk1.cell 7⟩
            have z1 : ∃ x, W1.cell? ⟨w.heap.size + 1 + 1, 8, none⟩ = some x := ⟨_, hk1.cell 8⟩
            obtain ⟨x0, z0⟩ := z0
            obtain ⟨x1, z1⟩ := z1
            have y0 := hk1.fr
            have HK1 : Hid (Sk w ((W1.drew.setCell ⟨w.heap.size + 1 + 1, 7, none⟩ (.bool ((D 0).u 3))).setCell ⟨w.heap.size + 1 + 1, 8, none⟩ (.int .i64 ((D 0).a 3))) (pS (D 0) 4) zS) := hide (hk1.drew.put2 rfl)
            clear hk1 HJ hw2 HR0 HL4
            go_wp2
            go_region
            all_goals go_wp2
            all_goals exact ⟨⟨3 + 1, by omega, rfl, HK1⟩, by simp [intOf]⟩
          · have HJ4 : Hid (Sk w wr (D 0) zS) := hide (HJ.out.same rfl)
            have z0 : wr.cell? ⟨w.heap.size + 1 + 1, 0, none⟩ = some (.int .i64 (D 0).b) := HJ4.out.cell 0
            have z1 : wr.cell? ⟨w.heap.size + 1 + 1, 1, none⟩ = some (.bool ((D 0).u 0)) := HJ4.out.cell 1
            have z2 : wr.cell? ⟨w.heap.size + 1 + 1, 2, none⟩ = some (.int .i64 ((D 0).a 0)) := HJ4.out.cell 2
            have z3 : wr.cell? ⟨w.heap.size + 1 + 1, 3, none⟩ = some (.bool ((D 0).u 1)) := HJ4.out.cell 3
            have z4 : wr.cell? ⟨w.heap.size + 1 + 1, 4, none⟩ = some (.int .i64 ((D 0).a 1)) := HJ4.out.cell 4
            have z5 : wr.cell? ⟨w.heap.size + 1 + 1, 5, none⟩ = some (.bool ((D 0).u 2)) := HJ4.out.cell 5
            have z6 : wr.cell? ⟨w.heap.size + 1 + 1, 6, none⟩ = some (.int .i64 ((D 0).a 2)) := HJ4.out.cell 6
            have z7 : wr.cell? ⟨w.heap.size + 1 + 1, 7, none⟩ = some (.bool ((D 0).u 3)) := HJ4.out.cell 7
            have z8 : wr.cell? ⟨w.heap.size + 1 + 1, 8, none⟩ = some (.int .i64 ((D 0).a 3)) := HJ4.out.cell 8
            have HI := hide (fun w => isRight_any (D 0) 0 w (by omega))
            clear HJ hw2 HR0
            have hL := HL4.out
            cases hr : Ca.rightB (D 0) 0
            · have HO : Hid (Ca.okB L D = false) := hide (by rw [Ca.okB, decide_eq_true hL, hr]; rfl)
              rw [hr] at HI
              clear hr hL HL4
              go_wp2_with fail
              refine (HI.out _).mono ?_
              rintro e w5 ⟨rfl, hb5⟩
              have hk5 := HJ4.out.next hb5
              clear hb5 HJ4
              have HL := hide hk5.range
              have hst := hk5.store
              have HR := hide hk5.read
              have HB := hide hk5.bel
              have hsz : (c18 (D 0) zS).toList.length = 18 := rfl
              clear hk5
              obtain ⟨C, hC⟩ : ∃ C, c18 (D 0) zS = C := ⟨_, rfl⟩
              rw [hC] at HL HR hst hsz
              have HC := hide hC
              clear hC
              go_wp2_with ((with_reducible refine wpList_load_mid (op := { dst := some 53, op := Op.load 45 (Operand.tmp 4), type := 45, pos := _, after := _, guard := none }) ?_ 45 (Operand.tmp 4) ?_ (w.heap.size + 1 + 1) 0 ?_ C.toList _ HL.out Try.underlying45 ?_ ?_ ?_); (· rfl); (· rfl); (· rfl); (· rfl); (· rw [info73, hsz]))
              refine bodyPost_ret (v := .tuple #[.agg C, .bool false]) ?_ rfl ⟨(D 0), zS, by rw [HO.out, HC.out], (fun h => absurd h (by rw [HO.out]; decide)), below_setCells HB.out (by omega) _ _⟩
              rw [results_cell_tmp Try.results13]
              have HR2 := HR.out
              simp [asAddr, HR2]
            · have HQ := hide (And.intro (decide_eq_true hL) hr)
              rw [hr] at HI
              clear hr hL HL4
              go_wp2_with fail
              refine (HI.out _).mono ?_
              rintro e w5 ⟨rfl, hb5⟩
              have HK5 := hide (HJ4.out.next hb5)
              clear hb5 HJ4
              go_wp2
              exact ⟨.inr (.inl ⟨rfl, HK5, HQ⟩), by simp [intOf]⟩
      · have HO : Hid (Ca.okB L D = false) := hide (by rw [Ca.okB, decide_eq_false hL]; rfl)
        generalize L 0 = l at q1 hL
        have hd : ((l : Int) != 4) = true := by simp; omega
        obtain ⟨W1, hW1⟩ : ∃ W1, wr.alloc (.cells #[.int .i64 (D 0).b, .slice ia l ic] 58) = W1 := ⟨_, rfl⟩
        have hk1 : Sk w W1 zS zS := by rw [← hW1]; exact HK.out.alloc _
        have e0 : W1.cell? ⟨wr.heap.size, 0, none⟩ = some (.int .i64 (D 0).b) := by rw [← hW1]; exact box2.1
        have e1 : W1.cell? ⟨wr.heap.size, 1, none⟩ = some (.slice ia l ic) := by rw [← hW1]; exact box2.2
        clear HK hL
        have HL := hide hk1.range
        have hst := hk1.store
        have HR := hide hk1.read
        have HB := hide hk1.bel
        have hsz : (c18 zS zS).toList.length = 18 := rfl
        clear hk1
        obtain ⟨C, hC⟩ : ∃ C, c18 zS zS = C := ⟨_, rfl⟩
        rw [hC] at HL HR hst hsz
        have HC := hide hC
        clear hC
        go_wp2_with ((with_reducible refine wpList_load_mid (op := { dst := some 26, op := Op.load 45 (Operand.tmp 4), type := 45, pos := _, after := _, guard := none }) ?_ 45 (Operand.tmp 4) ?_ (w.heap.size + 1 + 1) 0 ?_ C.toList _ HL.out Try.underlying45 ?_ ?_ ?_); (· rfl); (· rfl); (· rfl); (· rfl); (· rw [info73, hsz]))
        refine bodyPost_ret (v := .tuple #[.agg C, .bool false]) ?_ rfl ⟨zS, zS, by rw [HO.out, HC.out], (fun h => absurd h (by rw [HO.out]; decide)), below_setCells HB.out (by omega) _ _⟩
        rw [results_cell_tmp Try.results13]
        have HR2 := HR.out
        simp [asAddr, HR2]
    · obtain ⟨ia, ic, q0', q1', hr0⟩ := hv2 1 (by omega)
      have q0 : wr.cell? ⟨b, off + 2, none⟩ = some (.int .i64 (D 1).b) := Below.keep HK.out.bel _ _ q0'
      have q1 : wr.cell? ⟨b, off + 2 + 1, none⟩ = some (.slice ia (L 1) ic) := Below.keep HK.out.bel _ _ q1'
      have HR0 := hide hr0
      clear q0' q1' hr0 hv2
      by_cases hL : L 1 = 4
      · have HL4 := hide hL
        rw [hL] at q1
        obtain ⟨W1, hW1⟩ : ∃ W1, wr.alloc (.cells #[.int .i64 (D 1).b, .slice ia 4 ic] 58) = W1 := ⟨_, rfl⟩
        have hk1 : Sk w W1 (D 0) zS := by rw [← hW1]; exact HK.out.alloc _
        have e0 : W1.cell? ⟨wr.heap.size, 0, none⟩ = some (.int .i64 (D 1).b) := by rw [← hW1]; exact box2.1
        have e1 : W1.cell? ⟨wr.heap.size, 1, none⟩ = some (.slice ia 4 ic) := by rw [← hW1]; exact box2.2
        have hne : ¬ wr.heap.size = w.heap.size + 1 + 1 := by have := lt_of_block HK.out.set; omega
        obtain ⟨W2, hW2⟩ : ∃ W2, W1.setCell ⟨w.heap.size + 1 + 1, 9, none⟩ (.int .i64 (D 1).b) = W2 := ⟨_, rfl⟩
        have hk2 : Sk w W2 (D 0) (pS (D 1) 0) := by rw [← hW2]; exact hk1.put rfl
        have e2 : W2.cell? ⟨wr.heap.size, 1, none⟩ = some (.slice ia 4 ic) := by rw [← hW2, other_set (fun h => hne h.symm)]; exact e1
        have z0 := hk1.cell 9
        have z1 := hk1.fr 9
        simp only [c18, zS] at z0
        have HK2 := hide hk2
        have HKr := hide HK.out
        clear hk1 hk2 HK hL
        go_wp2
        clear hW1 hW2 e0 e1 e2 z0 z1 q0 q1
        go_loopw [35] (fun i wr2 => ∃ j : Nat, j ≤ 4 ∧ i = .int .i64 j ∧ Hid (Sk w wr2 (D 0) (pS (D 1) j))) (fun i _ => 4 - (intOf i).toNat)
        case atStart => exact ⟨0, by omega, rfl, HK2⟩
        case round =>
          clear HK2
          obtain ⟨j, hj, rfl, HJ⟩ := hrel
          obtain ⟨ia', ic', hvx, hw⟩ := HR0.out
          simp only [Value.slice.injEq, true_and] at hvx
          obtain ⟨rfl, rfl⟩ := hvx
          rw [HL4.out] at hw
          obtain ⟨p, po, rfl, hw2⟩ := hw (by omega)
          clear hw
          have hj5 : j = 0 ∨ j = 1 ∨ j = 2 ∨ j = 3 ∨ j = 4 := by omega
          rcases hj5 with rfl | rfl | rfl | rfl | rfl
          · have q0 : wr.cell? ⟨p, po, none⟩ = some (.bool ((D 1).u 0)) := Below.keep HJ.out.bel _ _ (hw2 0 (by omega)).1
            have q1 : wr.cell? ⟨p, po + 1, none⟩ = some (.int .i64 ((D 1).a 0)) := Below.keep HJ.out.bel _ _ (hw2 0 (by omega)).2
            obtain ⟨W1, hW1⟩ : ∃ W1, wr.alloc (.cells #[.bool ((D 1).u 0), .int .i64 ((D 1).a 0)] 40) = W1 := ⟨_, rfl⟩
            have hk1 : Sk w W1 (D 0) (pS (D 1) 0) := by rw [← hW1]; exact HJ.out.alloc _
            have e0 : W1.cell? ⟨wr.heap.size, 0, none⟩ = some (.bool ((D 1).u 0)) := by rw [← hW1]; exact box2.1
            have e1 : W1.cell? ⟨wr.heap.size, 1, none⟩ = some (.int .i64 ((D 1).a 0)) := by rw [← hW1]; exact box2.2
            have hne : ¬ wr.heap.size = w.heap.size + 1 + 1 := by have := lt_of_block HJ.out.set; omega
            have z0 : ∃ x, W1.cell? ⟨w.heap.size + 1 + 1, 10, none⟩ = some x := ⟨_, hk1.cell 10⟩
            have z1 : ∃ x, W1.cell? ⟨w.heap.size + 1 + 1, 11, none⟩ = some x := ⟨_, hk1.cell 11⟩
            obtain ⟨x0, z0⟩ := z0
            obtain ⟨x1, z1⟩ := z1
            have y0 := hk1.fr
            have HK1 : Hid (Sk w ((W1.drew.setCell ⟨w.heap.size + 1 + 1, 10, none⟩ (.bool ((D 1).u 0))).setCell ⟨w.heap.size + 1 + 1, 11, none⟩ (.int .i64 ((D 1).a 0))) (D 0) (pS (D 1) 1)) := hide (hk1.drew.put2 rfl)
            clear hk1 HJ hw2 HR0 HL4
            go_wp2
            go_region
            all_goals go_wp2
            all_goals exact ⟨⟨0 + 1, by omega, rfl, HK1⟩, by simp [intOf]⟩
          · have q0 : wr.cell? ⟨p, po + 2, none⟩ = some (.bool ((D 1).u 1)) := Below.keep HJ.out.bel _ _ (hw2 1 (by omega)).1
            have q1 : wr.cell? ⟨p, po + 2 + 1, none⟩ = some (.int .i64 ((D 1).a 1)) := Below.keep HJ.out.bel _ _ (hw2 1 (by omega)).2
            obtain ⟨W1, hW1⟩ : ∃ W1, wr.alloc (.cells #[.bool ((D 1).u 1), .int .i64 ((D 1).a 1)] 40) = W1 := ⟨_, rfl⟩
            have hk1 : Sk w W1 (D 0) (pS (D 1) 1) := by rw [← hW1]; exact HJ.out.alloc _
            have e0 : W1.cell? ⟨wr.heap.size, 0, none⟩ = some (.bool ((D 1).u 1)) := by rw [← hW1]; exact box2.1
            have e1 : W1.cell? ⟨wr.heap.size, 1, none⟩ = some (.int .i64 ((D 1).a 1)) := by rw [← hW1]; exact box2.2
            have hne : ¬ wr.heap.size = w.heap.size + 1 + 1 := by have := lt_of_block HJ.out.set; omega
            have z0 : ∃ x, W1.cell? ⟨w.heap.size + 1 + 1, 12, none⟩ = some x := ⟨_, hk1.cell 12⟩
            have z1 : ∃ x, W1.cell? ⟨w.heap.size + 1 + 1, 13, none⟩ = some x := ⟨_, hk1.cell 13⟩
            obtain ⟨x0, z0⟩ := z0
            obtain ⟨x1, z1⟩ := z1
            have y0 := hk1.fr
            have HK1 : Hid (Sk w ((W1.drew.setCell ⟨w.heap.size + 1 + 1, 12, none⟩ (.bool ((D 1).u 1))).setCell ⟨w.heap.size + 1 + 1, 13, none⟩ (.int .i64 ((D 1).a 1))) (D 0) (pS (D 1) 2)) := hide (hk1.drew.put2 rfl)
            clear hk1 HJ hw2 HR0 HL4
            go_wp2
            go_region
            all_goals go_wp2
            all_goals exact ⟨⟨1 + 1, by omega, rfl, HK1⟩, by simp [intOf]⟩
          · have q0 : wr.cell? ⟨p, po + 4, none⟩ = some (.bool ((D 1).u 2)) := Below.keep HJ.out.bel _ _ (hw2 2 (by omega)).1
            have q1 : wr.cell? ⟨p, po + 4 + 1, none⟩ = some (.int .i64 ((D 1).a 2)) := Below.keep HJ.out.bel _ _ (hw2 2 (by omega)).2
            obtain ⟨W1, hW1⟩ : ∃ W1, wr.alloc (.cells #[.bool ((D 1).u 2), .int .i64 ((D 1).a 2)] 40) = W1 := ⟨_, rfl⟩
            have hk1 : Sk w W1 (D 0) (pS (D 1) 2) := by rw [← hW1]; exact HJ.out.alloc _
            have e0 : W1.cell? ⟨wr.heap.size, 0, none⟩ = some (.bool ((D 1).u 2)) := by rw [← hW1]; exact box2.1
            have e1 : W1.cell? ⟨wr.heap.size, 1, none⟩ = some (.int .i64 ((D 1).a 2)) := by rw [← hW1]; exact box2.2
            have hne : ¬ wr.heap.size = w.heap.size + 1 + 1 := by have := lt_of_block HJ.out.set; omega
            have z0 : ∃ x, W1.cell? ⟨w.heap.size + 1 + 1, 14, none⟩ = some x := ⟨_, hk1.cell 14⟩
            have z1 : ∃ x, W1.cell? ⟨w.heap.size + 1 + 1, 15, none⟩ = some x := ⟨_, hk1.cell 15⟩
            obtain ⟨x0, z0⟩ := z0
            obtain ⟨x1, z1⟩ := z1
            have y0 := hk1.fr
            have HK1 : Hid (Sk w ((W1.drew.setCell ⟨w.heap.size + 1 + 1, 14, none⟩ (.bool ((D 1).u 2))).setCell ⟨w.heap.size + 1 + 1, 15, none⟩ (.int .i64 ((D 1).a 2))) (D 0) (pS (D 1) 3)) := hide (hk1.drew.put2 rfl)
            clear hk1 HJ hw2 HR0 HL4
            go_wp2
            go_region
            all_goals go_wp2
            all_goals exact ⟨⟨2 + 1, by omega, rfl, HK1⟩, by simp [intOf]⟩
          · have q0 : wr.cell? ⟨p, po + 6, none⟩ = some (.bool ((D 1).u 3)) := Below.keep HJ.out.bel _ _ (hw2 3 (by omega)).1
            have q1 : wr.cell? ⟨p, po + 6 + 1, none⟩ = some (.int .i64 ((D 1).a 3)) := Below.keep HJ.out.bel _ _ (hw2 3 (by omega)).2
            obtain ⟨W1, hW1⟩ : ∃ W1, wr.alloc (.cells #[.bool ((D 1).u 3), .int .i64 ((D 1).a 3)] 40) = W1 := ⟨_, rfl⟩
            have hk1 : Sk w W1 (D 0) (pS (D 1) 3) := by rw [← hW1]; exact HJ.out.alloc _
            have e0 : W1.cell? ⟨wr.heap.size, 0, none⟩ = some (.bool ((D 1).u 3)) := by rw [← hW1]; exact box2.1
            have e1 : W1.cell? ⟨wr.heap.size, 1, none⟩ = some (.int .i64 ((D 1).a 3)) := by rw [← hW1]; exact box2.2
            have hne : ¬ wr.heap.size = w.heap.size + 1 + 1 := by have := lt_of_block HJ.out.set; omega
            have z0 : ∃ x, W1.cell? ⟨w.heap.size + 1 + 1, 16, none⟩ = some x := ⟨_, hk1.cell 16⟩
            have z1 : ∃ x, W1.cell? ⟨w.heap.size + 1 + 1, 17, none⟩ = some x := ⟨_, hk1.cell 17⟩
            obtain ⟨x0, z0⟩ := z0
            obtain ⟨x1, z1⟩ := z1
            have y0 := hk1.fr
            have HK1 : Hid (Sk w ((W1.drew.setCell ⟨w.heap.size + 1 + 1, 16, none⟩ (.bool ((D 1).u 3))).setCell ⟨w.heap.size + 1 + 1, 17, none⟩ (.int .i64 ((D 1).a 3))) (D 0) (pS (D 1) 4)) := hide (hk1.drew.put2 rfl)
            clear hk1 HJ hw2 HR0 HL4
            go_wp2
            go_region
            all_goals go_wp2
            all_goals exact ⟨⟨3 + 1, by omega, rfl, HK1⟩, by simp [intOf]⟩
          · have HJ4 : Hid (Sk w wr (D 0) (D 1)) := hide (HJ.out.same rfl)
            have z0 : wr.cell? ⟨w.heap.size + 1 + 1, 9, none⟩ = some (.int .i64 (D 1).b) := HJ4.out.cell 9
            have z1 : wr.cell? ⟨w.heap.size + 1 + 1, 10, none⟩ = some (.bool ((D 1).u 0)) := HJ4.out.cell 10
            have z2 : wr.cell? ⟨w.heap.size + 1 + 1, 11, none⟩ = some (.int .i64 ((D 1).a 0)) := HJ4.out.cell 11
            have z3 : wr.cell? ⟨w.heap.size + 1 + 1, 12, none⟩ = some (.bool ((D 1).u 1)) := HJ4.out.cell 12
            have z4 : wr.cell? ⟨w.heap.size + 1 + 1, 13, none⟩ = some (.int .i64 ((D 1).a 1)) := HJ4.out.cell 13
            have z5 : wr.cell? ⟨w.heap.size + 1 + 1, 14, none⟩ = some (.bool ((D 1).u 2)) := HJ4.out.cell 14
            have z6 : wr.cell? ⟨w.heap.size + 1 + 1, 15, none⟩ = some (.int .i64 ((D 1).a 2)) := HJ4.out.cell 15
            have z7 : wr.cell? ⟨w.heap.size + 1 + 1, 16, none⟩ = some (.bool ((D 1).u 3)) := HJ4.out.cell 16
            have z8 : wr.cell? ⟨w.heap.size + 1 + 1, 17, none⟩ = some (.int .i64 ((D 1).a 3)) := HJ4.out.cell 17
            have HI := hide (fun w => isRight_any (D 1) 1 w (by omega))
            clear HJ hw2 HR0
            have hL := HL4.out
            cases hr : Ca.rightB (D 1) 1
            · have HO : Hid (Ca.okB L D = false) := hide (by rw [Ca.okB, HP.out.1, HP.out.2, decide_eq_true hL, hr]; rfl)
              rw [hr] at HI
              clear hr hL HL4
              go_wp2_with fail
              refine (HI.out _).mono ?_
              rintro e w5 ⟨rfl, hb5⟩
              have hk5 := HJ4.out.next hb5
              clear hb5 HJ4
              have HL := hide hk5.range
              have hst := hk5.store
              have HR := hide hk5.read
              have HB := hide hk5.bel
              have hsz : (c18 (D 0) (D 1)).toList.length = 18 := rfl
              clear hk5
              obtain ⟨C, hC⟩ : ∃ C, c18 (D 0) (D 1) = C := ⟨_, rfl⟩
              rw [hC] at HL HR hst hsz
              have HC := hide hC
              clear hC
              go_wp2_with ((with_reducible refine wpList_load_mid (op := { dst := some 53, op := Op.load 45 (Operand.tmp 4), type := 45, pos := _, after := _, guard := none }) ?_ 45 (Operand.tmp 4) ?_ (w.heap.size + 1 + 1) 0 ?_ C.toList _ HL.out Try.underlying45 ?_ ?_ ?_); (· rfl); (· rfl); (· rfl); (· rfl); (· rw [info73, hsz]))
              refine bodyPost_ret (v := .tuple #[.agg C, .bool false]) ?_ rfl ⟨(D 0), (D 1), by rw [HO.out, HC.out], (fun h => absurd h (by rw [HO.out]; decide)), below_setCells HB.out (by omega) _ _⟩
              rw [results_cell_tmp Try.results13]
              have HR2 := HR.out
              simp [asAddr, HR2]
            · have HQ := hide (And.intro (decide_eq_true hL) hr)
              rw [hr] at HI
              clear hr hL HL4
              go_wp2_with fail
              refine (HI.out _).mono ?_
              rintro e w5 ⟨rfl, hb5⟩
              have HK5 := hide (HJ4.out.next hb5)
              clear hb5 HJ4
              go_wp2
              exact ⟨.inr (.inr ⟨rfl, HK5, hide (by rw [Ca.okB, HP.out.1, HP.out.2, HQ.out.1, HQ.out.2]; rfl)⟩), by simp [intOf]⟩
      · have HO : Hid (Ca.okB L D = false) := hide (by rw [Ca.okB, decide_eq_false hL]; rw [HP.out.1, HP.out.2]; rfl)
        generalize L 1 = l at q1 hL
        have hd : ((l : Int) != 4) = true := by simp; omega
        obtain ⟨W1, hW1⟩ : ∃ W1, wr.alloc (.cells #[.int .i64 (D 1).b, .slice ia l ic] 58) = W1 := ⟨_, rfl⟩
        have hk1 : Sk w W1 (D 0) zS := by rw [← hW1]; exact HK.out.alloc _
        have e0 : W1.cell? ⟨wr.heap.size, 0, none⟩ = some (.int .i64 (D 1).b) := by rw [← hW1]; exact box2.1
        have e1 : W1.cell? ⟨wr.heap.size, 1, none⟩ = some (.slice ia l ic) := by rw [← hW1]; exact box2.2
        clear HK hL
        have HL := hide hk1.range
        have hst := hk1.store
        have HR := hide hk1.read
        have HB := hide hk1.bel
        have hsz : (c18 (D 0) zS).toList.length = 18 := rfl
        clear hk1
        obtain ⟨C, hC⟩ : ∃ C, c18 (D 0) zS = C := ⟨_, rfl⟩
        rw [hC] at HL HR hst hsz
        have HC := hide hC
        clear hC
        go_wp2_with ((with_reducible refine wpList_load_mid (op := { dst := some 26, op := Op.load 45 (Operand.tmp 4), type := 45, pos := _, after := _, guard := none }) ?_ 45 (Operand.tmp 4) ?_ (w.heap.size + 1 + 1) 0 ?_ C.toList _ HL.out Try.underlying45 ?_ ?_ ?_); (· rfl); (· rfl); (· rfl); (· rfl); (· rw [info73, hsz]))
        refine bodyPost_ret (v := .tuple #[.agg C, .bool false]) ?_ rfl ⟨(D 0), zS, by rw [HO.out, HC.out], (fun h => absurd h (by rw [HO.out]; decide)), below_setCells HB.out (by omega) _ _⟩
        rw [results_cell_tmp Try.results13]
        have HR2 := HR.out
        simp [asAddr, HR2]
    · have hk5 := HK.out
      clear HK hv2
      have HL := hide hk5.range
      have hst := hk5.store
      have HR := hide hk5.read
      have HB := hide hk5.bel
      have hsz : (c18 (D 0) (D 1)).toList.length = 18 := rfl
      clear hk5
      obtain ⟨C, hC⟩ : ∃ C, c18 (D 0) (D 1) = C := ⟨_, rfl⟩
      rw [hC] at HL HR hst hsz
      have HC := hide hC
      clear hC
      go_wp2_with ((with_reducible refine wpList_load_mid (op := { dst := some 55, op := Op.load 45 (Operand.tmp 4), type := 45, pos := _, after := _, guard := none }) ?_ 45 (Operand.tmp 4) ?_ (w.heap.size + 1 + 1) 0 ?_ C.toList _ HL.out Try.underlying45 ?_ ?_ ?_); (· rfl); (· rfl); (· rfl); (· rfl); (· rw [info73, hsz]))
      refine bodyPost_ret (v := .tuple #[.agg C, .bool true]) ?_ rfl ⟨(D 0), (D 1), by rw [HO.out, HC.out], fun _ => ⟨rfl, rfl⟩, below_setCells HB.out (by omega) _ _⟩
      rw [results_cell_tmp Try.results13]
      have HR2 := HR.out
      simp [asAddr, HR2]

end Go.Proofs.Ytlijgkodcbnhbaa
