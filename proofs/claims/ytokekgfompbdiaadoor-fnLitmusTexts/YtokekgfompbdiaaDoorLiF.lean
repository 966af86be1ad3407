/- acts: their kinds and forms (written by mkTkF.py) -/
import Derived.Test.YtokekgfompbdiaaDoorTsA
import Derived.Deep.RegionHeld3
import Derived.Laws.EntriesVeiled
namespace Go.Proofs.YtokekgfompbdiaaDoor
open Go.RowKit
set_option linter.unusedVariables false
set_option linter.unusedSimpArgs false

abbrev fnV (n : Nat) : Value := .func (Fn.func n) #[] #[]
abbrev kd (a b c : Bool) (f : Value) : Array Value := #[.bool a, .bool b, .bool c, f]
abbrev five (k c v x r : Int) : Array Value := #[.int .i64 k, .int .i64 c, .int .i64 v, .int .i64 x, .int .i64 r]
theorem notNil (n : Nat) (W : World) : (binOp BinOp.neq 71 (fnV n) .nilFunc).run Tryd.prog W = .ok (.bool true) W := by kernel_rfl
theorem notNilG (n : Nat) (W : World) : (eqGuard BinOp.neq 71 (Operand.tmp 8) (Operand.const .nilFunc) (fnV n) .nilFunc).run Tryd.prog W = .ok () W := by kernel_rfl
theorem isNilG (W : World) : (eqGuard BinOp.neq 71 (Operand.tmp 8) (Operand.const .nilFunc) .nilFunc .nilFunc).run Tryd.prog W = .ok () W := by kernel_rfl
theorem isNil (W : World) : (binOp BinOp.neq 71 .nilFunc .nilFunc).run Tryd.prog W = .ok (.bool false) W := by kernel_rfl

theorem kind1 (w : World) : Calls Tryd.prog 37 #[.int .i64 1] w fun e w' => e = .returned (.agg (kd true true false (fnV 51))) ∧ Below w.heap.size w w' := by
  have HB : Hid (Below w.heap.size w (w.alloc (.cells (kd true true false (fnV 51)) 73))) := hide ((Below.refl _ _).alloc (Nat.le_refl _) _)
  go_enter Tryd.func37, Tryd.ntmps37
  go_wp2
  refine bodyPost_ret (v := .agg (kd true true false (fnV 51))) (by simp [results, Tryd.results37, go_sem]) rfl ⟨rfl, HB.out⟩
theorem kind2 (w : World) : Calls Tryd.prog 37 #[.int .i64 2] w fun e w' => e = .returned (.agg (kd true false true (fnV 52))) ∧ Below w.heap.size w w' := by
  have HB : Hid (Below w.heap.size w (w.alloc (.cells (kd true false true (fnV 52)) 73))) := hide ((Below.refl _ _).alloc (Nat.le_refl _) _)
  go_enter Tryd.func37, Tryd.ntmps37
  go_wp2
  refine bodyPost_ret (v := .agg (kd true false true (fnV 52))) (by simp [results, Tryd.results37, go_sem]) rfl ⟨rfl, HB.out⟩
theorem kind3 (w : World) : Calls Tryd.prog 37 #[.int .i64 3] w fun e w' => e = .returned (.agg (kd false false false (fnV 53))) ∧ Below w.heap.size w w' := by
  have HB : Hid (Below w.heap.size w (w.alloc (.cells (kd false false false (fnV 53)) 73))) := hide ((Below.refl _ _).alloc (Nat.le_refl _) _)
  go_enter Tryd.func37, Tryd.ntmps37
  go_wp2
  refine bodyPost_ret (v := .agg (kd false false false (fnV 53))) (by simp [results, Tryd.results37, go_sem]) rfl ⟨rfl, HB.out⟩
theorem kind4 (w : World) : Calls Tryd.prog 37 #[.int .i64 4] w fun e w' => e = .returned (.agg (kd false false false (fnV 54))) ∧ Below w.heap.size w w' := by
  have HB : Hid (Below w.heap.size w (w.alloc (.cells (kd false false false (fnV 54)) 73))) := hide ((Below.refl _ _).alloc (Nat.le_refl _) _)
  go_enter Tryd.func37, Tryd.ntmps37
  go_wp2
  refine bodyPost_ret (v := .agg (kd false false false (fnV 54))) (by simp [results, Tryd.results37, go_sem]) rfl ⟨rfl, HB.out⟩
theorem kindNo (k : Int) (w : World) (h1 : ¬ k = 1) (h2 : ¬ k = 2) (h3 : ¬ k = 3) (h4 : ¬ k = 4) : Calls Tryd.prog 37 #[.int .i64 k] w fun e w' => e = .returned (.agg (kd false false false .nilFunc)) ∧ Below w.heap.size w w' := by
  have HB : Hid (Below w.heap.size w (w.alloc (.cells (kd false false false .nilFunc) 73))) := hide ((Below.refl _ _).alloc (Nat.le_refl _) _)
  have e1 : (k == 1) = false := by simpa using h1
  have e2 : (k == 2) = false := by simpa using h2
  have e3 : (k == 3) = false := by simpa using h3
  have e4 : (k == 4) = false := by simpa using h4
  go_enter Tryd.func37, Tryd.ntmps37
  go_wp2
  refine bodyPost_ret (v := .agg (kd false false false .nilFunc)) (by simp [results, Tryd.results37, go_sem]) rfl ⟨rfl, HB.out⟩

def fO (b : Bool) (n c : Int) : Bool := if b then inB n 0 c else decide (n = 0)
theorem fieldOk_any (b : Bool) (n c : Int) (w : World) : Calls Tryd.prog 56 #[.bool b, .int .i64 n, .int .i64 c] w fun e w' => e = .returned (.bool (fO b n c)) ∧ w' = w := by
  cases b
  · by_cases h : n = 0
    · have HO : Hid (true = fO false n c) := hide (by simp [fO, h])
      have e : (n == 0) = true := by simpa using h
      clear h
      go_enter Tryd.func56, Tryd.ntmps56
      go_wp2
      go_ret
      exact ⟨ret_b HO.out, rfl⟩
    · have HO : Hid (false = fO false n c) := hide (by simp [fO, h])
      have e : (n == 0) = false := by simpa using h
      clear h
      go_enter Tryd.func56, Tryd.ntmps56
      go_wp2
      go_ret
      exact ⟨ret_b HO.out, rfl⟩
  · have hA := fun w => isBelow_any n c w
    have HO : Hid (inB n 0 c = fO true n c) := hide rfl
    generalize inB n 0 c = r at hA HO
    go_enter Tryd.func56, Tryd.ntmps56
    go_wp2_with fail
    refine (hA _).mono ?_
    rintro e w2 ⟨rfl, rfl⟩
    go_wp2
    go_ret
    exact ⟨ret_b HO.out, rfl⟩

def fkB (nn h1 h2 h3 : Bool) (C co va vl rg : Int) : Bool := nn && inB co 0 C && fO h1 va 3 && fO h2 vl 10 && fO h3 rg 2
set_option maxHeartbeats 2000000 in
theorem formOk_any (h1 h2 h3 nn : Bool) (fv : Value) (k co va vl rg C : Int) (w : World) (hn : ∀ W, (binOp BinOp.neq 71 fv .nilFunc).run Tryd.prog W = .ok (.bool nn) W) (hg : ∀ W, (eqGuard BinOp.neq 71 (Operand.tmp 8) (Operand.const .nilFunc) fv .nilFunc).run Tryd.prog W = .ok () W) :
    Calls Tryd.prog 38 #[.agg (kd h1 h2 h3 fv), .agg (five k co va vl rg), .int .i64 C] w fun e w' => e = .returned (.bool (fkB nn h1 h2 h3 C co va vl rg)) ∧ Below w.heap.size w w' := by
  have HB : Hid (Below w.heap.size w ((w.alloc (.cells (kd h1 h2 h3 fv) 73)).alloc (.cells (five k co va vl rg) 42))) := hide (((Below.refl _ _).alloc (Nat.le_refl _) _).alloc (by simp) _)
  have c1 := fun w => isBelow_any co C w
  have c2 := fun w => fieldOk_any h1 va 3 w
  have c3 := fun w => fieldOk_any h2 vl 10 w
  have c4 := fun w => fieldOk_any h3 rg 2 w
  unfold fkB
  generalize inB co 0 C = r1 at c1 ⊢
  generalize fO h1 va 3 = r2 at c2 ⊢
  generalize fO h2 vl 10 = r3 at c3 ⊢
  generalize fO h3 rg 2 = r4 at c4 ⊢
  cases nn
  · go_enter Tryd.func38, Tryd.ntmps38
    go_wp2
    go_ret
    exact ⟨rfl, HB.out⟩
  · cases r1
    · go_enter Tryd.func38, Tryd.ntmps38
      go_wp2_with fail
      refine (c1 _).mono ?_
      rintro e w1 ⟨rfl, rfl⟩
      go_wp2
      go_ret
      exact ⟨rfl, HB.out⟩
    · cases r2
      · go_enter Tryd.func38, Tryd.ntmps38
        go_wp2_with fail
        refine (c1 _).mono ?_
        rintro e w1 ⟨rfl, rfl⟩
        go_wp2_with fail
        refine (c2 _).mono ?_
        rintro e w2 ⟨rfl, rfl⟩
        go_wp2
        go_ret
        exact ⟨rfl, HB.out⟩
      · cases r3
        · go_enter Tryd.func38, Tryd.ntmps38
          go_wp2_with fail
          refine (c1 _).mono ?_
          rintro e w1 ⟨rfl, rfl⟩
          go_wp2_with fail
          refine (c2 _).mono ?_
          rintro e w2 ⟨rfl, rfl⟩
          go_wp2_with fail
          refine (c3 _).mono ?_
          rintro e w3 ⟨rfl, rfl⟩
          go_wp2
          go_ret
          exact ⟨rfl, HB.out⟩
        · cases r4
          · go_enter Tryd.func38, Tryd.ntmps38
            go_wp2_with fail
            refine (c1 _).mono ?_
            rintro e w1 ⟨rfl, rfl⟩
            go_wp2_with fail
            refine (c2 _).mono ?_
            rintro e w2 ⟨rfl, rfl⟩
            go_wp2_with fail
            refine (c3 _).mono ?_
            rintro e w3 ⟨rfl, rfl⟩
            go_wp2_with fail
            refine (c4 _).mono ?_
            rintro e w4 ⟨rfl, rfl⟩
            go_wp2
            go_ret
            exact ⟨rfl, HB.out⟩
          · go_enter Tryd.func38, Tryd.ntmps38
            go_wp2_with fail
            refine (c1 _).mono ?_
            rintro e w1 ⟨rfl, rfl⟩
            go_wp2_with fail
            refine (c2 _).mono ?_
            rintro e w2 ⟨rfl, rfl⟩
            go_wp2_with fail
            refine (c3 _).mono ?_
            rintro e w3 ⟨rfl, rfl⟩
            go_wp2_with fail
            refine (c4 _).mono ?_
            rintro e w4 ⟨rfl, rfl⟩
            go_wp2
            go_ret
            exact ⟨rfl, HB.out⟩

/-- the form of an act, of so many cores -/
def fmB (C k co va vl rg : Int) : Bool := inB co 0 C && (if k = 1 then inB va 0 3 && inB vl 0 10 && decide (rg = 0) else if k = 2 then inB va 0 3 && decide (vl = 0) && inB rg 0 2 else (decide (k = 3) || decide (k = 4)) && decide (va = 0) && decide (vl = 0) && decide (rg = 0))
theorem fm1 (C co va vl rg : Int) : fkB true true true false C co va vl rg = fmB C 1 co va vl rg := by simp [fkB, fmB, fO, Bool.and_assoc]
theorem fm2 (C co va vl rg : Int) : fkB true true false true C co va vl rg = fmB C 2 co va vl rg := by simp [fkB, fmB, fO, Bool.and_assoc]
theorem fm3 (C co va vl rg : Int) : fkB true false false false C co va vl rg = fmB C 3 co va vl rg := by simp [fkB, fmB, fO, Bool.and_assoc]
theorem fm4 (C co va vl rg : Int) : fkB true false false false C co va vl rg = fmB C 4 co va vl rg := by simp [fkB, fmB, fO, Bool.and_assoc]
theorem fmNo {k : Int} (C co va vl rg : Int) (h1 : ¬ k = 1) (h2 : ¬ k = 2) (h3 : ¬ k = 3) (h4 : ¬ k = 4) : fkB false false false false C co va vl rg = fmB C k co va vl rg := by simp [fkB, fmB, h1, h2, h3, h4]

end Go.Proofs.YtokekgfompbdiaaDoor
