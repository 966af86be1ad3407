/- I -/
import Derived.Test.YtlalldlbgnlbjaaGreatDoorYomeGot15
/- spec.WithId, impl.WithId, spec.WithoutId, impl.WithoutId: one answer each -/
namespace Go.Proofs.YtlalldlbgnlbjaaGreatDoor
open Go.RowKit

def wRes (zs : List Int) (id : Int) : List Int := if Ids.ok zs = true ∧ 1 ≤ id ∧ id ≤ 5 then Ids.withId zs id else []
def oRes (zs : List Int) (id : Int) : List Int := if Ids.ok zs = true ∧ 1 ≤ id ∧ id ≤ 5 then Ids.withoutId zs id else []
theorem wRes_yes {zs : List Int} {id : Int} (h : Ids.ok zs = true) (h1 : 1 ≤ id) (h5 : id ≤ 5) : wRes zs id = Ids.withId zs id := by unfold wRes; rw [if_pos ⟨h, h1, h5⟩]
theorem oRes_yes {zs : List Int} {id : Int} (h : Ids.ok zs = true) (h1 : 1 ≤ id) (h5 : id ≤ 5) : oRes zs id = Ids.withoutId zs id := by unfold oRes; rw [if_pos ⟨h, h1, h5⟩]
theorem wRes_bad {zs : List Int} {id : Int} (h : Ids.ok zs = false) : wRes zs id = [] := by unfold wRes; rw [if_neg (by simp [h])]
theorem oRes_bad {zs : List Int} {id : Int} (h : Ids.ok zs = false) : oRes zs id = [] := by unfold oRes; rw [if_neg (by simp [h])]
theorem wRes_out {zs : List Int} {id : Int} (h : id < 1 ∨ 5 < id) : wRes zs id = [] := by unfold wRes; rw [if_neg (by omega)]
theorem oRes_out {zs : List Int} {id : Int} (h : id < 1 ∨ 5 < id) : oRes zs id = [] := by unfold oRes; rw [if_neg (by omega)]
theorem ok_len {zs : List Int} (h : Ids.ok zs = true) : zs.length ≤ 5 := by
  obtain ⟨a, b, c, d, e, rfl⟩ := Ids.ok_five zs h
  cases a <;> cases b <;> cases c <;> cases d <;> cases e <;> decide
theorem oRes_le (zs : List Int) (id : Int) : (oRes zs id).length ≤ 5 := by
  unfold oRes
  split
  · rename_i h
    unfold Ids.withoutId
    exact Nat.le_trans (List.length_filter_le _ _) (ok_len h.1)
  · simp

theorem with_bits {zs : List Int} (h : Ids.ok zs = true) (z : Nat) (hz : z ∈ [1, 2, 3, 4, 5]) : Ids.inSet (bits BinOp.or IntKind.u64 (bsOk zs) (2 ^ z)) = Ids.withId zs (z : Nat) ∧ 0 ≤ bits BinOp.or IntKind.u64 (bsOk zs) (2 ^ z) ∧ bits BinOp.or IntKind.u64 (bsOk zs) (2 ^ z) < 64 := by
  rw [← bsOk_yes h]
  have hb := Ids.bs_lt zs h
  obtain ⟨m, hm⟩ := fin_of (Ids.bs zs) hb.1 hb.2
  have h2 := or_in m z hz
  rw [← hm] at h2
  obtain ⟨a, b, c, d, e, rfl⟩ := Ids.ok_five zs h
  exact ⟨with_five a b c d e z hz, h2⟩
theorem without_bits {zs : List Int} (h : Ids.ok zs = true) (z : Nat) (hz : z ∈ [1, 2, 3, 4, 5]) : Ids.inSet (bits BinOp.andNot IntKind.u64 (bsOk zs) (2 ^ z)) = Ids.withoutId zs (z : Nat) ∧ 0 ≤ bits BinOp.andNot IntKind.u64 (bsOk zs) (2 ^ z) ∧ bits BinOp.andNot IntKind.u64 (bsOk zs) (2 ^ z) < 64 := by
  rw [← bsOk_yes h]
  have hb := Ids.bs_lt zs h
  obtain ⟨m, hm⟩ := fin_of (Ids.bs zs) hb.1 hb.2
  have h2 := andNot_in m z hz
  rw [← hm] at h2
  obtain ⟨a, b, c, d, e, rfl⟩ := Ids.ok_five zs h
  exact ⟨without_five a b c d e z hz, h2⟩

set_option maxHeartbeats 4000000 in
theorem implWith_any (v : Value) (zs : List Int) (id : Int) (w : World) (hs : Sl w v zs) (hl : zs.length ≤ 1048576) :
    Calls Tryz.prog 105 #[v, .int .i64 id] w fun e w' => ∃ u, e = .returned u ∧ Ow w' w.heap.size u (wRes zs id) ∧ Below w.heap.size w w' := by
  by_cases hok : Ids.ok zs = true
  · by_cases hin : 1 ≤ id ∧ id ≤ 5
    · obtain ⟨h1, h5⟩ := hin
      have HR := hide (wRes_yes hok h1 h5)
      have ez : id = 1 ∨ id = 2 ∨ id = 3 ∨ id = 4 ∨ id = 5 := by omega
      rcases ez with rfl | rfl | rfl | rfl | rfl
      · have hb : Ids.inSet (bits BinOp.or IntKind.u64 (bsOk zs) 2) = Ids.withId zs 1 ∧ 0 ≤ bits BinOp.or IntKind.u64 (bsOk zs) 2 ∧ bits BinOp.or IntKind.u64 (bsOk zs) 2 < 64 := with_bits hok 1 (by decide)
        have HB := hide hb
        clear hb
        go_enter Tryz.func105, Tryz.ntmps105
        go_wp2_with fail
        refine (bits_any v zs _ hs hl).mono ?_
        rintro e w1 ⟨rfl, rfl⟩
        go_wp2_with fail
        refine (core_yes _ _ h1 h5).mono ?_
        rintro e w2 ⟨rfl, rfl⟩
        go_wp2_with fail
        refine (idsIn_any _ _ HB.out.2.1 HB.out.2.2).mono ?_
        rintro e w3 ⟨u, rfl, ho, hb3⟩
        rw [HB.out.1, ← HR.out] at ho
        have HF := hide (And.intro ho hb3)
        clear ho hb3
        go_wp2
        go_ret
        exact ⟨_, rfl, HF.out.1, HF.out.2⟩
      · have hb : Ids.inSet (bits BinOp.or IntKind.u64 (bsOk zs) 4) = Ids.withId zs 2 ∧ 0 ≤ bits BinOp.or IntKind.u64 (bsOk zs) 4 ∧ bits BinOp.or IntKind.u64 (bsOk zs) 4 < 64 := with_bits hok 2 (by decide)
        have HB := hide hb
        clear hb
        go_enter Tryz.func105, Tryz.ntmps105
        go_wp2_with fail
        refine (bits_any v zs _ hs hl).mono ?_
        rintro e w1 ⟨rfl, rfl⟩
        go_wp2_with fail
        refine (core_yes _ _ h1 h5).mono ?_
        rintro e w2 ⟨rfl, rfl⟩
        go_wp2_with fail
        refine (idsIn_any _ _ HB.out.2.1 HB.out.2.2).mono ?_
        rintro e w3 ⟨u, rfl, ho, hb3⟩
        rw [HB.out.1, ← HR.out] at ho
        have HF := hide (And.intro ho hb3)
        clear ho hb3
        go_wp2
        go_ret
        exact ⟨_, rfl, HF.out.1, HF.out.2⟩
      · have hb : Ids.inSet (bits BinOp.or IntKind.u64 (bsOk zs) 8) = Ids.withId zs 3 ∧ 0 ≤ bits BinOp.or IntKind.u64 (bsOk zs) 8 ∧ bits BinOp.or IntKind.u64 (bsOk zs) 8 < 64 := with_bits hok 3 (by decide)
        have HB := hide hb
        clear hb
        go_enter Tryz.func105, Tryz.ntmps105
        go_wp2_with fail
        refine (bits_any v zs _ hs hl).mono ?_
        rintro e w1 ⟨rfl, rfl⟩
        go_wp2_with fail
        refine (core_yes _ _ h1 h5).mono ?_
        rintro e w2 ⟨rfl, rfl⟩
        go_wp2_with fail
        refine (idsIn_any _ _ HB.out.2.1 HB.out.2.2).mono ?_
        rintro e w3 ⟨u, rfl, ho, hb3⟩
        rw [HB.out.1, ← HR.out] at ho
        have HF := hide (And.intro ho hb3)
        clear ho hb3
        go_wp2
        go_ret
        exact ⟨_, rfl, HF.out.1, HF.out.2⟩
      · have hb : Ids.inSet (bits BinOp.or IntKind.u64 (bsOk zs) 16) = Ids.withId zs 4 ∧ 0 ≤ bits BinOp.or IntKind.u64 (bsOk zs) 16 ∧ bits BinOp.or IntKind.u64 (bsOk zs) 16 < 64 := with_bits hok 4 (by decide)
        have HB := hide hb
        clear hb
        go_enter Tryz.func105, Tryz.ntmps105
        go_wp2_with fail
        refine (bits_any v zs _ hs hl).mono ?_
        rintro e w1 ⟨rfl, rfl⟩
        go_wp2_with fail
        refine (core_yes _ _ h1 h5).mono ?_
        rintro e w2 ⟨rfl, rfl⟩
        go_wp2_with fail
        refine (idsIn_any _ _ HB.out.2.1 HB.out.2.2).mono ?_
        rintro e w3 ⟨u, rfl, ho, hb3⟩
        rw [HB.out.1, ← HR.out] at ho
        have HF := hide (And.intro ho hb3)
        clear ho hb3
        go_wp2
        go_ret
        exact ⟨_, rfl, HF.out.1, HF.out.2⟩
      · have hb : Ids.inSet (bits BinOp.or IntKind.u64 (bsOk zs) 32) = Ids.withId zs 5 ∧ 0 ≤ bits BinOp.or IntKind.u64 (bsOk zs) 32 ∧ bits BinOp.or IntKind.u64 (bsOk zs) 32 < 64 := with_bits hok 5 (by decide)
        have HB := hide hb
        clear hb
        go_enter Tryz.func105, Tryz.ntmps105
        go_wp2_with fail
        refine (bits_any v zs _ hs hl).mono ?_
        rintro e w1 ⟨rfl, rfl⟩
        go_wp2_with fail
        refine (core_yes _ _ h1 h5).mono ?_
        rintro e w2 ⟨rfl, rfl⟩
        go_wp2_with fail
        refine (idsIn_any _ _ HB.out.2.1 HB.out.2.2).mono ?_
        rintro e w3 ⟨u, rfl, ho, hb3⟩
        rw [HB.out.1, ← HR.out] at ho
        have HF := hide (And.intro ho hb3)
        clear ho hb3
        go_wp2
        go_ret
        exact ⟨_, rfl, HF.out.1, HF.out.2⟩
    · have hno : id < 1 ∨ 5 < id := by omega
      have HR := hide (wRes_out (zs := zs) hno)
      have HNO := hide hno
      clear hno hin
      go_enter Tryz.func105, Tryz.ntmps105
      go_wp2_with fail
      refine (bits_any v zs _ hs hl).mono ?_
      rintro e w1 ⟨rfl, rfl⟩
      go_wp2_with fail
      refine (core_no _ _ HNO.out).mono ?_
      rintro e w2 ⟨rfl, rfl⟩
      go_wp2
      go_ret
      exact ⟨_, rfl, by rw [HR.out]; exact Ow.empty_nil _ _, Below.refl _ _⟩
  · have hok' : Ids.ok zs = false := by simpa using hok
    have HR := hide (wRes_bad (id := id) hok')
    clear hok
    go_enter Tryz.func105, Tryz.ntmps105
    go_wp2_with fail
    refine (bits_any v zs _ hs hl).mono ?_
    rintro e w1 ⟨rfl, rfl⟩
    go_wp2
    go_ret
    exact ⟨_, rfl, by rw [HR.out]; exact Ow.empty_nil _ _, Below.refl _ _⟩

set_option maxHeartbeats 4000000 in
theorem implWithout_any (v : Value) (zs : List Int) (id : Int) (w : World) (hs : Sl w v zs) (hl : zs.length ≤ 1048576) :
    Calls Tryz.prog 104 #[v, .int .i64 id] w fun e w' => ∃ u, e = .returned u ∧ Ow w' w.heap.size u (oRes zs id) ∧ Below w.heap.size w w' := by
  by_cases hok : Ids.ok zs = true
  · by_cases hin : 1 ≤ id ∧ id ≤ 5
    · obtain ⟨h1, h5⟩ := hin
      have HR := hide (oRes_yes hok h1 h5)
      have ez : id = 1 ∨ id = 2 ∨ id = 3 ∨ id = 4 ∨ id = 5 := by omega
      rcases ez with rfl | rfl | rfl | rfl | rfl
      · have hb : Ids.inSet (bits BinOp.andNot IntKind.u64 (bsOk zs) 2) = Ids.withoutId zs 1 ∧ 0 ≤ bits BinOp.andNot IntKind.u64 (bsOk zs) 2 ∧ bits BinOp.andNot IntKind.u64 (bsOk zs) 2 < 64 := without_bits hok 1 (by decide)
        have HB := hide hb
        clear hb
        go_enter Tryz.func104, Tryz.ntmps104
        go_wp2_with fail
        refine (bits_any v zs _ hs hl).mono ?_
        rintro e w1 ⟨rfl, rfl⟩
        go_wp2_with fail
        refine (core_yes _ _ h1 h5).mono ?_
        rintro e w2 ⟨rfl, rfl⟩
        go_wp2_with fail
        refine (idsIn_any _ _ HB.out.2.1 HB.out.2.2).mono ?_
        rintro e w3 ⟨u, rfl, ho, hb3⟩
        rw [HB.out.1, ← HR.out] at ho
        have HF := hide (And.intro ho hb3)
        clear ho hb3
        go_wp2
        go_ret
        exact ⟨_, rfl, HF.out.1, HF.out.2⟩
      · have hb : Ids.inSet (bits BinOp.andNot IntKind.u64 (bsOk zs) 4) = Ids.withoutId zs 2 ∧ 0 ≤ bits BinOp.andNot IntKind.u64 (bsOk zs) 4 ∧ bits BinOp.andNot IntKind.u64 (bsOk zs) 4 < 64 := without_bits hok 2 (by decide)
        have HB := hide hb
        clear hb
        go_enter Tryz.func104, Tryz.ntmps104
        go_wp2_with fail
        refine (bits_any v zs _ hs hl).mono ?_
        rintro e w1 ⟨rfl, rfl⟩
        go_wp2_with fail
        refine (core_yes _ _ h1 h5).mono ?_
        rintro e w2 ⟨rfl, rfl⟩
        go_wp2_with fail
        refine (idsIn_any _ _ HB.out.2.1 HB.out.2.2).mono ?_
        rintro e w3 ⟨u, rfl, ho, hb3⟩
        rw [HB.out.1, ← HR.out] at ho
        have HF := hide (And.intro ho hb3)
        clear ho hb3
        go_wp2
        go_ret
        exact ⟨_, rfl, HF.out.1, HF.out.2⟩
      · have hb : Ids.inSet (bits BinOp.andNot IntKind.u64 (bsOk zs) 8) = Ids.withoutId zs 3 ∧ 0 ≤ bits BinOp.andNot IntKind.u64 (bsOk zs) 8 ∧ bits BinOp.andNot IntKind.u64 (bsOk zs) 8 < 64 := without_bits hok 3 (by decide)
        have HB := hide hb
        clear hb
        go_enter Tryz.func104, Tryz.ntmps104
        go_wp2_with fail
        refine (bits_any v zs _ hs hl).mono ?_
        rintro e w1 ⟨rfl, rfl⟩
        go_wp2_with fail
        refine (core_yes _ _ h1 h5).mono ?_
        rintro e w2 ⟨rfl, rfl⟩
        go_wp2_with fail
        refine (idsIn_any _ _ HB.out.2.1 HB.out.2.2).mono ?_
        rintro e w3 ⟨u, rfl, ho, hb3⟩
        rw [HB.out.1, ← HR.out] at ho
        have HF := hide (And.intro ho hb3)
        clear ho hb3
        go_wp2
        go_ret
        exact ⟨_, rfl, HF.out.1, HF.out.2⟩
      · have hb : Ids.inSet (bits BinOp.andNot IntKind.u64 (bsOk zs) 16) = Ids.withoutId zs 4 ∧ 0 ≤ bits BinOp.andNot IntKind.u64 (bsOk zs) 16 ∧ bits BinOp.andNot IntKind.u64 (bsOk zs) 16 < 64 := without_bits hok 4 (by decide)
        have HB := hide hb
        clear hb
        go_enter Tryz.func104, Tryz.ntmps104
        go_wp2_with fail
        refine (bits_any v zs _ hs hl).mono ?_
        rintro e w1 ⟨rfl, rfl⟩
        go_wp2_with fail
        refine (core_yes _ _ h1 h5).mono ?_
        rintro e w2 ⟨rfl, rfl⟩
        go_wp2_with fail
        refine (idsIn_any _ _ HB.out.2.1 HB.out.2.2).mono ?_
        rintro e w3 ⟨u, rfl, ho, hb3⟩
        rw [HB.out.1, ← HR.out] at ho
        have HF := hide (And.intro ho hb3)
        clear ho hb3
        go_wp2
        go_ret
        exact ⟨_, rfl, HF.out.1, HF.out.2⟩
      · have hb : Ids.inSet (bits BinOp.andNot IntKind.u64 (bsOk zs) 32) = Ids.withoutId zs 5 ∧ 0 ≤ bits BinOp.andNot IntKind.u64 (bsOk zs) 32 ∧ bits BinOp.andNot IntKind.u64 (bsOk zs) 32 < 64 := without_bits hok 5 (by decide)
        have HB := hide hb
        clear hb
        go_enter Tryz.func104, Tryz.ntmps104
        go_wp2_with fail
        refine (bits_any v zs _ hs hl).mono ?_
        rintro e w1 ⟨rfl, rfl⟩
        go_wp2_with fail
        refine (core_yes _ _ h1 h5).mono ?_
        rintro e w2 ⟨rfl, rfl⟩
        go_wp2_with fail
        refine (idsIn_any _ _ HB.out.2.1 HB.out.2.2).mono ?_
        rintro e w3 ⟨u, rfl, ho, hb3⟩
        rw [HB.out.1, ← HR.out] at ho
        have HF := hide (And.intro ho hb3)
        clear ho hb3
        go_wp2
        go_ret
        exact ⟨_, rfl, HF.out.1, HF.out.2⟩
    · have hno : id < 1 ∨ 5 < id := by omega
      have HR := hide (oRes_out (zs := zs) hno)
      have HNO := hide hno
      clear hno hin
      go_enter Tryz.func104, Tryz.ntmps104
      go_wp2_with fail
      refine (bits_any v zs _ hs hl).mono ?_
      rintro e w1 ⟨rfl, rfl⟩
      go_wp2_with fail
      refine (core_no _ _ HNO.out).mono ?_
      rintro e w2 ⟨rfl, rfl⟩
      go_wp2
      go_ret
      exact ⟨_, rfl, by rw [HR.out]; exact Ow.empty_nil _ _, Below.refl _ _⟩
  · have hok' : Ids.ok zs = false := by simpa using hok
    have HR := hide (oRes_bad (id := id) hok')
    clear hok
    go_enter Tryz.func104, Tryz.ntmps104
    go_wp2_with fail
    refine (bits_any v zs _ hs hl).mono ?_
    rintro e w1 ⟨rfl, rfl⟩
    go_wp2
    go_ret
    exact ⟨_, rfl, by rw [HR.out]; exact Ow.empty_nil _ _, Below.refl _ _⟩

end Go.Proofs.YtlalldlbgnlbjaaGreatDoor
