/- LqA -/
import Derived.Test.YtlalldlbgnlbjaaGreatDoorYomeGot13
import Derived.Test.YtlalldlbgnlbjaaGreatDoorYomeGot17
import Derived.Deep.RegionHeld3
/- requests: isWant, reqOk, l4Req, toReq, toReqS, eqReq, eqReqS -/
namespace Go.Proofs.YtlalldlbgnlbjaaGreatDoor
open Go.RowKit
set_option linter.unusedVariables false
set_option linter.unusedSimpArgs false

def reqB (a b : Int) : Bool := inB a 1 5 && inB b 1 2
abbrev two (a b : Int) : Value := .agg #[.int .i64 a, .int .i64 b]

set_option maxHeartbeats 400000 in
theorem isWant_any (n : Int) (w : World) : Calls Tryz.prog 76 #[.int .i64 n] w fun e w' => e = .returned (.bool (inB n 1 2)) ∧ w' = w := by
  by_cases h1 : n = 1
  · subst h1
    go_enter Tryz.func76, Tryz.ntmps76
    go_wp2
    go_ret
    exact ⟨rfl, rfl⟩
  · have e1 : (n == 1) = false := by simp [h1]
    by_cases h2 : n = 2
    · subst h2
      go_enter Tryz.func76, Tryz.ntmps76
      go_wp2
      go_ret
      exact ⟨rfl, rfl⟩
    · have e2 : (n == 2) = false := by simp [h2]
      have HR : Hid (inB n 1 2 = false) := hide (by rw [Bool.eq_false_iff]; intro h; rw [inB_iff] at h; omega)
      clear h1 h2
      go_enter Tryz.func76, Tryz.ntmps76
      go_wp2
      go_ret
      exact ⟨ret_bool HR.out.symm, rfl⟩

set_option maxHeartbeats 400000 in
theorem reqOk_any (a b : Int) (w : World) : Calls Tryz.prog 77 #[two a b] w fun e w' => e = .returned (.bool (reqB a b)) ∧ Below w.heap.size w w' := by
  cases hc : inB a 1 5 with
  | false =>
    have HR : Hid (reqB a b = false) := hide (by rw [reqB, hc]; rfl)
    go_enter Tryz.func77, Tryz.ntmps77
    go_wp2_with fail
    refine (isCore_any _ _).mono ?_
    rintro e w1 ⟨rfl, rfl⟩
    rw [hc]
    go_wp2
    go_ret
    exact ⟨ret_bool HR.out.symm, (Below.refl _ _).alloc (Nat.le_refl _) _⟩
  | true =>
    have HR : Hid (reqB a b = inB b 1 2) := hide (by rw [reqB, hc]; rfl)
    go_enter Tryz.func77, Tryz.ntmps77
    go_wp2_with fail
    refine (isCore_any _ _).mono ?_
    rintro e w1 ⟨rfl, rfl⟩
    rw [hc]
    go_wp2_with fail
    refine (isWant_any _ _).mono ?_
    rintro e w1 ⟨rfl, rfl⟩
    generalize inB b 1 2 = z at HR
    go_wp2
    go_ret
    exact ⟨ret_bool HR.out.symm, (Below.refl _ _).alloc (Nat.le_refl _) _⟩

set_option maxHeartbeats 400000 in
theorem l4Req_any (a b : Int) (w : World) : Calls Tryz.prog 57 #[two a b] w fun e w' => e = .returned (.bool (reqB a b)) ∧ Below w.heap.size w w' := by
  cases hc : inB a 1 5 with
  | false =>
    have HR : Hid (reqB a b = false) := hide (by rw [reqB, hc]; rfl)
    go_enter Tryz.func57, Tryz.ntmps57
    go_wp2_with fail
    refine (in_any _ _ _ _).mono ?_
    rintro e w1 ⟨rfl, rfl⟩
    rw [hc]
    go_wp2
    go_ret
    exact ⟨ret_bool HR.out.symm, (Below.refl _ _).alloc (Nat.le_refl _) _⟩
  | true =>
    have HR : Hid (reqB a b = inB b 1 2) := hide (by rw [reqB, hc]; rfl)
    go_enter Tryz.func57, Tryz.ntmps57
    go_wp2_with fail
    refine (in_any _ _ _ _).mono ?_
    rintro e w1 ⟨rfl, rfl⟩
    rw [hc]
    go_wp2_with fail
    refine (in_any _ _ _ _).mono ?_
    rintro e w1 ⟨rfl, rfl⟩
    generalize inB b 1 2 = z at HR
    go_wp2
    go_ret
    exact ⟨ret_bool HR.out.symm, (Below.refl _ _).alloc (Nat.le_refl _) _⟩

set_option maxHeartbeats 400000 in
theorem toReq_any (a b : Int) (w : World) : Calls Tryz.prog 64 #[two a b] w fun e w' => e = .returned (two a b) ∧ Below w.heap.size w w' := by
  go_enter Tryz.func64, Tryz.ntmps64
  go_wp2
  refine bodyPost_ret (v := two a b) (by simp [results, Tryz.results64, go_sem]) rfl ⟨rfl, ?_⟩
  exact (((Below.refl _ _).alloc (Nat.le_refl _) _).alloc (by simp) _).alloc (by simp; omega) _

set_option maxHeartbeats 400000 in
theorem eqReq_same (a b : Int) (w : World) : Calls Tryz.prog 71 #[two a b, two a b] w fun e w' => e = .returned (.bool true) ∧ Below w.heap.size w w' := by
  go_enter Tryz.func71, Tryz.ntmps71
  go_wp2
  go_ret
  exact ⟨rfl, ((Below.refl _ _).alloc (Nat.le_refl _) _).alloc (by simp) _⟩

theorem infoReq : (Tryz.prog.info? 71).map (fun i => (i.zero, i.size, i.bytes)) = some (some (two 0 0), 2, 16) := by kernel_rfl

/-- the cells of the k-th struct of a row that is the call's own -/
theorem Orow.at2 {w : World} {base g n cap k j : Nat} {T : TypeId} {f : Nat → Nat → Int} (hj : j < n) (h : Orow w base T 2 (.slice (some ⟨g, 0, none⟩) n cap) n k f) :
    (∀ i, w.frozen? ⟨g, i, none⟩ = false) ∧ (∃ o, w.cell? ⟨g, j * 2, none⟩ = some o) ∧ (∃ o, w.cell? ⟨g, j * 2 + 1, none⟩ = some o) := by
  refine ⟨fun i => World.ownsRow.frozenAt h i, ?_, ?_⟩
  · have := World.ownsRow.cellAt h (j * 2) (by omega)
    rw [rowC_get (by omega)] at this
    exact ⟨_, this⟩
  · have := World.ownsRow.cellAt h (j * 2 + 1) (by omega)
    rw [rowC_get (by omega)] at this
    exact ⟨_, this⟩

set_option maxHeartbeats 1000000 in
theorem toReqS_any (v : Value) (n : Nat) (f : Nat → Nat → Int) (w : World) (hs : Sr w v 2 n f) (hb : n ≤ 1048576) :
    Calls Tryz.prog 30 #[v] w fun e w' => ∃ g, e = .returned (.slice (some ⟨g, 0, none⟩) n n) ∧ Orow w' w.heap.size 71 2 (.slice (some ⟨g, 0, none⟩) n n) n n f ∧ Below w.heap.size w w' := by
  obtain ⟨ad, cap, rfl, hs⟩ := hs
  obtain ⟨i0, hi, hz0, hz1, hz2⟩ := info_parts infoReq
  go_enter Tryz.func30, Tryz.ntmps30
  go_wp2_with (at_make; refine wpList_make_full _ rfl _ _ 29 rfl w.heap.size 71 i0 (two 0 0) 2 Tryz.underlying29 hi hz0 hz1 .i64 .i64 n n n rfl rfl rfl rfl (by rw [hz2]; omega) (by unfold maxLen; omega) (Nat.le_refl _) ?_; intro w1 ho1 hg1)
  have ho : Orow w1 w.heap.size 71 2 (.slice (some ⟨w.heap.size, 0, none⟩) n n) n 0 f := by
    unfold Orow
    rw [← made_row (two 0 0).cells 2 n (by decide) rfl (fun i hi => by match i, hi with | 0, _ => rfl | 1, _ => rfl) f]
    exact ho1
  have hb1 : Below w.heap.size w w1 := (Below.refl _ _).grown hg1 (Nat.le_refl _) (fun k hk => by cases hk)
  clear ho1 hg1
  go_loopw [4] (fun i wr => ∃ k : Nat, k ≤ n ∧ i = .int .i64 k ∧ Orow wr w.heap.size 71 2 (.slice (some ⟨w.heap.size, 0, none⟩) n n) n k f ∧ Below w.heap.size w wr) (fun i _ => n - (intOf i).toNat)
  case atStart => exact ⟨0, Nat.zero_le _, rfl, ho, hb1⟩
  case round =>
    obtain ⟨k, hk, rfl, hok, hbk⟩ := hrel
    clear ho hb1
    by_cases hlt : k < n
    · obtain ⟨b, off, rfl, hc⟩ := hs (by omega)
      have q0 : wr.cell? ⟨b, off + k * 2, none⟩ = some (.int .i64 (f k 0)) := Below.keep hbk _ _ (hc k hlt 0 (by decide))
      have q1 : wr.cell? ⟨b, off + k * 2 + 1, none⟩ = some (.int .i64 (f k 1)) := Below.keep hbk _ _ (hc k hlt 1 (by decide))
      clear hs hc
      go_wp2_with fail
      refine (toReq_any _ _ _).mono ?_
      rintro e w2 ⟨rfl, hb2⟩
      have hok2 := hok.below hb2
      have hbk2 := hbk.trans (hb2.mono hbk.size)
      obtain ⟨fr, ⟨o0, r0⟩, ⟨o1, r1⟩⟩ := hok2.at2 hlt
      have hB2 : Below w.heap.size w ((w2.setCell ⟨w.heap.size, k * 2, none⟩ (.int .i64 (f k 0))).setCell ⟨w.heap.size, k * 2 + 1, none⟩ (.int .i64 (f k 1))) := (hbk2.setCell (Nat.le_refl _) _).setCell (Nat.le_refl _) _
      have HB := hide (And.intro (hok2.set2 hlt) hB2)
      clear hB2
      clear hok hok2 hbk hbk2 hb2 q0 q1
      go_wp2
      go_roundw
      case rel => exact ⟨k + 1, by omega, by go_num, HB.out.1, HB.out.2⟩
      case measure => simp [intOf]; omega
    · go_wp2
      go_ret
      have e : k = n := by omega
      subst e
      exact ⟨_, rfl, hok, hbk⟩

theorem keepq {w W W' : World} {p0 p1 p2 p3 : Addr} {x0 x1 x2 x3 : Value} (h : Below w.heap.size w W ∧ W.cell? p0 = some x0 ∧ W.cell? p1 = some x1 ∧ W.cell? p2 = some x2 ∧ W.cell? p3 = some x3) (hb : Below W.heap.size W W') :
    Below w.heap.size w W' ∧ W'.cell? p0 = some x0 ∧ W'.cell? p1 = some x1 ∧ W'.cell? p2 = some x2 ∧ W'.cell? p3 = some x3 := ⟨h.1.trans (hb.mono h.1.size), keepc hb h.2.1, keepc hb h.2.2.1, keepc hb h.2.2.2.1, keepc hb h.2.2.2.2⟩

set_option maxHeartbeats 2000000 in
theorem eqReqS_same (a b : Value) (n : Nat) (f : Nat → Nat → Int) (w : World) (ha : Sr w a 2 n f) (hb : Sr w b 2 n f) (hl : n ≤ 1048576) :
    Calls Tryz.prog 35 #[a, b] w fun e w' => e = .returned (.bool true) ∧ Below w.heap.size w w' := by
  obtain ⟨ad, cap, rfl, ha⟩ := ha
  obtain ⟨bd, cbp, rfl, hb⟩ := hb
  go_enter Tryz.func35, Tryz.ntmps35
  go_wp2
  go_loopw [5] (fun i wr => ∃ k : Nat, k ≤ n ∧ i = .int .i64 k ∧ Below w.heap.size w wr) (fun i _ => n - (intOf i).toNat)
  case atStart => exact ⟨0, Nat.zero_le _, rfl, Below.refl _ _⟩
  case round =>
    obtain ⟨k, hk, rfl, hbk⟩ := hrel
    by_cases hlt : k < n
    · obtain ⟨p, off, rfl, hc⟩ := ha (by omega)
      obtain ⟨q, off', rfl, hd⟩ := hb (by omega)
      have c0 : wr.cell? ⟨p, off + k * 2, none⟩ = some (.int .i64 (f k 0)) := Below.keep hbk _ _ (hc k hlt 0 (by decide))
      have c1 : wr.cell? ⟨p, off + k * 2 + 1, none⟩ = some (.int .i64 (f k 1)) := Below.keep hbk _ _ (hc k hlt 1 (by decide))
      have d0 : wr.cell? ⟨q, off' + k * 2, none⟩ = some (.int .i64 (f k 0)) := Below.keep hbk _ _ (hd k hlt 0 (by decide))
      have d1 : wr.cell? ⟨q, off' + k * 2 + 1, none⟩ = some (.int .i64 (f k 1)) := Below.keep hbk _ _ (hd k hlt 1 (by decide))
      clear hc hd ha hb
      have hk0 : (0 : Int) ≤ (k : Int) := by omega
      have hk1 : (k : Int) < (n : Int) := by omega
      go_wp2
      go_region_held3 (fun w' => Below w.heap.size w w' ∧ w'.cell? ⟨p, off + k * 2, none⟩ = some (.int .i64 (f k 0)) ∧ w'.cell? ⟨p, off + k * 2 + 1, none⟩ = some (.int .i64 (f k 1)) ∧ w'.cell? ⟨q, off' + k * 2, none⟩ = some (.int .i64 (f k 0)) ∧ w'.cell? ⟨q, off' + k * 2 + 1, none⟩ = some (.int .i64 (f k 1))) (first | exact ⟨hbk.drew, c0, c1, d0, d1⟩ | exact keepq (by assumption) hbc) (first | (go_at_call 71; refine (eqReq_same _ _ _).mono ?_; rintro e w2 ⟨rfl, hbc⟩))
      all_goals go_wp2
      all_goals rename_i hS
      all_goals go_roundw
      case rel => exact ⟨k + 1, by omega, by go_num, hS.1⟩
      case measure => simp [intOf]; omega
    · go_wp2
      go_ret
      exact ⟨rfl, hbk⟩

end Go.Proofs.YtlalldlbgnlbjaaGreatDoor
