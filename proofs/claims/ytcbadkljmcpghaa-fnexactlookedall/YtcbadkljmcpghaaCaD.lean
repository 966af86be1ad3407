/- a cache copied, compared, measured: toCSetS, toCache, eqCSetS, eqCache, szCSetS, szCache -/
import Derived.Test.YtcbadkljmcpghaaCaC
namespace Go.Proofs.Ytcbadkljmcpghaa
open Go.RowKit
set_option linter.unusedVariables false
set_option linter.unusedSimpArgs false

set_option maxHeartbeats 4000000 in
theorem toCSetS_any (v : Value) (n : Nat) (L : Nat → Nat) (D : Nat → Sm) (w : World) (hs : Cv w v n L D) (hb : n ≤ 1048576) (hL : ∀ c, c < n → L c ≤ 1048576) :
    Calls Try.prog 60 #[v] w fun e w' => ∃ g ib, e = .returned (.slice (some ⟨g, 0, none⟩) n n) ∧ w.heap.size ≤ g ∧ Oc2 w' g n n L D ib ∧ Below w.heap.size w w' := by
  obtain ⟨ad, cap, rfl, hs⟩ := hs
  obtain ⟨i0, hi, hz0, hz1, hz2⟩ := info_parts infoCSet
  go_enter Try.func60, Try.ntmps60
  go_wp2_with (at_make; refine wpList_make_full _ rfl _ _ 30 rfl w.heap.size 66 i0 (.agg #[.int .i64 0, .slice none 0 0]) 2 Try.underlying30 hi hz0 hz1 .i64 .i64 n n n rfl rfl rfl rfl (by rw [hz2]; omega) (by unfold maxLen; omega) (Nat.le_refl _) ?_; intro w1 ho1 hg1)
  have ho : Oc2 w1 w.heap.size n 0 L D (fun _ => 0) := oc2_start ho1
  have hb1 : Below w.heap.size w w1 := (Below.refl _ _).grown hg1 (Nat.le_refl _) (fun k hk => by cases hk)
  clear ho1 hg1
  go_loopw [4] (fun i wr => ∃ (k : Nat) (ib : Nat → Nat), k ≤ n ∧ i = .int .i64 k ∧ Oc2 wr w.heap.size n k L D ib ∧ Below w.heap.size w wr) (fun i _ => n - (intOf i).toNat)
  case atStart => exact ⟨0, _, Nat.zero_le _, rfl, ho, hb1⟩
  case round =>
    obtain ⟨k, ib, hk, rfl, hok, hbk⟩ := hrel
    clear ho hb1
    by_cases hlt : k < n
    · obtain ⟨b, off, rfl, hc⟩ := hs (by omega)
      obtain ⟨ia, ic, q0', q1', hr⟩ := hc k hlt
      have q0 : wr.cell? ⟨b, off + k * 2, none⟩ = some (.int .i64 (D k).b) := Below.keep hbk _ _ q0'
      have q1 : wr.cell? ⟨b, off + k * 2 + 1, none⟩ = some (.slice ia (L k) ic) := Below.keep hbk _ _ q1'
      have hr' := hr.below hbk
      clear hs hc q0' q1' hr
      go_wp2_with fail
      refine (toCSet_any _ _ (L k) _ (D k) _ hr' (hL k hlt)).mono ?_
      rintro e w2 ⟨nb, rfl, hnb, hro, hb2⟩
      have hgl := hok.lt
      have hil : ∀ c, c < k → ib c < nb := fun c hc => by have := (hok.row c hc).lt; omega
      have hok2 := hok.below hb2
      have hbk2 := hbk.trans (hb2.mono hbk.size)
      obtain ⟨fr, ⟨o0, r0⟩, ⟨o1, r1⟩⟩ := hok2.facts hlt
      have hB2 : Below w.heap.size w ((w2.setCell ⟨w.heap.size, k * 2, none⟩ (.int .i64 (D k).b)).setCell ⟨w.heap.size, k * 2 + 1, none⟩ (.slice (some ⟨nb, 0, none⟩) (L k) (L k))) := ((hbk2.setCell (Nat.le_refl _) _).setCell (Nat.le_refl _) _)
      have HB := hide (And.intro (hok2.put hlt (by omega) hil hro) hB2)
      clear hok hok2 hbk hbk2 hb2 hB2 q0 q1 hr' hro hil
      go_wp2
      go_roundw
      case rel => exact ⟨k + 1, _, by omega, by go_num, HB.out.1, HB.out.2⟩
      case measure => simp [intOf]; omega
    · go_wp2
      go_ret
      have e : k = n := by omega
      subst e
      exact ⟨_, _, rfl, Nat.le_refl _, hok, hbk⟩

set_option maxHeartbeats 2000000 in
theorem toCache_any (v : Value) (n : Nat) (L : Nat → Nat) (D : Nat → Sm) (w : World) (hs : Cv w v n L D) (hb : n ≤ 1048576) (hL : ∀ c, c < n → L c ≤ 1048576) :
    Calls Try.prog 28 #[.agg #[v]] w fun e w' => ∃ g ib, e = .returned (.agg #[.slice (some ⟨g, 0, none⟩) n n]) ∧ Cg w' w.heap.size (.slice (some ⟨g, 0, none⟩) n n) n L D g ib ∧ Below w.heap.size w w' := by
  have HV := hide hs
  obtain ⟨ad, cap, rfl, _⟩ := hs
  go_enter Try.func28, Try.ntmps28
  go_wp2_with fail
  generalize hW : World.alloc _ _ = W
  have hbW : Below w.heap.size w W := by
    rw [← hW]
    exact (((Below.refl _ _).alloc (Nat.le_refl _) _).alloc (by simp) _).alloc (by simp; omega) _
  have hsz : W.heap.size = w.heap.size + 1 + 1 + 1 := by rw [← hW]; simp
  have k0 : W.heap[w.heap.size + 1]? = some (.cells #[.slice none 0 0] 32 (0, 0)) := by
    rw [← hW, Below.heap_alloc _ _ _ (by simp)]
    have := heap_alloc_new (w.alloc (.cells #[.slice ad n cap] 41)) (.cells #[.slice none 0 0] 32)
    simpa only [World.size_alloc] using this
  have k1 : W.heap[w.heap.size + 1 + 1]? = some (.cells #[.slice none 0 0] 32 (0, 0)) := by
    rw [← hW]
    have := heap_alloc_new ((w.alloc (.cells #[.slice ad n cap] 41)).alloc (.cells #[.slice none 0 0] 32)) (.cells #[.slice none 0 0] 32)
    simpa only [World.size_alloc] using this
  clear hW
  refine (toCSetS_any _ n L D _ (HV.out.below hbW) hb hL).mono ?_
  rintro e w2 ⟨g, ib, rfl, hg, ho, hb2⟩
  have d0 := (hb2.block (w.heap.size + 1) (by omega)).trans k0
  have d1 := (hb2.block (w.heap.size + 1 + 1) (by omega)).trans k1
  have f0 := fun i => frozen_of_row _ _ i _ _ d0
  have f1 := fun i => frozen_of_row _ _ i _ _ d1
  have x0 := cell_of_row _ _ 0 _ _ _ d0
  have y0 := cell_of_row _ _ 0 _ _ _ d1
  simp at x0 y0
  have hB := hbW.trans (hb2.mono hbW.size)
  have HC := hide (ho.cg (B := w.heap.size + 1 + 1 + 1) (by omega))
  have HB := hide hB
  clear hB hb2 ho d0 d1 k0 k1 hbW HV
  go_wp2
  refine bodyPost_ret (v := .agg #[.slice (some ⟨g, 0, none⟩) n n]) (by simp [results, Try.results28, go_sem, x0, y0]) rfl ⟨g, ib, rfl, ?_, ?_⟩
  · have hl := HC.out.lo
    refine Cg.mono (B := w.heap.size + 1 + 1 + 1) ?_ (by omega)
    refine Cg.chg (S := fun j => j < w.heap.size + 1 + 1 + 1) HC.out (((Chg.refl _ _).set (by omega) _).set (by omega) _) (by omega) (fun c hc => by have := hl.2 c hc; omega)
  · exact (HB.out.setCell (by simp; omega) _).setCell (by simp) _

set_option maxHeartbeats 1000000 in
theorem eqWay_same (u : Bool) (a : Int) (w : World) : Calls Try.prog 84 #[.agg #[.bool u, .int .i64 a], .agg #[.bool u, .int .i64 a]] w fun e w' => e = .returned (.bool true) ∧ Below w.heap.size w w' := by
  cases u
  all_goals go_enter Try.func84, Try.ntmps84
  all_goals go_wp2
  all_goals go_ret
  all_goals exact ⟨rfl, ((Below.refl _ _).alloc (Nat.le_refl _) _).alloc (by simp) _⟩

theorem keepC4 {w W W' : World} {p0 p1 p2 p3 : Addr} {x0 x1 x2 x3 : Value} (h : Below w.heap.size w W ∧ W.cell? p0 = some x0 ∧ W.cell? p1 = some x1 ∧ W.cell? p2 = some x2 ∧ W.cell? p3 = some x3) (hb : Below W.heap.size W W') : Below w.heap.size w W' ∧ W'.cell? p0 = some x0 ∧ W'.cell? p1 = some x1 ∧ W'.cell? p2 = some x2 ∧ W'.cell? p3 = some x3 := ⟨h.1.trans (hb.mono h.1.size), keepc hb h.2.1, keepc hb h.2.2.1, keepc hb h.2.2.2.1, keepc hb h.2.2.2.2⟩

set_option maxHeartbeats 4000000 in
theorem eqWayS_same (a b : Value) (n : Nat) (s : Sm) (w : World) (ha : Ws w a n s) (hb : Ws w b n s) (hl : n ≤ 1048576) :
    Calls Try.prog 80 #[a, b] w fun e w' => e = .returned (.bool true) ∧ Below w.heap.size w w' := by
  obtain ⟨ad, cap, rfl, ha⟩ := ha
  obtain ⟨bd, cbp, rfl, hb⟩ := hb
  go_enter Try.func80, Try.ntmps80
  go_wp2
  go_loopw [5] (fun i wr => ∃ k : Nat, k ≤ n ∧ i = .int .i64 k ∧ Below w.heap.size w wr) (fun i _ => n - (intOf i).toNat)
  case atStart => exact ⟨0, Nat.zero_le _, rfl, Below.refl _ _⟩
  case round =>
    obtain ⟨k, hk, rfl, hbk⟩ := hrel
    by_cases hlt : k < n
    · obtain ⟨p, off, rfl, hc⟩ := ha (by omega)
      obtain ⟨q, off', rfl, hd⟩ := hb (by omega)
      have c0 : wr.cell? ⟨p, off + k * 2, none⟩ = some (.bool (s.u k)) := Below.keep hbk _ _ (hc k hlt).1
      have c1 : wr.cell? ⟨p, off + k * 2 + 1, none⟩ = some (.int .i64 (s.a k)) := Below.keep hbk _ _ (hc k hlt).2
      have d0 : wr.cell? ⟨q, off' + k * 2, none⟩ = some (.bool (s.u k)) := Below.keep hbk _ _ (hd k hlt).1
      have d1 : wr.cell? ⟨q, off' + k * 2 + 1, none⟩ = some (.int .i64 (s.a k)) := Below.keep hbk _ _ (hd k hlt).2
      clear hc hd ha hb
      have hk0 : (0 : Int) ≤ (k : Int) := by omega
      have hk1 : (k : Int) < (n : Int) := by omega
      go_wp2
      go_region_held3 (fun w' => Below w.heap.size w w' ∧ w'.cell? ⟨p, off + k * 2, none⟩ = some (.bool (s.u k)) ∧ w'.cell? ⟨p, off + k * 2 + 1, none⟩ = some (.int .i64 (s.a k)) ∧ w'.cell? ⟨q, off' + k * 2, none⟩ = some (.bool (s.u k)) ∧ w'.cell? ⟨q, off' + k * 2 + 1, none⟩ = some (.int .i64 (s.a k))) (first | exact ⟨hbk.drew, c0, c1, d0, d1⟩ | exact keepC4 (by assumption) hbc) (first | (go_at_call 84; refine (eqWay_same _ _ _).mono ?_; rintro e w2 ⟨rfl, hbc⟩))
      all_goals go_wp2
      all_goals rename_i hS
      all_goals go_roundw
      case rel => exact ⟨k + 1, by omega, by go_num, hS.1⟩
      case measure => simp [intOf]; omega
    · go_wp2
      go_ret
      exact ⟨rfl, hbk⟩

set_option maxHeartbeats 1000000 in
theorem eqCSet_same (b : Int) (ia ja : Option Addr) (n ic jc : Nat) (s : Sm) (w : World) (ha : Ws w (.slice ia n ic) n s) (hb : Ws w (.slice ja n jc) n s) (hl : n ≤ 1048576) :
    Calls Try.prog 71 #[.agg #[.int .i64 b, .slice ia n ic], .agg #[.int .i64 b, .slice ja n jc]] w fun e w' => e = .returned (.bool true) ∧ Below w.heap.size w w' := by
  have hB : ∀ o1 o2 : Obj, Below w.heap.size w ((w.alloc o1).alloc o2) := fun o1 o2 => ((Below.refl _ _).alloc (Nat.le_refl _) _).alloc (by simp) _
  go_enter Try.func71, Try.ntmps71
  go_wp2_with fail
  refine (eqWayS_same _ _ n s _ (ha.below (hB _ _)) (hb.below (hB _ _)) hl).mono ?_
  rintro e w2 ⟨rfl, hb2⟩
  have HB := hide ((hB _ _).trans (hb2.mono (hB _ _).size))
  clear hb2 hB ha hb
  go_wp2
  go_ret
  exact ⟨rfl, HB.out⟩

set_option maxHeartbeats 4000000 in
theorem eqCSetS_same (a b : Value) (n : Nat) (L : Nat → Nat) (D : Nat → Sm) (w : World) (ha : Cv w a n L D) (hb : Cv w b n L D) (hl : n ≤ 1048576) (hL : ∀ c, c < n → L c ≤ 1048576) :
    Calls Try.prog 53 #[a, b] w fun e w' => e = .returned (.bool true) ∧ Below w.heap.size w w' := by
  obtain ⟨ad, cap, rfl, ha⟩ := ha
  obtain ⟨bd, cbp, rfl, hb⟩ := hb
  go_enter Try.func53, Try.ntmps53
  go_wp2
  go_loopw [5] (fun i wr => ∃ k : Nat, k ≤ n ∧ i = .int .i64 k ∧ Below w.heap.size w wr) (fun i _ => n - (intOf i).toNat)
  case atStart => exact ⟨0, Nat.zero_le _, rfl, Below.refl _ _⟩
  case round =>
    obtain ⟨k, hk, rfl, hbk⟩ := hrel
    by_cases hlt : k < n
    · obtain ⟨p, off, rfl, hc⟩ := ha (by omega)
      obtain ⟨q, off', rfl, hd⟩ := hb (by omega)
      obtain ⟨ia, ic, c0', c1', ra⟩ := hc k hlt
      obtain ⟨ja, jc, d0', d1', rb⟩ := hd k hlt
      have c0 : wr.cell? ⟨p, off + k * 2, none⟩ = some (.int .i64 (D k).b) := Below.keep hbk _ _ c0'
      have c1 : wr.cell? ⟨p, off + k * 2 + 1, none⟩ = some (.slice ia (L k) ic) := Below.keep hbk _ _ c1'
      have d0 : wr.cell? ⟨q, off' + k * 2, none⟩ = some (.int .i64 (D k).b) := Below.keep hbk _ _ d0'
      have d1 : wr.cell? ⟨q, off' + k * 2 + 1, none⟩ = some (.slice ja (L k) jc) := Below.keep hbk _ _ d1'
      have hk0 : (0 : Int) ≤ (k : Int) := by omega
      have hk1 : (k : Int) < (n : Int) := by omega
      have hLk := hL k hlt
      have RA := hide ra
      have RB := hide rb
      clear hc hd ha hb c0' d0' c1' d1' ra rb hL
      go_wp2
      go_region_held3 (fun w' => Below w.heap.size w w' ∧ w'.cell? ⟨p, off + k * 2, none⟩ = some (.int .i64 (D k).b) ∧ w'.cell? ⟨p, off + k * 2 + 1, none⟩ = some (.slice ia (L k) ic) ∧ w'.cell? ⟨q, off' + k * 2, none⟩ = some (.int .i64 (D k).b) ∧ w'.cell? ⟨q, off' + k * 2 + 1, none⟩ = some (.slice ja (L k) jc)) (first | exact ⟨hbk.drew, c0, c1, d0, d1⟩ | exact keepC4 (by assumption) hbc) (first | (go_at_call 71; refine (eqCSet_same _ _ _ (L k) _ _ (D k) _ ?_ ?_ hLk).mono ?_; exact RA.out.below hbk.drew; exact RB.out.below hbk.drew; rintro e w2 ⟨rfl, hbc⟩))
      all_goals go_wp2
      all_goals rename_i hS
      all_goals go_roundw
      case rel => exact ⟨k + 1, by omega, by go_num, hS.1⟩
      case measure => simp [intOf]; omega
    · go_wp2
      go_ret
      exact ⟨rfl, hbk⟩

set_option maxHeartbeats 1000000 in
theorem eqCache_same (a b : Value) (n : Nat) (L : Nat → Nat) (D : Nat → Sm) (w : World) (ha : Cv w a n L D) (hb : Cv w b n L D) (hl : n ≤ 1048576) (hL : ∀ c, c < n → L c ≤ 1048576) :
    Calls Try.prog 20 #[.agg #[a], .agg #[b]] w fun e w' => e = .returned (.bool true) ∧ Below w.heap.size w w' := by
  have hB : ∀ o1 o2 : Obj, Below w.heap.size w ((w.alloc o1).alloc o2) := fun o1 o2 => ((Below.refl _ _).alloc (Nat.le_refl _) _).alloc (by simp) _
  have HA := hide ha
  have HX := hide hb
  obtain ⟨ad, cap, rfl, _⟩ := ha
  obtain ⟨bd, cbp, rfl, _⟩ := hb
  go_enter Try.func20, Try.ntmps20
  go_wp2_with fail
  refine (eqCSetS_same _ _ n L D _ (HA.out.below (hB _ _)) (HX.out.below (hB _ _)) hl hL).mono ?_
  rintro e w2 ⟨rfl, hb2⟩
  have HB := hide ((hB _ _).trans (hb2.mono (hB _ _).size))
  clear hb2 hB HA HX
  go_wp2
  go_ret
  exact ⟨rfl, HB.out⟩

end Go.Proofs.Ytcbadkljmcpghaa
