/- drawn pairs: two held against one another; a number drawn -/
import Derived.Test.YtplnfddleaoimaaPrN
import Derived.Test.YtplnfddleaoimaaRdE
import Derived.Deep.QuietTactic
import Derived.BigQuiet
namespace Go.Proofs.Ytplnfddleaoimaa
open Go.RowKit
set_option linter.unusedVariables false
set_option linter.unusedSimpArgs false

set_option maxHeartbeats 1000000 in
theorem sameInts_same (a b : Value) (zs : List Int) (w : World) (ha : Sl w a zs) (hb : Sl w b zs) (hl : zs.length ≤ 1048576) :
    Calls Try.prog 22 #[a, b] w fun e w' => e = .returned (.bool true) ∧ Below w.heap.size w w' := by
  obtain ⟨ad, cap, rfl, ha⟩ := ha
  obtain ⟨bd, cbp, rfl, hb⟩ := hb
  obtain ⟨n, hn⟩ : ∃ n, zs.length = n := ⟨_, rfl⟩
  rw [hn] at ha hb hl ⊢
  clear hn
  go_enter Try.func22, Try.ntmps22
  go_wp2
  go_loopw [5] (fun i wr => ∃ k : Nat, k ≤ n ∧ i = .int .i64 k ∧ Below w.heap.size w wr) (fun i _ => n - (intOf i).toNat)
  case atStart => exact ⟨0, Nat.zero_le _, rfl, Below.refl _ _⟩
  case round =>
    obtain ⟨k, hk, rfl, hbk⟩ := hrel
    by_cases hlt : k < n
    · obtain ⟨p, off, rfl, hc⟩ := ha (by omega)
      obtain ⟨q, off', rfl, hd⟩ := hb (by omega)
      have hck : wr.cell? ⟨p, off + k, none⟩ = some (.int .i64 (zs.getD k 0)) := Below.keep hbk _ _ (hc k hlt)
      have hdk : wr.cell? ⟨q, off' + k, none⟩ = some (.int .i64 (zs.getD k 0)) := Below.keep hbk _ _ (hd k hlt)
      generalize zs.getD k 0 = z at hck hdk
      clear hc hd ha hb
      go_wp2
      go_quiet (fail)
      all_goals go_wp2
      all_goals go_roundw
      case rel => exact ⟨k + 1, by omega, by go_num, below_drewN hbk _⟩
      case measure => simp [intOf]; omega
    · go_wp2
      go_ret
      exact ⟨rfl, hbk⟩

set_option maxHeartbeats 2000000 in
theorem samePair_same (L R L' R' : Value) (zl zr : List Int) (lu ru : Bool) (w : World) (hl : Sl w L zl) (hr : Sl w R zr) (hl' : Sl w L' zl) (hr' : Sl w R' zr) (hn : zl.length + zr.length ≤ 1048576) :
    Calls Try.prog 11 #[.agg (pq L R lu ru), .agg (pq L' R' lu ru)] w fun e w' => e = .returned (.bool true) ∧ Below w.heap.size w w' := by
  have H1 := hide (And.intro hl (And.intro hr (And.intro hl' hr')))
  have HN := hide hn
  obtain ⟨ad, ac, rfl, _⟩ := hl
  obtain ⟨bd, bc, rfl, _⟩ := hr
  obtain ⟨cd, cc, rfl, _⟩ := hl'
  obtain ⟨dd, dc, rfl, _⟩ := hr'
  have HE := two_boxes w (pq (.slice ad zl.length ac) (.slice bd zr.length bc) lu ru) (pq (.slice cd zl.length cc) (.slice dd zr.length dc) lu ru) 26 26
  clear hn
  go_enter Try.func11, Try.ntmps11
  go_wp2_with fail
  generalize hW : (World.alloc (World.alloc _ _) _) = W
  obtain ⟨p1, p2, hB0, hsz⟩ := HE.out W hW
  clear HE hW
  refine (sameInts_same _ _ zl _ (H1.out.1.below hB0) (H1.out.2.2.1.below hB0) (by have := HN.out; omega)).mono ?_
  rintro e w2 ⟨rfl, hb2⟩
  obtain ⟨_, x0, x1, x2, x3⟩ := row4_facts ((hb2.block _ (by omega)).trans p1)
  obtain ⟨_, y0, y1, y2, y3⟩ := row4_facts ((hb2.block _ (by omega)).trans p2)
  have hB2 := hB0.trans (hb2.mono hB0.size)
  clear p1 p2 hB0 hb2
  go_wp2_with fail
  refine (sameInts_same _ _ zr _ (H1.out.2.1.below hB2) (H1.out.2.2.2.below hB2) (by have := HN.out; omega)).mono ?_
  rintro e w3 ⟨rfl, hb3⟩
  have HW := hide (hB2.trans (hb3.mono hB2.size))
  clear hb3 hB2 H1 x0 x1 y0 y1 x2 x3 y2 y3
  go_wp2
  go_ret
  exact ⟨rfl, HW.out⟩

set_option maxHeartbeats 1000000 in
theorem drawPairNew_any (ad : Option Addr) (n cap : Nat) (w : World) (hb : Bt w ad n) (hn : n ≤ 1048576) :
    Calls Try.prog 23 #[.slice ad n cap] w fun e w' => ∃ z : Int, e = .returned (.int .i64 z) ∧ Below w.heap.size w w' := by
  go_enter Try.func23, Try.ntmps23
  go_wp2_with fail
  refine (open_any ad n cap _ hb hn).mono ?_
  rintro e w1 ⟨g, rfl, hg1, hr1, hb1⟩
  clear hb
  go_wp2_with fail
  refine (off_any g 1 4 _ hr1 (by omega) (by omega) (by omega)).mono ?_
  rintro e w2 ⟨z, rfl, hr2, hg2⟩
  have HB := hide (below_read hb1 hg2 hg1 hb1.size)
  clear hr1 hb1 hg2 hr2
  go_wp2
  go_ret
  exact ⟨_, rfl, HB.out⟩

/-- what is known of n noughts -/
theorem new_ok (n : Nat) (h1 : 1 ≤ n) (h4 : n ≤ 4) : pairB (List.replicate n 0) (List.replicate n 0) true true = true := by
  rw [pairB_tt, inB15]
  have ha : allV (List.replicate n 0) = true := decide_eq_true (fun j hj => by simp [inB, List.getD_eq_getElem?_getD, List.getElem?_replicate]; split <;> simp)
  rw [ha]
  simp
  omega
theorem new_in (n k : Nat) (h1 : 1 ≤ n) (h4 : n ≤ 4) (hk : k < n) : rRead (List.replicate n 0) (List.replicate n 0) true true k = .tuple #[.int .i64 0, .bool true] := by
  have hq : kRead (List.replicate n 0) (List.replicate n 0) true true k = true := by
    unfold kRead
    rw [new_ok n h1 h4]
    simp [inB]; omega
  unfold rRead
  rw [hq]
  have hv : vRead (List.replicate n 0) (List.replicate n 0) true k = 0 := by simp [vRead, List.getD_eq_getElem?_getD, List.getElem?_replicate, hk]
  rw [hv]
  rfl
theorem new_out (n : Nat) : rRead (List.replicate n 0) (List.replicate n 0) true true n = .tuple #[.int .i64 0, .bool false] := by
  have hq : kRead (List.replicate n 0) (List.replicate n 0) true true n = false := by
    unfold kRead
    have : inB (n : Int) 0 ((max (List.replicate n (0 : Int)).length (List.replicate n (0 : Int)).length : Nat) : Int) = false := by simp [inB]
    rw [this, Bool.and_false]
  unfold rRead
  rw [hq]
  rfl

end Go.Proofs.Ytplnfddleaoimaa
