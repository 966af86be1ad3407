/- Proved: for every code, of whatever length, laws.FnPairWrites returns true and leaves its argument as it read. No condition. -/
import Derived.Test.YtplnfddleaoimaaRows
import Derived.Test.YtplnfddleaoimaaPdD
import Derived.Test.YtplnfddleaoimaaPrP
import Derived.WalkKit
import Derived.ProofKit
import Derived.OpenShut
import Derived.ShutString
import Derived.ChangeOld
import Derived.Below
import Derived.OpenVars
namespace Go.Proofs.Ytplnfddleaoimaa.fnPairWrites
open Go.ChangeShapes Go.WideShapes Go.ChangeAt Go.WideMaps Go.WideElems Go.RowKit
set_option linter.unusedVariables false
set_option linter.unusedSimpArgs false

theorem own : ownKnob Try.prog.godebug = none := by kernel_rfl
theorem laidOut : laidOutB Try.prog = true := by kernel_rfl

def IsRow (k : IntKind) (w : World) (a : Option Addr) (len cap : Nat) (zs : List Int) : Prop :=
  (a = none ∧ len = 0 ∧ cap = 0 ∧ zs = []) ∨
  ∃ x, a = some x ∧ len ≤ cap ∧ cap ≤ maxLen ∧ zs.length = cap ∧ (∀ i, i < zs.length → w.cell? (x.add i) = some (.int k (zs.getD i 0))) ∧ ∀ n ∈ zs, (Lit.int k n).wf = true

theorem row_bt {w : World} {a : Option Addr} {len cap : Nat} {z : List Int} (h : IsRow .u8 w a len cap z) : Bt w a len := by
  intro h0
  rcases h with ⟨rfl, rfl, rfl, rfl⟩ | ⟨x, rfl, hl, hm, hz, hcell, hwf⟩
  · exact absurd h0 (by simp)
  · obtain ⟨b, off, spot⟩ := x
    have hc := hcell 0 (by omega)
    have hspot : spot = none := by simpa [Addr.add] using World.cell?_spot hc
    subst hspot
    refine ⟨b, off, rfl, fun j hj => ?_⟩
    have hcj := hcell j (by omega)
    rw [addr_add] at hcj
    have hj' : j < z.length := by omega
    have e : z.getD j 0 = z[j] := by simp [hj']
    have hw := bounds_u8 (hwf z[j] (List.getElem_mem hj'))
    exact ⟨z.getD j 0, by rw [e]; exact hw.1, by rw [e]; exact hw.2, hcj⟩

set_option maxHeartbeats 16000000 in
set_option maxRecDepth 20000 in
theorem walk (a0 : Option Addr) (len0 cap0 : Nat) (w : World) (hs : Bt w a0 len0) :
    Calls Try.prog 3 #[.slice a0 len0 cap0] w fun e w' => e = .returned (.bool true) ∧ Below w.heap.size w w' := by
  by_cases hbig : (1048576 : Int) < (len0 : Int)
  · go_enter Try.func3, Try.ntmps3
    go_wp2
    go_ret
    exact ⟨rfl, Below.refl _ _⟩
  have hb : len0 ≤ 1048576 := by omega
  have HB : Hid (Below w.heap.size w w) := hide (Below.refl _ _)
  go_enter Try.func3, Try.ntmps3
  go_wp2_with (first | (go_at_call 7; go_in) | fail)
  refine (drawPairWrite_any a0 len0 cap0 _ hs hb).mono ?_
  clear hb
  rintro e w1 ⟨ap, acp, bp, bcp, zl, zr, lu, ru, line, value, rfl, P, hlen, hb⟩
  clear hs
  have HL := hide hlen
  clear hlen
  have hA : Below w1.heap.size w1 (w1.alloc (.cells (pq (.slice ap zl.length acp) (.slice bp zr.length bcp) lu ru) 26)) := (Below.refl _ _).alloc (Nat.le_refl _) _
  have hq := hb.trans (hA.mono hb.size)
  replace HB := hide (HB.out.trans (hq.mono HB.out.size))
  have HPp := hide (P.below hA)
  have HXp := hide (bx4 w1 (.slice ap zl.length acp) (.slice bp zr.length bcp) (.bool lu) (.bool ru) 26)
  clear P hb hA hq
  have hI := fun W h h' => implWrite_any (.slice ap zl.length acp) (.slice bp zr.length bcp) zl zr lu ru line value W h h' (by have := HL.out; omega)
  have hS := fun W h h' => specWrite_any (.slice ap zl.length acp) (.slice bp zr.length bcp) zl zr lu ru line value W h h' (by have := HL.out; omega)
  have hOp := fun W h h' => implPairOk_any (.slice ap zl.length acp) (.slice bp zr.length bcp) zl zr lu ru W h h' (by have := HL.out; omega)
  have hSp := fun W h h' => specPairOk_any (.slice ap zl.length acp) (.slice bp zr.length bcp) zl zr lu ru W h h' (by have := HL.out; omega)
  by_cases hk : kWrite zl zr lu ru line value = true
  · have hp : pairB zl zr lu ru = true := by unfold kWrite at hk; simp only [Bool.and_eq_true] at hk; exact hk.1.1
    obtain ⟨nl, nr, f1, f2, f3, f4, f5⟩ := write_facts hk
    rw [f1] at hI hS
    delta Post at hI hS
    dsimp only at hI hS
    rw [hp] at hOp hSp
    have hRp := fun A B i W h h' => implRead_any A B zl zr lu ru i W h h' (by have := HL.out; omega)
    have hRn := fun A B i W h h' => implRead_any A B nl nr lu ru i W h h' (by omega)
    have hOn := fun A B W h h' => implPairOk_any A B nl nr lu ru W h h' (by omega)
    rw [f4] at hOn
    have HF5 := hide f5
    have HN := hide (And.intro f2 f3)
    clear f1 f2 f3 f4 f5 hk hp
    obtain ⟨xp0, xp1, xp2, xp3⟩ := HXp.out
    go_wp2_with fail
    refine (hI _ HPp.out.l.sl HPp.out.r.sl).mono ?_
    rintro e w2 ⟨an, acn, bn, bcn, rfl, P, hb⟩
    clear xp0 xp1 xp2 xp3
    have hA : Below w2.heap.size w2 (w2.alloc (.cells (pq (.slice an nl.length acn) (.slice bn nr.length bcn) lu ru) 26)) := (Below.refl _ _).alloc (Nat.le_refl _) _
    have hq := hb.trans (hA.mono hb.size)
    replace HXp := hide (HXp.out.below hq)
    replace HPp := hide (HPp.out.below hq)
    replace HB := hide (HB.out.trans (hq.mono HB.out.size))
    have HPn := hide (P.below hA)
    have HXn := hide (bx4 w2 (.slice an nl.length acn) (.slice bn nr.length bcn) (.bool lu) (.bool ru) 26)
    clear P hb hA hq
    obtain ⟨xp0, xp1, xp2, xp3⟩ := HXp.out
    go_wp2_with fail
    refine (hS _ HPp.out.l.sl HPp.out.r.sl).mono ?_
    rintro e w3 ⟨aw, acw, bw, bcw, rfl, P, hb⟩
    clear xp0 xp1 xp2 xp3
    have hA : Below w3.heap.size w3 (w3.alloc (.cells (pq (.slice aw nl.length acw) (.slice bw nr.length bcw) lu ru) 26)) := (Below.refl _ _).alloc (Nat.le_refl _) _
    have hq := hb.trans (hA.mono hb.size)
    replace HXp := hide (HXp.out.below hq)
    replace HXn := hide (HXn.out.below hq)
    replace HPp := hide (HPp.out.below hq)
    replace HPn := hide (HPn.out.below hq)
    replace HB := hide (HB.out.trans (hq.mono HB.out.size))
    have HPw := hide (P.below hA)
    have HXw := hide (bx4 w3 (.slice aw nl.length acw) (.slice bw nr.length bcw) (.bool lu) (.bool ru) 26)
    clear P hb hA hq
    clear hI hS
    obtain ⟨xp0, xp1, xp2, xp3⟩ := HXp.out
    obtain ⟨xn0, xn1, xn2, xn3⟩ := HXn.out
    obtain ⟨xw0, xw1, xw2, xw3⟩ := HXw.out
    go_wp2
    refine wp_region_held_drew (S := fun w' => Below ((w3.alloc (.cells (pq (.slice aw nl.length acw) (.slice bw nr.length bcw) lu ru) 26))).heap.size ((w3.alloc (.cells (pq (.slice aw nl.length acw) (.slice bw nr.length bcw) lu ru) 26))) w') (by kernel_rfl) ((Below.refl _ _).drew) (fun hHeld => ?_)
    refine wpAnyH_take (i := 0) (v := .bool true) rfl (by kernel_rfl) (by kernel_rfl) (by kernel_rfl) (fun _ _ _ h => h) (Or.inl ⟨by rfl, fun w' hSw => ?_⟩) (by assumption) ?_
    · (try dsimp only at hSw); go_simp
    try simp only [Act.put, List.getElem_toArray, List.getElem_cons_zero, List.getElem_cons_succ, List.setIfInBounds_toArray, List.set_cons_zero, List.set_cons_succ]
    refine wpAnyH_take (i := 1) (v := .bool true) rfl (by kernel_rfl) (by kernel_rfl) (by kernel_rfl) (fun _ _ _ h => h) (Or.inl ⟨by rfl, fun w' hSw => ?_⟩) (by assumption) ?_
    · (try dsimp only at hSw); go_simp
    try simp only [Act.put, List.getElem_toArray, List.getElem_cons_zero, List.getElem_cons_succ, List.setIfInBounds_toArray, List.set_cons_zero, List.set_cons_succ]
    refine wpAnyH_take (i := 2) (v := .bool false) rfl (by kernel_rfl) (by kernel_rfl) (by kernel_rfl) (fun _ _ _ h => h) (Or.inl ⟨by rfl, fun w' hSw => ?_⟩) (by assumption) ?_
    · (try dsimp only at hSw); go_simp
    try simp only [Act.put, List.getElem_toArray, List.getElem_cons_zero, List.getElem_cons_succ, List.setIfInBounds_toArray, List.set_cons_zero, List.set_cons_succ]
    refine wpAnyH_take (i := 3) (v := .bool false) rfl (by kernel_rfl) (by kernel_rfl) (by kernel_rfl) (fun _ _ _ h => h) (Or.inl ⟨by rfl, fun w' hSw => ?_⟩) (by assumption) ?_
    · (try dsimp only at hSw); go_simp
    try simp only [Act.put, List.getElem_toArray, List.getElem_cons_zero, List.getElem_cons_succ, List.setIfInBounds_toArray, List.set_cons_zero, List.set_cons_succ]
    refine wpAnyH_take (i := 4) (v := .agg (pq (.slice an nl.length acn) (.slice bn nr.length bcn) lu ru)) rfl (by kernel_rfl) (by kernel_rfl) (by kernel_rfl) (fun _ _ _ h => h) (Or.inl ⟨by rfl, fun w' hSw => ?_⟩) (by assumption) ?_
    · (try dsimp only at hSw); have z0 := keepc hSw xp0; have z1 := keepc hSw xp1; have z2 := keepc hSw xp2; have z3 := keepc hSw xp3; have z4 := keepc hSw xn0; have z5 := keepc hSw xn1; have z6 := keepc hSw xn2; have z7 := keepc hSw xn3; have z8 := keepc hSw xw0; have z9 := keepc hSw xw1; have z10 := keepc hSw xw2; have z11 := keepc hSw xw3; go_simp
    try simp only [Act.put, List.getElem_toArray, List.getElem_cons_zero, List.getElem_cons_succ, List.setIfInBounds_toArray, List.set_cons_zero, List.set_cons_succ]
    refine wpAnyH_take (i := 5) (v := .agg (pq (.slice aw nl.length acw) (.slice bw nr.length bcw) lu ru)) rfl (by kernel_rfl) (by kernel_rfl) (by kernel_rfl) (fun _ _ _ h => h) (Or.inl ⟨by rfl, fun w' hSw => ?_⟩) (by assumption) ?_
    · (try dsimp only at hSw); have z0 := keepc hSw xp0; have z1 := keepc hSw xp1; have z2 := keepc hSw xp2; have z3 := keepc hSw xp3; have z4 := keepc hSw xn0; have z5 := keepc hSw xn1; have z6 := keepc hSw xn2; have z7 := keepc hSw xn3; have z8 := keepc hSw xw0; have z9 := keepc hSw xw1; have z10 := keepc hSw xw2; have z11 := keepc hSw xw3; go_simp
    try simp only [Act.put, List.getElem_toArray, List.getElem_cons_zero, List.getElem_cons_succ, List.setIfInBounds_toArray, List.set_cons_zero, List.set_cons_succ]
    refine wpAnyH_ready (rs := [6]) (by kernel_rfl) (by simp) ?_
    refine AllReadyH.cons rfl (fun K hK => ?_) AllReadyH.nil
    go_simp
    refine (samePair_same _ _ _ _ nl nr lu ru _ (HPn.out.below hHeld).l.sl (HPn.out.below hHeld).r.sl (HPw.out.below hHeld).l.sl (HPw.out.below hHeld).r.sl (by have := HN.out; omega)).mono ?_
    rintro e wc6 ⟨rfl, hbc⟩
    refine hK.out _ _ (hHeld.trans (hbc.mono hHeld.size)) (fun hHeld => ?_)
    clear hK K hbc
    try simp only [Act.put, List.getElem_toArray, List.getElem_cons_zero, List.getElem_cons_succ, List.setIfInBounds_toArray, List.set_cons_zero, List.set_cons_succ]
    refine wpAnyH_take (i := 7) (v := .bool false) rfl (by kernel_rfl) (by kernel_rfl) (by kernel_rfl) (fun _ _ _ h => h) (Or.inl ⟨by rfl, fun w' hSw => ?_⟩) (by assumption) ?_
    · (try dsimp only at hSw); go_simp
    try simp only [Act.put, List.getElem_toArray, List.getElem_cons_zero, List.getElem_cons_succ, List.setIfInBounds_toArray, List.set_cons_zero, List.set_cons_succ]
    refine wpAnyH_take (i := 8) (v := .bool false) rfl (by kernel_rfl) (by kernel_rfl) (by kernel_rfl) (fun _ _ _ h => h) (Or.inl ⟨by rfl, fun w' hSw => ?_⟩) (by assumption) ?_
    · (try dsimp only at hSw); go_simp
    try simp only [Act.put, List.getElem_toArray, List.getElem_cons_zero, List.getElem_cons_succ, List.setIfInBounds_toArray, List.set_cons_zero, List.set_cons_succ]
    refine wpAnyH_take (i := 9) (v := .bool false) rfl (by kernel_rfl) (by kernel_rfl) (by kernel_rfl) (fun _ _ _ h => h) (Or.inl ⟨by rfl, fun w' hSw => ?_⟩) (by assumption) ?_
    · (try dsimp only at hSw); go_simp
    try simp only [Act.put, List.getElem_toArray, List.getElem_cons_zero, List.getElem_cons_succ, List.setIfInBounds_toArray, List.set_cons_zero, List.set_cons_succ]
    refine wpAnyH_take (i := 10) (v := .agg (pq (.slice ap zl.length acp) (.slice bp zr.length bcp) lu ru)) rfl (by kernel_rfl) (by kernel_rfl) (by kernel_rfl) (fun _ _ _ h => h) (Or.inl ⟨by rfl, fun w' hSw => ?_⟩) (by assumption) ?_
    · (try dsimp only at hSw); have z0 := keepc hSw xp0; have z1 := keepc hSw xp1; have z2 := keepc hSw xp2; have z3 := keepc hSw xp3; have z4 := keepc hSw xn0; have z5 := keepc hSw xn1; have z6 := keepc hSw xn2; have z7 := keepc hSw xn3; have z8 := keepc hSw xw0; have z9 := keepc hSw xw1; have z10 := keepc hSw xw2; have z11 := keepc hSw xw3; go_simp
    try simp only [Act.put, List.getElem_toArray, List.getElem_cons_zero, List.getElem_cons_succ, List.setIfInBounds_toArray, List.set_cons_zero, List.set_cons_succ]
    refine wpAnyH_take (i := 12) (v := .agg (pq (.slice ap zl.length acp) (.slice bp zr.length bcp) lu ru)) rfl (by kernel_rfl) (by kernel_rfl) (by kernel_rfl) (fun _ _ _ h => h) (Or.inl ⟨by rfl, fun w' hSw => ?_⟩) (by assumption) ?_
    · (try dsimp only at hSw); have z0 := keepc hSw xp0; have z1 := keepc hSw xp1; have z2 := keepc hSw xp2; have z3 := keepc hSw xp3; have z4 := keepc hSw xn0; have z5 := keepc hSw xn1; have z6 := keepc hSw xn2; have z7 := keepc hSw xn3; have z8 := keepc hSw xw0; have z9 := keepc hSw xw1; have z10 := keepc hSw xw2; have z11 := keepc hSw xw3; go_simp
    try simp only [Act.put, List.getElem_toArray, List.getElem_cons_zero, List.getElem_cons_succ, List.setIfInBounds_toArray, List.set_cons_zero, List.set_cons_succ]
    refine wpAnyH_ready (rs := [11]) (by kernel_rfl) (by simp) ?_
    refine AllReadyH.cons rfl (fun K hK => ?_) AllReadyH.nil
    go_simp
    refine (hOp _ (HPp.out.below hHeld).l.sl (HPp.out.below hHeld).r.sl).mono ?_
    rintro e wc11 ⟨rfl, hbc⟩
    refine hK.out _ _ (hHeld.trans (hbc.mono hHeld.size)) (fun hHeld => ?_)
    clear hK K hbc
    try simp only [Act.put, List.getElem_toArray, List.getElem_cons_zero, List.getElem_cons_succ, List.setIfInBounds_toArray, List.set_cons_zero, List.set_cons_succ]
    refine wpAnyH_ready (rs := [13]) (by kernel_rfl) (by simp) ?_
    refine AllReadyH.cons rfl (fun K hK => ?_) AllReadyH.nil
    go_simp
    refine (hSp _ (HPp.out.below hHeld).l.sl (HPp.out.below hHeld).r.sl).mono ?_
    rintro e wc13 ⟨rfl, hbc⟩
    refine hK.out _ _ (hHeld.trans (hbc.mono hHeld.size)) (fun hHeld => ?_)
    clear hK K hbc
    try simp only [Act.put, List.getElem_toArray, List.getElem_cons_zero, List.getElem_cons_succ, List.setIfInBounds_toArray, List.set_cons_zero, List.set_cons_succ]
    refine wpAnyH_take (i := 14) (v := .bool false) rfl (by kernel_rfl) (by kernel_rfl) (by kernel_rfl) (fun _ _ _ h => h) (Or.inl ⟨by rfl, fun w' hSw => ?_⟩) (by assumption) ?_
    · (try dsimp only at hSw); go_simp
    try simp only [Act.put, List.getElem_toArray, List.getElem_cons_zero, List.getElem_cons_succ, List.setIfInBounds_toArray, List.set_cons_zero, List.set_cons_succ]
    refine wpAnyH_take (i := 15) (v := .bool false) rfl (by kernel_rfl) (by kernel_rfl) (by kernel_rfl) (fun _ _ _ h => h) (Or.inl ⟨by rfl, fun w' hSw => ?_⟩) (by assumption) ?_
    · (try dsimp only at hSw); go_simp
    try simp only [Act.put, List.getElem_toArray, List.getElem_cons_zero, List.getElem_cons_succ, List.setIfInBounds_toArray, List.set_cons_zero, List.set_cons_succ]
    refine wpAnyH_take (i := 16) (v := .bool false) rfl (by kernel_rfl) (by kernel_rfl) (by kernel_rfl) (fun _ _ _ h => h) (Or.inl ⟨by rfl, fun w' hSw => ?_⟩) (by assumption) ?_
    · (try dsimp only at hSw); go_simp
    try simp only [Act.put, List.getElem_toArray, List.getElem_cons_zero, List.getElem_cons_succ, List.setIfInBounds_toArray, List.set_cons_zero, List.set_cons_succ]
    refine wpAnyH_take (i := 17) (v := .bool true) rfl (by kernel_rfl) (by kernel_rfl) (by kernel_rfl) (fun _ _ _ h => h) (Or.inl ⟨by rfl, fun w' hSw => ?_⟩) (by assumption) ?_
    · (try dsimp only at hSw); go_simp
    try simp only [Act.put, List.getElem_toArray, List.getElem_cons_zero, List.getElem_cons_succ, List.setIfInBounds_toArray, List.set_cons_zero, List.set_cons_succ]
    refine wpAnyH_take (i := 18) (v := .bool false) rfl (by kernel_rfl) (by kernel_rfl) (by kernel_rfl) (fun _ _ _ h => h) (Or.inl ⟨by rfl, fun w' hSw => ?_⟩) (by assumption) ?_
    · (try dsimp only at hSw); go_simp
    try simp only [Act.put, List.getElem_toArray, List.getElem_cons_zero, List.getElem_cons_succ, List.setIfInBounds_toArray, List.set_cons_zero, List.set_cons_succ]
    refine wpAnyH_take (i := 19) (v := .bool false) rfl (by kernel_rfl) (by kernel_rfl) (by kernel_rfl) (fun _ _ _ h => h) (Or.inl ⟨by rfl, fun w' hSw => ?_⟩) (by assumption) ?_
    · (try dsimp only at hSw); go_simp
    try simp only [Act.put, List.getElem_toArray, List.getElem_cons_zero, List.getElem_cons_succ, List.setIfInBounds_toArray, List.set_cons_zero, List.set_cons_succ]
    refine wpAnyH_done (by kernel_rfl) ?_ _
    clear xp0 xp1 xp2 xp3 xn0 xn1 xn2 xn3 xw0 xw1 xw2 xw3
    replace HXp := hide (HXp.out.below hHeld)
    replace HXn := hide (HXn.out.below hHeld)
    replace HXw := hide (HXw.out.below hHeld)
    replace HPp := hide (HPp.out.below hHeld)
    replace HPn := hide (HPn.out.below hHeld)
    replace HPw := hide (HPw.out.below hHeld)
    replace HB := hide (HB.out.trans (hHeld.mono HB.out.size))
    clear hHeld hOp hSp HXw HPw
    go_wp2
    go_loopw [10] (fun i wr => ∃ j : Nat, j ≤ 4 ∧ i = .int .i64 j ∧ Hid (Below wc13.heap.size wc13 wr)) (fun i _ => 4 - (intOf i).toNat)
    case atStart => exact ⟨0, Nat.zero_le _, rfl, hide (Below.refl _ _)⟩
    case round =>
      obtain ⟨j, hj, rfl, HR⟩ := hrel
      replace HXp := hide (HXp.out.below HR.out)
      replace HXn := hide (HXn.out.below HR.out)
      replace HPp := hide (HPp.out.below HR.out)
      replace HPn := hide (HPn.out.below HR.out)
      replace HB := hide (HB.out.trans (HR.out.mono HB.out.size))
      by_cases hlt : j < 4
      · obtain ⟨x, y, o, h1, h2, h3, h4⟩ := HF5.out j
        have r1 := fun A B W h h' => hRp A B j W h h'
        have r2 := fun A B W h h' => hRn A B j W h h'
        rw [h1] at r1
        rw [h2] at r2
        have H34 := hide (And.intro h3 h4)
        clear h1 h2 h3 h4 hRp hRn hOn HF5
        have HB0 := HR
        obtain ⟨xp0, xp1, xp2, xp3⟩ := HXp.out
        go_wp2_with fail
        refine (r1 _ _ _ HPp.out.l.sl HPp.out.r.sl).mono ?_
        rintro e w4 ⟨rfl, hb⟩
        clear xp0 xp1 xp2 xp3
        replace HXp := hide (HXp.out.below hb)
        replace HXn := hide (HXn.out.below hb)
        replace HPp := hide (HPp.out.below hb)
        replace HPn := hide (HPn.out.below hb)
        replace HB := hide (HB.out.trans (hb.mono HB.out.size))
        replace HB0 := hide (HB0.out.trans (hb.mono HB0.out.size))
        clear hb
        obtain ⟨xn0, xn1, xn2, xn3⟩ := HXn.out
        go_wp2_with fail
        refine (r2 _ _ _ HPn.out.l.sl HPn.out.r.sl).mono ?_
        rintro e w5 ⟨rfl, hb⟩
        clear xn0 xn1 xn2 xn3
        replace HXp := hide (HXp.out.below hb)
        replace HXn := hide (HXn.out.below hb)
        replace HPp := hide (HPp.out.below hb)
        replace HPn := hide (HPn.out.below hb)
        replace HB := hide (HB.out.trans (hb.mono HB.out.size))
        replace HB0 := hide (HB0.out.trans (hb.mono HB0.out.size))
        clear hb
        clear r1 r2
        by_cases hjl : (j : Int) = line
        · cases o with
          | true =>
            have e := H34.out.1 rfl hjl
            subst hjl
            subst e
            clear H34
            go_wp2
            go_roundw
            case rel => exact ⟨j + 1, by omega, by go_num, HB0⟩
            case measure => simp [intOf]; omega
          | false =>
            subst hjl
            clear H34
            go_wp2
            go_roundw
            case rel => exact ⟨j + 1, by omega, by go_num, HB0⟩
            case measure => simp [intOf]; omega
        · have hjb : ((j : Int) == line) = false := by simpa using hjl
          cases o with
          | true =>
            have e := H34.out.2 rfl hjl
            subst e
            clear H34
            go_wp2
            go_roundw
            case rel => exact ⟨j + 1, by omega, by go_num, HB0⟩
            case measure => simp [intOf]; omega
          | false =>
            clear H34
            go_wp2
            go_roundw
            case rel => exact ⟨j + 1, by omega, by go_num, HB0⟩
            case measure => simp [intOf]; omega
      · have e : j = 4 := by omega
        subst e
        obtain ⟨xn0, xn1, xn2, xn3⟩ := HXn.out
        go_wp2_with fail
        refine (hOn _ _ _ HPn.out.l.sl HPn.out.r.sl).mono ?_
        rintro e w4 ⟨rfl, hb⟩
        clear xn0 xn1 xn2 xn3
        replace HXp := hide (HXp.out.below hb)
        replace HXn := hide (HXn.out.below hb)
        replace HPp := hide (HPp.out.below hb)
        replace HPn := hide (HPn.out.below hb)
        replace HB := hide (HB.out.trans (hb.mono HB.out.size))
        clear hb
        go_wp2
        go_ret
        exact ⟨rfl, HB.out⟩
  · rw [write_no hk] at hI hS
    delta Post PA.no at hI hS
    dsimp only [List.length_nil] at hI hS
    clear hk
    generalize pairB zl zr lu ru = pb at hOp hSp
    obtain ⟨xp0, xp1, xp2, xp3⟩ := HXp.out
    go_wp2_with fail
    refine (hI _ HPp.out.l.sl HPp.out.r.sl).mono ?_
    rintro e w2 ⟨an, acn, bn, bcn, rfl, P, hb⟩
    clear xp0 xp1 xp2 xp3
    have hA : Below w2.heap.size w2 (w2.alloc (.cells (pq (.slice an 0 acn) (.slice bn 0 bcn) false false) 26)) := (Below.refl _ _).alloc (Nat.le_refl _) _
    have hq := hb.trans (hA.mono hb.size)
    replace HXp := hide (HXp.out.below hq)
    replace HPp := hide (HPp.out.below hq)
    replace HB := hide (HB.out.trans (hq.mono HB.out.size))
    have HPn := hide (P.below hA)
    have HXn := hide (bx4 w2 (.slice an 0 acn) (.slice bn 0 bcn) (.bool false) (.bool false) 26)
    clear P hb hA hq
    obtain ⟨xp0, xp1, xp2, xp3⟩ := HXp.out
    go_wp2_with fail
    refine (hS _ HPp.out.l.sl HPp.out.r.sl).mono ?_
    rintro e w3 ⟨aw, acw, bw, bcw, rfl, P, hb⟩
    clear xp0 xp1 xp2 xp3
    have hA : Below w3.heap.size w3 (w3.alloc (.cells (pq (.slice aw 0 acw) (.slice bw 0 bcw) false false) 26)) := (Below.refl _ _).alloc (Nat.le_refl _) _
    have hq := hb.trans (hA.mono hb.size)
    replace HXp := hide (HXp.out.below hq)
    replace HXn := hide (HXn.out.below hq)
    replace HPp := hide (HPp.out.below hq)
    replace HPn := hide (HPn.out.below hq)
    replace HB := hide (HB.out.trans (hq.mono HB.out.size))
    have HPw := hide (P.below hA)
    have HXw := hide (bx4 w3 (.slice aw 0 acw) (.slice bw 0 bcw) (.bool false) (.bool false) 26)
    clear P hb hA hq
    clear hI hS
    cases pb with
    | false =>
      obtain ⟨xp0, xp1, xp2, xp3⟩ := HXp.out
      obtain ⟨xn0, xn1, xn2, xn3⟩ := HXn.out
      obtain ⟨xw0, xw1, xw2, xw3⟩ := HXw.out
      go_wp2
      refine wp_region_held_drew (S := fun w' => Below ((w3.alloc (.cells (pq (.slice aw 0 acw) (.slice bw 0 bcw) false false) 26))).heap.size ((w3.alloc (.cells (pq (.slice aw 0 acw) (.slice bw 0 bcw) false false) 26))) w') (by kernel_rfl) ((Below.refl _ _).drew) (fun hHeld => ?_)
      refine wpAnyH_take (i := 0) (v := .bool false) rfl (by kernel_rfl) (by kernel_rfl) (by kernel_rfl) (fun _ _ _ h => h) (Or.inl ⟨by rfl, fun w' hSw => ?_⟩) (by assumption) ?_
      · (try dsimp only at hSw); go_simp
      try simp only [Act.put, List.getElem_toArray, List.getElem_cons_zero, List.getElem_cons_succ, List.setIfInBounds_toArray, List.set_cons_zero, List.set_cons_succ]
      refine wpAnyH_take (i := 1) (v := .bool false) rfl (by kernel_rfl) (by kernel_rfl) (by kernel_rfl) (fun _ _ _ h => h) (Or.inl ⟨by rfl, fun w' hSw => ?_⟩) (by assumption) ?_
      · (try dsimp only at hSw); go_simp
      try simp only [Act.put, List.getElem_toArray, List.getElem_cons_zero, List.getElem_cons_succ, List.setIfInBounds_toArray, List.set_cons_zero, List.set_cons_succ]
      refine wpAnyH_take (i := 2) (v := .bool false) rfl (by kernel_rfl) (by kernel_rfl) (by kernel_rfl) (fun _ _ _ h => h) (Or.inl ⟨by rfl, fun w' hSw => ?_⟩) (by assumption) ?_
      · (try dsimp only at hSw); go_simp
      try simp only [Act.put, List.getElem_toArray, List.getElem_cons_zero, List.getElem_cons_succ, List.setIfInBounds_toArray, List.set_cons_zero, List.set_cons_succ]
      refine wpAnyH_take (i := 3) (v := .bool false) rfl (by kernel_rfl) (by kernel_rfl) (by kernel_rfl) (fun _ _ _ h => h) (Or.inl ⟨by rfl, fun w' hSw => ?_⟩) (by assumption) ?_
      · (try dsimp only at hSw); go_simp
      try simp only [Act.put, List.getElem_toArray, List.getElem_cons_zero, List.getElem_cons_succ, List.setIfInBounds_toArray, List.set_cons_zero, List.set_cons_succ]
      refine wpAnyH_take (i := 4) (v := .agg (pq (.slice an 0 acn) (.slice bn 0 bcn) false false)) rfl (by kernel_rfl) (by kernel_rfl) (by kernel_rfl) (fun _ _ _ h => h) (Or.inl ⟨by rfl, fun w' hSw => ?_⟩) (by assumption) ?_
      · (try dsimp only at hSw); have z0 := keepc hSw xp0; have z1 := keepc hSw xp1; have z2 := keepc hSw xp2; have z3 := keepc hSw xp3; have z4 := keepc hSw xn0; have z5 := keepc hSw xn1; have z6 := keepc hSw xn2; have z7 := keepc hSw xn3; have z8 := keepc hSw xw0; have z9 := keepc hSw xw1; have z10 := keepc hSw xw2; have z11 := keepc hSw xw3; go_simp
      try simp only [Act.put, List.getElem_toArray, List.getElem_cons_zero, List.getElem_cons_succ, List.setIfInBounds_toArray, List.set_cons_zero, List.set_cons_succ]
      refine wpAnyH_take (i := 5) (v := .agg (pq (.slice aw 0 acw) (.slice bw 0 bcw) false false)) rfl (by kernel_rfl) (by kernel_rfl) (by kernel_rfl) (fun _ _ _ h => h) (Or.inl ⟨by rfl, fun w' hSw => ?_⟩) (by assumption) ?_
      · (try dsimp only at hSw); have z0 := keepc hSw xp0; have z1 := keepc hSw xp1; have z2 := keepc hSw xp2; have z3 := keepc hSw xp3; have z4 := keepc hSw xn0; have z5 := keepc hSw xn1; have z6 := keepc hSw xn2; have z7 := keepc hSw xn3; have z8 := keepc hSw xw0; have z9 := keepc hSw xw1; have z10 := keepc hSw xw2; have z11 := keepc hSw xw3; go_simp
      try simp only [Act.put, List.getElem_toArray, List.getElem_cons_zero, List.getElem_cons_succ, List.setIfInBounds_toArray, List.set_cons_zero, List.set_cons_succ]
      refine wpAnyH_ready (rs := [6]) (by kernel_rfl) (by simp) ?_
      refine AllReadyH.cons rfl (fun K hK => ?_) AllReadyH.nil
      go_simp
      refine (samePair_same _ _ _ _ [] [] false false _ (HPn.out.below hHeld).l.sl (HPn.out.below hHeld).r.sl (HPw.out.below hHeld).l.sl (HPw.out.below hHeld).r.sl (by simp)).mono ?_
      rintro e wc6 ⟨rfl, hbc⟩
      refine hK.out _ _ (hHeld.trans (hbc.mono hHeld.size)) (fun hHeld => ?_)
      clear hK K hbc
      try simp only [Act.put, List.getElem_toArray, List.getElem_cons_zero, List.getElem_cons_succ, List.setIfInBounds_toArray, List.set_cons_zero, List.set_cons_succ]
      refine wpAnyH_take (i := 7) (v := .bool false) rfl (by kernel_rfl) (by kernel_rfl) (by kernel_rfl) (fun _ _ _ h => h) (Or.inl ⟨by rfl, fun w' hSw => ?_⟩) (by assumption) ?_
      · (try dsimp only at hSw); go_simp
      try simp only [Act.put, List.getElem_toArray, List.getElem_cons_zero, List.getElem_cons_succ, List.setIfInBounds_toArray, List.set_cons_zero, List.set_cons_succ]
      refine wpAnyH_take (i := 8) (v := .bool false) rfl (by kernel_rfl) (by kernel_rfl) (by kernel_rfl) (fun _ _ _ h => h) (Or.inl ⟨by rfl, fun w' hSw => ?_⟩) (by assumption) ?_
      · (try dsimp only at hSw); go_simp
      try simp only [Act.put, List.getElem_toArray, List.getElem_cons_zero, List.getElem_cons_succ, List.setIfInBounds_toArray, List.set_cons_zero, List.set_cons_succ]
      refine wpAnyH_take (i := 9) (v := .bool false) rfl (by kernel_rfl) (by kernel_rfl) (by kernel_rfl) (fun _ _ _ h => h) (Or.inl ⟨by rfl, fun w' hSw => ?_⟩) (by assumption) ?_
      · (try dsimp only at hSw); go_simp
      try simp only [Act.put, List.getElem_toArray, List.getElem_cons_zero, List.getElem_cons_succ, List.setIfInBounds_toArray, List.set_cons_zero, List.set_cons_succ]
      refine wpAnyH_take (i := 10) (v := .agg (pq (.slice ap zl.length acp) (.slice bp zr.length bcp) lu ru)) rfl (by kernel_rfl) (by kernel_rfl) (by kernel_rfl) (fun _ _ _ h => h) (Or.inl ⟨by rfl, fun w' hSw => ?_⟩) (by assumption) ?_
      · (try dsimp only at hSw); have z0 := keepc hSw xp0; have z1 := keepc hSw xp1; have z2 := keepc hSw xp2; have z3 := keepc hSw xp3; have z4 := keepc hSw xn0; have z5 := keepc hSw xn1; have z6 := keepc hSw xn2; have z7 := keepc hSw xn3; have z8 := keepc hSw xw0; have z9 := keepc hSw xw1; have z10 := keepc hSw xw2; have z11 := keepc hSw xw3; go_simp
      try simp only [Act.put, List.getElem_toArray, List.getElem_cons_zero, List.getElem_cons_succ, List.setIfInBounds_toArray, List.set_cons_zero, List.set_cons_succ]
      refine wpAnyH_take (i := 12) (v := .agg (pq (.slice ap zl.length acp) (.slice bp zr.length bcp) lu ru)) rfl (by kernel_rfl) (by kernel_rfl) (by kernel_rfl) (fun _ _ _ h => h) (Or.inl ⟨by rfl, fun w' hSw => ?_⟩) (by assumption) ?_
      · (try dsimp only at hSw); have z0 := keepc hSw xp0; have z1 := keepc hSw xp1; have z2 := keepc hSw xp2; have z3 := keepc hSw xp3; have z4 := keepc hSw xn0; have z5 := keepc hSw xn1; have z6 := keepc hSw xn2; have z7 := keepc hSw xn3; have z8 := keepc hSw xw0; have z9 := keepc hSw xw1; have z10 := keepc hSw xw2; have z11 := keepc hSw xw3; go_simp
      try simp only [Act.put, List.getElem_toArray, List.getElem_cons_zero, List.getElem_cons_succ, List.setIfInBounds_toArray, List.set_cons_zero, List.set_cons_succ]
      refine wpAnyH_ready (rs := [11]) (by kernel_rfl) (by simp) ?_
      refine AllReadyH.cons rfl (fun K hK => ?_) AllReadyH.nil
      go_simp
      refine (hOp _ (HPp.out.below hHeld).l.sl (HPp.out.below hHeld).r.sl).mono ?_
      rintro e wc11 ⟨rfl, hbc⟩
      refine hK.out _ _ (hHeld.trans (hbc.mono hHeld.size)) (fun hHeld => ?_)
      clear hK K hbc
      try simp only [Act.put, List.getElem_toArray, List.getElem_cons_zero, List.getElem_cons_succ, List.setIfInBounds_toArray, List.set_cons_zero, List.set_cons_succ]
      refine wpAnyH_ready (rs := [13]) (by kernel_rfl) (by simp) ?_
      refine AllReadyH.cons rfl (fun K hK => ?_) AllReadyH.nil
      go_simp
      refine (hSp _ (HPp.out.below hHeld).l.sl (HPp.out.below hHeld).r.sl).mono ?_
      rintro e wc13 ⟨rfl, hbc⟩
      refine hK.out _ _ (hHeld.trans (hbc.mono hHeld.size)) (fun hHeld => ?_)
      clear hK K hbc
      try simp only [Act.put, List.getElem_toArray, List.getElem_cons_zero, List.getElem_cons_succ, List.setIfInBounds_toArray, List.set_cons_zero, List.set_cons_succ]
      refine wpAnyH_take (i := 14) (v := .bool false) rfl (by kernel_rfl) (by kernel_rfl) (by kernel_rfl) (fun _ _ _ h => h) (Or.inl ⟨by rfl, fun w' hSw => ?_⟩) (by assumption) ?_
      · (try dsimp only at hSw); go_simp
      try simp only [Act.put, List.getElem_toArray, List.getElem_cons_zero, List.getElem_cons_succ, List.setIfInBounds_toArray, List.set_cons_zero, List.set_cons_succ]
      refine wpAnyH_take (i := 15) (v := .bool false) rfl (by kernel_rfl) (by kernel_rfl) (by kernel_rfl) (fun _ _ _ h => h) (Or.inl ⟨by rfl, fun w' hSw => ?_⟩) (by assumption) ?_
      · (try dsimp only at hSw); go_simp
      try simp only [Act.put, List.getElem_toArray, List.getElem_cons_zero, List.getElem_cons_succ, List.setIfInBounds_toArray, List.set_cons_zero, List.set_cons_succ]
      refine wpAnyH_take (i := 16) (v := .bool false) rfl (by kernel_rfl) (by kernel_rfl) (by kernel_rfl) (fun _ _ _ h => h) (Or.inl ⟨by rfl, fun w' hSw => ?_⟩) (by assumption) ?_
      · (try dsimp only at hSw); go_simp
      try simp only [Act.put, List.getElem_toArray, List.getElem_cons_zero, List.getElem_cons_succ, List.setIfInBounds_toArray, List.set_cons_zero, List.set_cons_succ]
      refine wpAnyH_take (i := 17) (v := .bool false) rfl (by kernel_rfl) (by kernel_rfl) (by kernel_rfl) (fun _ _ _ h => h) (Or.inl ⟨by rfl, fun w' hSw => ?_⟩) (by assumption) ?_
      · (try dsimp only at hSw); go_simp
      try simp only [Act.put, List.getElem_toArray, List.getElem_cons_zero, List.getElem_cons_succ, List.setIfInBounds_toArray, List.set_cons_zero, List.set_cons_succ]
      refine wpAnyH_take (i := 18) (v := .bool true) rfl (by kernel_rfl) (by kernel_rfl) (by kernel_rfl) (fun _ _ _ h => h) (Or.inl ⟨by rfl, fun w' hSw => ?_⟩) (by assumption) ?_
      · (try dsimp only at hSw); go_simp
      try simp only [Act.put, List.getElem_toArray, List.getElem_cons_zero, List.getElem_cons_succ, List.setIfInBounds_toArray, List.set_cons_zero, List.set_cons_succ]
      refine wpAnyH_take (i := 19) (v := .bool true) rfl (by kernel_rfl) (by kernel_rfl) (by kernel_rfl) (fun _ _ _ h => h) (Or.inl ⟨by rfl, fun w' hSw => ?_⟩) (by assumption) ?_
      · (try dsimp only at hSw); go_simp
      try simp only [Act.put, List.getElem_toArray, List.getElem_cons_zero, List.getElem_cons_succ, List.setIfInBounds_toArray, List.set_cons_zero, List.set_cons_succ]
      refine wpAnyH_done (by kernel_rfl) ?_ _
      clear xp0 xp1 xp2 xp3 xn0 xn1 xn2 xn3 xw0 xw1 xw2 xw3
      replace HXp := hide (HXp.out.below hHeld)
      replace HXn := hide (HXn.out.below hHeld)
      replace HXw := hide (HXw.out.below hHeld)
      replace HPp := hide (HPp.out.below hHeld)
      replace HPn := hide (HPn.out.below hHeld)
      replace HPw := hide (HPw.out.below hHeld)
      replace HB := hide (HB.out.trans (hHeld.mono HB.out.size))
      clear hHeld
      obtain ⟨xp0, xp1, xp2, xp3⟩ := HXp.out
      obtain ⟨xn0, xn1, xn2, xn3⟩ := HXn.out
      obtain ⟨xw0, xw1, xw2, xw3⟩ := HXw.out
      go_wp2
      refine wp_region_held_drew (S := fun w' => Below (wc13).heap.size (wc13) w') (by kernel_rfl) ((Below.refl _ _).drew) (fun hHeld => ?_)
      refine wpAnyH_take (i := 0) (v := .bool false) rfl (by kernel_rfl) (by kernel_rfl) (by kernel_rfl) (fun _ _ _ h => h) (Or.inl ⟨by rfl, fun w' hSw => ?_⟩) (by assumption) ?_
      · (try dsimp only at hSw); go_simp
      try simp only [Act.put, List.getElem_toArray, List.getElem_cons_zero, List.getElem_cons_succ, List.setIfInBounds_toArray, List.set_cons_zero, List.set_cons_succ]
      refine wpAnyH_take (i := 1) (v := .bool false) rfl (by kernel_rfl) (by kernel_rfl) (by kernel_rfl) (fun _ _ _ h => h) (Or.inl ⟨by rfl, fun w' hSw => ?_⟩) (by assumption) ?_
      · (try dsimp only at hSw); go_simp
      try simp only [Act.put, List.getElem_toArray, List.getElem_cons_zero, List.getElem_cons_succ, List.setIfInBounds_toArray, List.set_cons_zero, List.set_cons_succ]
      refine wpAnyH_take (i := 2) (v := .bool true) rfl (by kernel_rfl) (by kernel_rfl) (by kernel_rfl) (fun _ _ _ h => h) (Or.inl ⟨by rfl, fun w' hSw => ?_⟩) (by assumption) ?_
      · (try dsimp only at hSw); go_simp
      try simp only [Act.put, List.getElem_toArray, List.getElem_cons_zero, List.getElem_cons_succ, List.setIfInBounds_toArray, List.set_cons_zero, List.set_cons_succ]
      refine wpAnyH_take (i := 3) (v := .bool true) rfl (by kernel_rfl) (by kernel_rfl) (by kernel_rfl) (fun _ _ _ h => h) (Or.inl ⟨by rfl, fun w' hSw => ?_⟩) (by assumption) ?_
      · (try dsimp only at hSw); go_simp
      try simp only [Act.put, List.getElem_toArray, List.getElem_cons_zero, List.getElem_cons_succ, List.setIfInBounds_toArray, List.set_cons_zero, List.set_cons_succ]
      refine wpAnyH_take (i := 4) (v := .agg (pq (.slice an 0 acn) (.slice bn 0 bcn) false false)) rfl (by kernel_rfl) (by kernel_rfl) (by kernel_rfl) (fun _ _ _ h => h) (Or.inl ⟨by rfl, fun w' hSw => ?_⟩) (by assumption) ?_
      · (try dsimp only at hSw); have z0 := keepc hSw xp0; have z1 := keepc hSw xp1; have z2 := keepc hSw xp2; have z3 := keepc hSw xp3; have z4 := keepc hSw xn0; have z5 := keepc hSw xn1; have z6 := keepc hSw xn2; have z7 := keepc hSw xn3; have z8 := keepc hSw xw0; have z9 := keepc hSw xw1; have z10 := keepc hSw xw2; have z11 := keepc hSw xw3; go_simp
      try simp only [Act.put, List.getElem_toArray, List.getElem_cons_zero, List.getElem_cons_succ, List.setIfInBounds_toArray, List.set_cons_zero, List.set_cons_succ]
      refine wpAnyH_take (i := 5) (v := .agg (pq (.slice aw 0 acw) (.slice bw 0 bcw) false false)) rfl (by kernel_rfl) (by kernel_rfl) (by kernel_rfl) (fun _ _ _ h => h) (Or.inl ⟨by rfl, fun w' hSw => ?_⟩) (by assumption) ?_
      · (try dsimp only at hSw); have z0 := keepc hSw xp0; have z1 := keepc hSw xp1; have z2 := keepc hSw xp2; have z3 := keepc hSw xp3; have z4 := keepc hSw xn0; have z5 := keepc hSw xn1; have z6 := keepc hSw xn2; have z7 := keepc hSw xn3; have z8 := keepc hSw xw0; have z9 := keepc hSw xw1; have z10 := keepc hSw xw2; have z11 := keepc hSw xw3; go_simp
      try simp only [Act.put, List.getElem_toArray, List.getElem_cons_zero, List.getElem_cons_succ, List.setIfInBounds_toArray, List.set_cons_zero, List.set_cons_succ]
      refine wpAnyH_ready (rs := [6]) (by kernel_rfl) (by simp) ?_
      refine AllReadyH.cons rfl (fun K hK => ?_) AllReadyH.nil
      go_simp
      refine (samePair_same _ _ _ _ [] [] false false _ (HPn.out.below hHeld).l.sl (HPn.out.below hHeld).r.sl (HPw.out.below hHeld).l.sl (HPw.out.below hHeld).r.sl (by simp)).mono ?_
      rintro e wc6 ⟨rfl, hbc⟩
      refine hK.out _ _ (hHeld.trans (hbc.mono hHeld.size)) (fun hHeld => ?_)
      clear hK K hbc
      try simp only [Act.put, List.getElem_toArray, List.getElem_cons_zero, List.getElem_cons_succ, List.setIfInBounds_toArray, List.set_cons_zero, List.set_cons_succ]
      refine wpAnyH_take (i := 7) (v := .bool true) rfl (by kernel_rfl) (by kernel_rfl) (by kernel_rfl) (fun _ _ _ h => h) (Or.inl ⟨by rfl, fun w' hSw => ?_⟩) (by assumption) ?_
      · (try dsimp only at hSw); go_simp
      try simp only [Act.put, List.getElem_toArray, List.getElem_cons_zero, List.getElem_cons_succ, List.setIfInBounds_toArray, List.set_cons_zero, List.set_cons_succ]
      refine wpAnyH_take (i := 8) (v := .bool true) rfl (by kernel_rfl) (by kernel_rfl) (by kernel_rfl) (fun _ _ _ h => h) (Or.inl ⟨by rfl, fun w' hSw => ?_⟩) (by assumption) ?_
      · (try dsimp only at hSw); go_simp
      try simp only [Act.put, List.getElem_toArray, List.getElem_cons_zero, List.getElem_cons_succ, List.setIfInBounds_toArray, List.set_cons_zero, List.set_cons_succ]
      refine wpAnyH_take (i := 9) (v := .agg (pq (.slice ap zl.length acp) (.slice bp zr.length bcp) lu ru)) rfl (by kernel_rfl) (by kernel_rfl) (by kernel_rfl) (fun _ _ _ h => h) (Or.inl ⟨by rfl, fun w' hSw => ?_⟩) (by assumption) ?_
      · (try dsimp only at hSw); have z0 := keepc hSw xp0; have z1 := keepc hSw xp1; have z2 := keepc hSw xp2; have z3 := keepc hSw xp3; have z4 := keepc hSw xn0; have z5 := keepc hSw xn1; have z6 := keepc hSw xn2; have z7 := keepc hSw xn3; have z8 := keepc hSw xw0; have z9 := keepc hSw xw1; have z10 := keepc hSw xw2; have z11 := keepc hSw xw3; go_simp
      try simp only [Act.put, List.getElem_toArray, List.getElem_cons_zero, List.getElem_cons_succ, List.setIfInBounds_toArray, List.set_cons_zero, List.set_cons_succ]
      refine wpAnyH_take (i := 11) (v := .agg (pq (.slice ap zl.length acp) (.slice bp zr.length bcp) lu ru)) rfl (by kernel_rfl) (by kernel_rfl) (by kernel_rfl) (fun _ _ _ h => h) (Or.inl ⟨by rfl, fun w' hSw => ?_⟩) (by assumption) ?_
      · (try dsimp only at hSw); have z0 := keepc hSw xp0; have z1 := keepc hSw xp1; have z2 := keepc hSw xp2; have z3 := keepc hSw xp3; have z4 := keepc hSw xn0; have z5 := keepc hSw xn1; have z6 := keepc hSw xn2; have z7 := keepc hSw xn3; have z8 := keepc hSw xw0; have z9 := keepc hSw xw1; have z10 := keepc hSw xw2; have z11 := keepc hSw xw3; go_simp
      try simp only [Act.put, List.getElem_toArray, List.getElem_cons_zero, List.getElem_cons_succ, List.setIfInBounds_toArray, List.set_cons_zero, List.set_cons_succ]
      refine wpAnyH_ready (rs := [10]) (by kernel_rfl) (by simp) ?_
      refine AllReadyH.cons rfl (fun K hK => ?_) AllReadyH.nil
      go_simp
      refine (hOp _ (HPp.out.below hHeld).l.sl (HPp.out.below hHeld).r.sl).mono ?_
      rintro e wc10 ⟨rfl, hbc⟩
      refine hK.out _ _ (hHeld.trans (hbc.mono hHeld.size)) (fun hHeld => ?_)
      clear hK K hbc
      try simp only [Act.put, List.getElem_toArray, List.getElem_cons_zero, List.getElem_cons_succ, List.setIfInBounds_toArray, List.set_cons_zero, List.set_cons_succ]
      refine wpAnyH_ready (rs := [12]) (by kernel_rfl) (by simp) ?_
      refine AllReadyH.cons rfl (fun K hK => ?_) AllReadyH.nil
      go_simp
      refine (hSp _ (HPp.out.below hHeld).l.sl (HPp.out.below hHeld).r.sl).mono ?_
      rintro e wc12 ⟨rfl, hbc⟩
      refine hK.out _ _ (hHeld.trans (hbc.mono hHeld.size)) (fun hHeld => ?_)
      clear hK K hbc
      try simp only [Act.put, List.getElem_toArray, List.getElem_cons_zero, List.getElem_cons_succ, List.setIfInBounds_toArray, List.set_cons_zero, List.set_cons_succ]
      refine wpAnyH_take (i := 13) (v := .bool true) rfl (by kernel_rfl) (by kernel_rfl) (by kernel_rfl) (fun _ _ _ h => h) (Or.inl ⟨by rfl, fun w' hSw => ?_⟩) (by assumption) ?_
      · (try dsimp only at hSw); go_simp
      try simp only [Act.put, List.getElem_toArray, List.getElem_cons_zero, List.getElem_cons_succ, List.setIfInBounds_toArray, List.set_cons_zero, List.set_cons_succ]
      refine wpAnyH_take (i := 14) (v := .bool true) rfl (by kernel_rfl) (by kernel_rfl) (by kernel_rfl) (fun _ _ _ h => h) (Or.inl ⟨by rfl, fun w' hSw => ?_⟩) (by assumption) ?_
      · (try dsimp only at hSw); go_simp
      try simp only [Act.put, List.getElem_toArray, List.getElem_cons_zero, List.getElem_cons_succ, List.setIfInBounds_toArray, List.set_cons_zero, List.set_cons_succ]
      refine wpAnyH_take (i := 15) (v := .bool true) rfl (by kernel_rfl) (by kernel_rfl) (by kernel_rfl) (fun _ _ _ h => h) (Or.inl ⟨by rfl, fun w' hSw => ?_⟩) (by assumption) ?_
      · (try dsimp only at hSw); go_simp
      try simp only [Act.put, List.getElem_toArray, List.getElem_cons_zero, List.getElem_cons_succ, List.setIfInBounds_toArray, List.set_cons_zero, List.set_cons_succ]
      refine wpAnyH_done (by kernel_rfl) ?_ _
      clear xp0 xp1 xp2 xp3 xn0 xn1 xn2 xn3 xw0 xw1 xw2 xw3
      replace HXp := hide (HXp.out.below hHeld)
      replace HXn := hide (HXn.out.below hHeld)
      replace HXw := hide (HXw.out.below hHeld)
      replace HPp := hide (HPp.out.below hHeld)
      replace HPn := hide (HPn.out.below hHeld)
      replace HPw := hide (HPw.out.below hHeld)
      replace HB := hide (HB.out.trans (hHeld.mono HB.out.size))
      clear hHeld hOp hSp
      go_wp2
      go_ret
      exact ⟨rfl, HB.out⟩
    | true =>
      obtain ⟨xp0, xp1, xp2, xp3⟩ := HXp.out
      obtain ⟨xn0, xn1, xn2, xn3⟩ := HXn.out
      obtain ⟨xw0, xw1, xw2, xw3⟩ := HXw.out
      go_wp2
      refine wp_region_held_drew (S := fun w' => Below ((w3.alloc (.cells (pq (.slice aw 0 acw) (.slice bw 0 bcw) false false) 26))).heap.size ((w3.alloc (.cells (pq (.slice aw 0 acw) (.slice bw 0 bcw) false false) 26))) w') (by kernel_rfl) ((Below.refl _ _).drew) (fun hHeld => ?_)
      refine wpAnyH_take (i := 0) (v := .bool false) rfl (by kernel_rfl) (by kernel_rfl) (by kernel_rfl) (fun _ _ _ h => h) (Or.inl ⟨by rfl, fun w' hSw => ?_⟩) (by assumption) ?_
      · (try dsimp only at hSw); go_simp
      try simp only [Act.put, List.getElem_toArray, List.getElem_cons_zero, List.getElem_cons_succ, List.setIfInBounds_toArray, List.set_cons_zero, List.set_cons_succ]
      refine wpAnyH_take (i := 1) (v := .bool false) rfl (by kernel_rfl) (by kernel_rfl) (by kernel_rfl) (fun _ _ _ h => h) (Or.inl ⟨by rfl, fun w' hSw => ?_⟩) (by assumption) ?_
      · (try dsimp only at hSw); go_simp
      try simp only [Act.put, List.getElem_toArray, List.getElem_cons_zero, List.getElem_cons_succ, List.setIfInBounds_toArray, List.set_cons_zero, List.set_cons_succ]
      refine wpAnyH_take (i := 2) (v := .bool false) rfl (by kernel_rfl) (by kernel_rfl) (by kernel_rfl) (fun _ _ _ h => h) (Or.inl ⟨by rfl, fun w' hSw => ?_⟩) (by assumption) ?_
      · (try dsimp only at hSw); go_simp
      try simp only [Act.put, List.getElem_toArray, List.getElem_cons_zero, List.getElem_cons_succ, List.setIfInBounds_toArray, List.set_cons_zero, List.set_cons_succ]
      refine wpAnyH_take (i := 3) (v := .bool false) rfl (by kernel_rfl) (by kernel_rfl) (by kernel_rfl) (fun _ _ _ h => h) (Or.inl ⟨by rfl, fun w' hSw => ?_⟩) (by assumption) ?_
      · (try dsimp only at hSw); go_simp
      try simp only [Act.put, List.getElem_toArray, List.getElem_cons_zero, List.getElem_cons_succ, List.setIfInBounds_toArray, List.set_cons_zero, List.set_cons_succ]
      refine wpAnyH_take (i := 4) (v := .agg (pq (.slice an 0 acn) (.slice bn 0 bcn) false false)) rfl (by kernel_rfl) (by kernel_rfl) (by kernel_rfl) (fun _ _ _ h => h) (Or.inl ⟨by rfl, fun w' hSw => ?_⟩) (by assumption) ?_
      · (try dsimp only at hSw); have z0 := keepc hSw xp0; have z1 := keepc hSw xp1; have z2 := keepc hSw xp2; have z3 := keepc hSw xp3; have z4 := keepc hSw xn0; have z5 := keepc hSw xn1; have z6 := keepc hSw xn2; have z7 := keepc hSw xn3; have z8 := keepc hSw xw0; have z9 := keepc hSw xw1; have z10 := keepc hSw xw2; have z11 := keepc hSw xw3; go_simp
      try simp only [Act.put, List.getElem_toArray, List.getElem_cons_zero, List.getElem_cons_succ, List.setIfInBounds_toArray, List.set_cons_zero, List.set_cons_succ]
      refine wpAnyH_take (i := 5) (v := .agg (pq (.slice aw 0 acw) (.slice bw 0 bcw) false false)) rfl (by kernel_rfl) (by kernel_rfl) (by kernel_rfl) (fun _ _ _ h => h) (Or.inl ⟨by rfl, fun w' hSw => ?_⟩) (by assumption) ?_
      · (try dsimp only at hSw); have z0 := keepc hSw xp0; have z1 := keepc hSw xp1; have z2 := keepc hSw xp2; have z3 := keepc hSw xp3; have z4 := keepc hSw xn0; have z5 := keepc hSw xn1; have z6 := keepc hSw xn2; have z7 := keepc hSw xn3; have z8 := keepc hSw xw0; have z9 := keepc hSw xw1; have z10 := keepc hSw xw2; have z11 := keepc hSw xw3; go_simp
      try simp only [Act.put, List.getElem_toArray, List.getElem_cons_zero, List.getElem_cons_succ, List.setIfInBounds_toArray, List.set_cons_zero, List.set_cons_succ]
      refine wpAnyH_ready (rs := [6]) (by kernel_rfl) (by simp) ?_
      refine AllReadyH.cons rfl (fun K hK => ?_) AllReadyH.nil
      go_simp
      refine (samePair_same _ _ _ _ [] [] false false _ (HPn.out.below hHeld).l.sl (HPn.out.below hHeld).r.sl (HPw.out.below hHeld).l.sl (HPw.out.below hHeld).r.sl (by simp)).mono ?_
      rintro e wc6 ⟨rfl, hbc⟩
      refine hK.out _ _ (hHeld.trans (hbc.mono hHeld.size)) (fun hHeld => ?_)
      clear hK K hbc
      try simp only [Act.put, List.getElem_toArray, List.getElem_cons_zero, List.getElem_cons_succ, List.setIfInBounds_toArray, List.set_cons_zero, List.set_cons_succ]
      refine wpAnyH_take (i := 7) (v := .bool false) rfl (by kernel_rfl) (by kernel_rfl) (by kernel_rfl) (fun _ _ _ h => h) (Or.inl ⟨by rfl, fun w' hSw => ?_⟩) (by assumption) ?_
      · (try dsimp only at hSw); go_simp
      try simp only [Act.put, List.getElem_toArray, List.getElem_cons_zero, List.getElem_cons_succ, List.setIfInBounds_toArray, List.set_cons_zero, List.set_cons_succ]
      refine wpAnyH_take (i := 8) (v := .bool false) rfl (by kernel_rfl) (by kernel_rfl) (by kernel_rfl) (fun _ _ _ h => h) (Or.inl ⟨by rfl, fun w' hSw => ?_⟩) (by assumption) ?_
      · (try dsimp only at hSw); go_simp
      try simp only [Act.put, List.getElem_toArray, List.getElem_cons_zero, List.getElem_cons_succ, List.setIfInBounds_toArray, List.set_cons_zero, List.set_cons_succ]
      refine wpAnyH_take (i := 9) (v := .bool false) rfl (by kernel_rfl) (by kernel_rfl) (by kernel_rfl) (fun _ _ _ h => h) (Or.inl ⟨by rfl, fun w' hSw => ?_⟩) (by assumption) ?_
      · (try dsimp only at hSw); go_simp
      try simp only [Act.put, List.getElem_toArray, List.getElem_cons_zero, List.getElem_cons_succ, List.setIfInBounds_toArray, List.set_cons_zero, List.set_cons_succ]
      refine wpAnyH_take (i := 10) (v := .agg (pq (.slice ap zl.length acp) (.slice bp zr.length bcp) lu ru)) rfl (by kernel_rfl) (by kernel_rfl) (by kernel_rfl) (fun _ _ _ h => h) (Or.inl ⟨by rfl, fun w' hSw => ?_⟩) (by assumption) ?_
      · (try dsimp only at hSw); have z0 := keepc hSw xp0; have z1 := keepc hSw xp1; have z2 := keepc hSw xp2; have z3 := keepc hSw xp3; have z4 := keepc hSw xn0; have z5 := keepc hSw xn1; have z6 := keepc hSw xn2; have z7 := keepc hSw xn3; have z8 := keepc hSw xw0; have z9 := keepc hSw xw1; have z10 := keepc hSw xw2; have z11 := keepc hSw xw3; go_simp
      try simp only [Act.put, List.getElem_toArray, List.getElem_cons_zero, List.getElem_cons_succ, List.setIfInBounds_toArray, List.set_cons_zero, List.set_cons_succ]
      refine wpAnyH_take (i := 12) (v := .agg (pq (.slice ap zl.length acp) (.slice bp zr.length bcp) lu ru)) rfl (by kernel_rfl) (by kernel_rfl) (by kernel_rfl) (fun _ _ _ h => h) (Or.inl ⟨by rfl, fun w' hSw => ?_⟩) (by assumption) ?_
      · (try dsimp only at hSw); have z0 := keepc hSw xp0; have z1 := keepc hSw xp1; have z2 := keepc hSw xp2; have z3 := keepc hSw xp3; have z4 := keepc hSw xn0; have z5 := keepc hSw xn1; have z6 := keepc hSw xn2; have z7 := keepc hSw xn3; have z8 := keepc hSw xw0; have z9 := keepc hSw xw1; have z10 := keepc hSw xw2; have z11 := keepc hSw xw3; go_simp
      try simp only [Act.put, List.getElem_toArray, List.getElem_cons_zero, List.getElem_cons_succ, List.setIfInBounds_toArray, List.set_cons_zero, List.set_cons_succ]
      refine wpAnyH_ready (rs := [11]) (by kernel_rfl) (by simp) ?_
      refine AllReadyH.cons rfl (fun K hK => ?_) AllReadyH.nil
      go_simp
      refine (hOp _ (HPp.out.below hHeld).l.sl (HPp.out.below hHeld).r.sl).mono ?_
      rintro e wc11 ⟨rfl, hbc⟩
      refine hK.out _ _ (hHeld.trans (hbc.mono hHeld.size)) (fun hHeld => ?_)
      clear hK K hbc
      try simp only [Act.put, List.getElem_toArray, List.getElem_cons_zero, List.getElem_cons_succ, List.setIfInBounds_toArray, List.set_cons_zero, List.set_cons_succ]
      refine wpAnyH_ready (rs := [13]) (by kernel_rfl) (by simp) ?_
      refine AllReadyH.cons rfl (fun K hK => ?_) AllReadyH.nil
      go_simp
      refine (hSp _ (HPp.out.below hHeld).l.sl (HPp.out.below hHeld).r.sl).mono ?_
      rintro e wc13 ⟨rfl, hbc⟩
      refine hK.out _ _ (hHeld.trans (hbc.mono hHeld.size)) (fun hHeld => ?_)
      clear hK K hbc
      try simp only [Act.put, List.getElem_toArray, List.getElem_cons_zero, List.getElem_cons_succ, List.setIfInBounds_toArray, List.set_cons_zero, List.set_cons_succ]
      refine wpAnyH_take (i := 14) (v := .bool false) rfl (by kernel_rfl) (by kernel_rfl) (by kernel_rfl) (fun _ _ _ h => h) (Or.inl ⟨by rfl, fun w' hSw => ?_⟩) (by assumption) ?_
      · (try dsimp only at hSw); go_simp
      try simp only [Act.put, List.getElem_toArray, List.getElem_cons_zero, List.getElem_cons_succ, List.setIfInBounds_toArray, List.set_cons_zero, List.set_cons_succ]
      refine wpAnyH_take (i := 15) (v := .bool false) rfl (by kernel_rfl) (by kernel_rfl) (by kernel_rfl) (fun _ _ _ h => h) (Or.inl ⟨by rfl, fun w' hSw => ?_⟩) (by assumption) ?_
      · (try dsimp only at hSw); go_simp
      try simp only [Act.put, List.getElem_toArray, List.getElem_cons_zero, List.getElem_cons_succ, List.setIfInBounds_toArray, List.set_cons_zero, List.set_cons_succ]
      refine wpAnyH_take (i := 16) (v := .bool false) rfl (by kernel_rfl) (by kernel_rfl) (by kernel_rfl) (fun _ _ _ h => h) (Or.inl ⟨by rfl, fun w' hSw => ?_⟩) (by assumption) ?_
      · (try dsimp only at hSw); go_simp
      try simp only [Act.put, List.getElem_toArray, List.getElem_cons_zero, List.getElem_cons_succ, List.setIfInBounds_toArray, List.set_cons_zero, List.set_cons_succ]
      refine wpAnyH_take (i := 17) (v := .bool false) rfl (by kernel_rfl) (by kernel_rfl) (by kernel_rfl) (fun _ _ _ h => h) (Or.inl ⟨by rfl, fun w' hSw => ?_⟩) (by assumption) ?_
      · (try dsimp only at hSw); go_simp
      try simp only [Act.put, List.getElem_toArray, List.getElem_cons_zero, List.getElem_cons_succ, List.setIfInBounds_toArray, List.set_cons_zero, List.set_cons_succ]
      refine wpAnyH_take (i := 18) (v := .bool true) rfl (by kernel_rfl) (by kernel_rfl) (by kernel_rfl) (fun _ _ _ h => h) (Or.inl ⟨by rfl, fun w' hSw => ?_⟩) (by assumption) ?_
      · (try dsimp only at hSw); go_simp
      try simp only [Act.put, List.getElem_toArray, List.getElem_cons_zero, List.getElem_cons_succ, List.setIfInBounds_toArray, List.set_cons_zero, List.set_cons_succ]
      refine wpAnyH_take (i := 19) (v := .bool true) rfl (by kernel_rfl) (by kernel_rfl) (by kernel_rfl) (fun _ _ _ h => h) (Or.inl ⟨by rfl, fun w' hSw => ?_⟩) (by assumption) ?_
      · (try dsimp only at hSw); go_simp
      try simp only [Act.put, List.getElem_toArray, List.getElem_cons_zero, List.getElem_cons_succ, List.setIfInBounds_toArray, List.set_cons_zero, List.set_cons_succ]
      refine wpAnyH_done (by kernel_rfl) ?_ _
      clear xp0 xp1 xp2 xp3 xn0 xn1 xn2 xn3 xw0 xw1 xw2 xw3
      replace HXp := hide (HXp.out.below hHeld)
      replace HXn := hide (HXn.out.below hHeld)
      replace HXw := hide (HXw.out.below hHeld)
      replace HPp := hide (HPp.out.below hHeld)
      replace HPn := hide (HPn.out.below hHeld)
      replace HPw := hide (HPw.out.below hHeld)
      replace HB := hide (HB.out.trans (hHeld.mono HB.out.size))
      clear hHeld
      obtain ⟨xp0, xp1, xp2, xp3⟩ := HXp.out
      obtain ⟨xn0, xn1, xn2, xn3⟩ := HXn.out
      obtain ⟨xw0, xw1, xw2, xw3⟩ := HXw.out
      go_wp2
      refine wp_region_held_drew (S := fun w' => Below (wc13).heap.size (wc13) w') (by kernel_rfl) ((Below.refl _ _).drew) (fun hHeld => ?_)
      refine wpAnyH_take (i := 0) (v := .bool false) rfl (by kernel_rfl) (by kernel_rfl) (by kernel_rfl) (fun _ _ _ h => h) (Or.inl ⟨by rfl, fun w' hSw => ?_⟩) (by assumption) ?_
      · (try dsimp only at hSw); go_simp
      try simp only [Act.put, List.getElem_toArray, List.getElem_cons_zero, List.getElem_cons_succ, List.setIfInBounds_toArray, List.set_cons_zero, List.set_cons_succ]
      refine wpAnyH_take (i := 1) (v := .bool false) rfl (by kernel_rfl) (by kernel_rfl) (by kernel_rfl) (fun _ _ _ h => h) (Or.inl ⟨by rfl, fun w' hSw => ?_⟩) (by assumption) ?_
      · (try dsimp only at hSw); go_simp
      try simp only [Act.put, List.getElem_toArray, List.getElem_cons_zero, List.getElem_cons_succ, List.setIfInBounds_toArray, List.set_cons_zero, List.set_cons_succ]
      refine wpAnyH_take (i := 2) (v := .bool true) rfl (by kernel_rfl) (by kernel_rfl) (by kernel_rfl) (fun _ _ _ h => h) (Or.inl ⟨by rfl, fun w' hSw => ?_⟩) (by assumption) ?_
      · (try dsimp only at hSw); go_simp
      try simp only [Act.put, List.getElem_toArray, List.getElem_cons_zero, List.getElem_cons_succ, List.setIfInBounds_toArray, List.set_cons_zero, List.set_cons_succ]
      refine wpAnyH_take (i := 3) (v := .bool true) rfl (by kernel_rfl) (by kernel_rfl) (by kernel_rfl) (fun _ _ _ h => h) (Or.inl ⟨by rfl, fun w' hSw => ?_⟩) (by assumption) ?_
      · (try dsimp only at hSw); go_simp
      try simp only [Act.put, List.getElem_toArray, List.getElem_cons_zero, List.getElem_cons_succ, List.setIfInBounds_toArray, List.set_cons_zero, List.set_cons_succ]
      refine wpAnyH_take (i := 4) (v := .agg (pq (.slice an 0 acn) (.slice bn 0 bcn) false false)) rfl (by kernel_rfl) (by kernel_rfl) (by kernel_rfl) (fun _ _ _ h => h) (Or.inl ⟨by rfl, fun w' hSw => ?_⟩) (by assumption) ?_
      · (try dsimp only at hSw); have z0 := keepc hSw xp0; have z1 := keepc hSw xp1; have z2 := keepc hSw xp2; have z3 := keepc hSw xp3; have z4 := keepc hSw xn0; have z5 := keepc hSw xn1; have z6 := keepc hSw xn2; have z7 := keepc hSw xn3; have z8 := keepc hSw xw0; have z9 := keepc hSw xw1; have z10 := keepc hSw xw2; have z11 := keepc hSw xw3; go_simp
      try simp only [Act.put, List.getElem_toArray, List.getElem_cons_zero, List.getElem_cons_succ, List.setIfInBounds_toArray, List.set_cons_zero, List.set_cons_succ]
      refine wpAnyH_take (i := 5) (v := .agg (pq (.slice aw 0 acw) (.slice bw 0 bcw) false false)) rfl (by kernel_rfl) (by kernel_rfl) (by kernel_rfl) (fun _ _ _ h => h) (Or.inl ⟨by rfl, fun w' hSw => ?_⟩) (by assumption) ?_
      · (try dsimp only at hSw); have z0 := keepc hSw xp0; have z1 := keepc hSw xp1; have z2 := keepc hSw xp2; have z3 := keepc hSw xp3; have z4 := keepc hSw xn0; have z5 := keepc hSw xn1; have z6 := keepc hSw xn2; have z7 := keepc hSw xn3; have z8 := keepc hSw xw0; have z9 := keepc hSw xw1; have z10 := keepc hSw xw2; have z11 := keepc hSw xw3; go_simp
      try simp only [Act.put, List.getElem_toArray, List.getElem_cons_zero, List.getElem_cons_succ, List.setIfInBounds_toArray, List.set_cons_zero, List.set_cons_succ]
      refine wpAnyH_ready (rs := [6]) (by kernel_rfl) (by simp) ?_
      refine AllReadyH.cons rfl (fun K hK => ?_) AllReadyH.nil
      go_simp
      refine (samePair_same _ _ _ _ [] [] false false _ (HPn.out.below hHeld).l.sl (HPn.out.below hHeld).r.sl (HPw.out.below hHeld).l.sl (HPw.out.below hHeld).r.sl (by simp)).mono ?_
      rintro e wc6 ⟨rfl, hbc⟩
      refine hK.out _ _ (hHeld.trans (hbc.mono hHeld.size)) (fun hHeld => ?_)
      clear hK K hbc
      try simp only [Act.put, List.getElem_toArray, List.getElem_cons_zero, List.getElem_cons_succ, List.setIfInBounds_toArray, List.set_cons_zero, List.set_cons_succ]
      refine wpAnyH_take (i := 7) (v := .bool true) rfl (by kernel_rfl) (by kernel_rfl) (by kernel_rfl) (fun _ _ _ h => h) (Or.inl ⟨by rfl, fun w' hSw => ?_⟩) (by assumption) ?_
      · (try dsimp only at hSw); go_simp
      try simp only [Act.put, List.getElem_toArray, List.getElem_cons_zero, List.getElem_cons_succ, List.setIfInBounds_toArray, List.set_cons_zero, List.set_cons_succ]
      refine wpAnyH_take (i := 8) (v := .bool true) rfl (by kernel_rfl) (by kernel_rfl) (by kernel_rfl) (fun _ _ _ h => h) (Or.inl ⟨by rfl, fun w' hSw => ?_⟩) (by assumption) ?_
      · (try dsimp only at hSw); go_simp
      try simp only [Act.put, List.getElem_toArray, List.getElem_cons_zero, List.getElem_cons_succ, List.setIfInBounds_toArray, List.set_cons_zero, List.set_cons_succ]
      refine wpAnyH_take (i := 9) (v := .agg (pq (.slice ap zl.length acp) (.slice bp zr.length bcp) lu ru)) rfl (by kernel_rfl) (by kernel_rfl) (by kernel_rfl) (fun _ _ _ h => h) (Or.inl ⟨by rfl, fun w' hSw => ?_⟩) (by assumption) ?_
      · (try dsimp only at hSw); have z0 := keepc hSw xp0; have z1 := keepc hSw xp1; have z2 := keepc hSw xp2; have z3 := keepc hSw xp3; have z4 := keepc hSw xn0; have z5 := keepc hSw xn1; have z6 := keepc hSw xn2; have z7 := keepc hSw xn3; have z8 := keepc hSw xw0; have z9 := keepc hSw xw1; have z10 := keepc hSw xw2; have z11 := keepc hSw xw3; go_simp
      try simp only [Act.put, List.getElem_toArray, List.getElem_cons_zero, List.getElem_cons_succ, List.setIfInBounds_toArray, List.set_cons_zero, List.set_cons_succ]
      refine wpAnyH_take (i := 11) (v := .agg (pq (.slice ap zl.length acp) (.slice bp zr.length bcp) lu ru)) rfl (by kernel_rfl) (by kernel_rfl) (by kernel_rfl) (fun _ _ _ h => h) (Or.inl ⟨by rfl, fun w' hSw => ?_⟩) (by assumption) ?_
      · (try dsimp only at hSw); have z0 := keepc hSw xp0; have z1 := keepc hSw xp1; have z2 := keepc hSw xp2; have z3 := keepc hSw xp3; have z4 := keepc hSw xn0; have z5 := keepc hSw xn1; have z6 := keepc hSw xn2; have z7 := keepc hSw xn3; have z8 := keepc hSw xw0; have z9 := keepc hSw xw1; have z10 := keepc hSw xw2; have z11 := keepc hSw xw3; go_simp
      try simp only [Act.put, List.getElem_toArray, List.getElem_cons_zero, List.getElem_cons_succ, List.setIfInBounds_toArray, List.set_cons_zero, List.set_cons_succ]
      refine wpAnyH_ready (rs := [10]) (by kernel_rfl) (by simp) ?_
      refine AllReadyH.cons rfl (fun K hK => ?_) AllReadyH.nil
      go_simp
      refine (hOp _ (HPp.out.below hHeld).l.sl (HPp.out.below hHeld).r.sl).mono ?_
      rintro e wc10 ⟨rfl, hbc⟩
      refine hK.out _ _ (hHeld.trans (hbc.mono hHeld.size)) (fun hHeld => ?_)
      clear hK K hbc
      try simp only [Act.put, List.getElem_toArray, List.getElem_cons_zero, List.getElem_cons_succ, List.setIfInBounds_toArray, List.set_cons_zero, List.set_cons_succ]
      refine wpAnyH_ready (rs := [12]) (by kernel_rfl) (by simp) ?_
      refine AllReadyH.cons rfl (fun K hK => ?_) AllReadyH.nil
      go_simp
      refine (hSp _ (HPp.out.below hHeld).l.sl (HPp.out.below hHeld).r.sl).mono ?_
      rintro e wc12 ⟨rfl, hbc⟩
      refine hK.out _ _ (hHeld.trans (hbc.mono hHeld.size)) (fun hHeld => ?_)
      clear hK K hbc
      try simp only [Act.put, List.getElem_toArray, List.getElem_cons_zero, List.getElem_cons_succ, List.setIfInBounds_toArray, List.set_cons_zero, List.set_cons_succ]
      refine wpAnyH_take (i := 13) (v := .bool true) rfl (by kernel_rfl) (by kernel_rfl) (by kernel_rfl) (fun _ _ _ h => h) (Or.inl ⟨by rfl, fun w' hSw => ?_⟩) (by assumption) ?_
      · (try dsimp only at hSw); go_simp
      try simp only [Act.put, List.getElem_toArray, List.getElem_cons_zero, List.getElem_cons_succ, List.setIfInBounds_toArray, List.set_cons_zero, List.set_cons_succ]
      refine wpAnyH_take (i := 14) (v := .bool true) rfl (by kernel_rfl) (by kernel_rfl) (by kernel_rfl) (fun _ _ _ h => h) (Or.inl ⟨by rfl, fun w' hSw => ?_⟩) (by assumption) ?_
      · (try dsimp only at hSw); go_simp
      try simp only [Act.put, List.getElem_toArray, List.getElem_cons_zero, List.getElem_cons_succ, List.setIfInBounds_toArray, List.set_cons_zero, List.set_cons_succ]
      refine wpAnyH_take (i := 15) (v := .bool true) rfl (by kernel_rfl) (by kernel_rfl) (by kernel_rfl) (fun _ _ _ h => h) (Or.inl ⟨by rfl, fun w' hSw => ?_⟩) (by assumption) ?_
      · (try dsimp only at hSw); go_simp
      try simp only [Act.put, List.getElem_toArray, List.getElem_cons_zero, List.getElem_cons_succ, List.setIfInBounds_toArray, List.set_cons_zero, List.set_cons_succ]
      refine wpAnyH_done (by kernel_rfl) ?_ _
      clear xp0 xp1 xp2 xp3 xn0 xn1 xn2 xn3 xw0 xw1 xw2 xw3
      replace HXp := hide (HXp.out.below hHeld)
      replace HXn := hide (HXn.out.below hHeld)
      replace HXw := hide (HXw.out.below hHeld)
      replace HPp := hide (HPp.out.below hHeld)
      replace HPn := hide (HPn.out.below hHeld)
      replace HPw := hide (HPw.out.below hHeld)
      replace HB := hide (HB.out.trans (hHeld.mono HB.out.size))
      clear hHeld hOp hSp
      go_wp2
      go_ret
      exact ⟨rfl, HB.out⟩

set_option maxRecDepth 100000 in
theorem lifted (os : Os) (started : os.Started) (H : Type) (enc : TypeId × Value → H) :
    ReturnsInHanded {} Try.checked os 3 .any (Rows.fnPairWritesSpec.pre6 enc Try.prog Try.f3 Rows.fnPairWritesRow.domain false) (Rows.fnPairWritesSpec.post enc Try.prog Try.f3 false true false false) := by
  refine returnsInHanded_of_change (C := Try.checked) own started (by kernel_rfl) Try.func3
    (ChangeSpec.witness6 (enc := enc) (C := Try.checked) false ⟨#[], #[.slice none 0 0], []⟩ 8 (by kernel_rfl) (by kernel_rfl) (by kernel_rfl) (by kernel_rfl)) ?_
  intro W base args ds gs before hval0 hW hcnd _
  have hval : ∀ (j : Nat) t v, Try.f3.params[j]? = some t → args[j]? = some v → Value.okWide Try.prog W .any base t v := hval0
  have hW' := hW
  obtain ⟨p, q, hA0, hV, rfl, hfz, hnd⟩ := hW
  have hA : DataW.TrodAll enc Try.prog W 0 (fun _ => true) true Try.f3.params.toList args.toList ds p := hA0
  rw [Try.params3] at hA hval
  obtain ⟨v0, vs0, d0, ds0, p0, q0, hargs, rfl, rfl, h0, r0⟩ := trodAll_cons hA
  obtain ⟨rfl, rfl, rfl⟩ := trodAll_nil r0
  obtain rfl : args = #[v0] := by cases args; simp_all
  obtain ⟨rfl, rfl⟩ := trodVars_none hV
  obtain ⟨a0, len0, cap0, rfl⟩ := okWide_slice Try.underlying22 (hval 0 22 v0 rfl rfl)
  have k0 := h0
  have lt0 : ∀ x ∈ p0, x.block < W.heap.size := by obtain ⟨m, hm⟩ := k0; exact DataW.trod_lt m _ _ _ hm
  obtain ⟨z0, w0⟩ : ∃ zs, IsRow .u8 W a0 len0 cap0 zs := by
    obtain ⟨fuel, hf⟩ := h0
    rcases open_ints Try.underlying22 Try.underlying5 (by kernel_rfl) hf with ⟨hcs, _⟩ | ⟨x, l, c, zs, hcs, _, hl, hm, hz, _, hcell, hwz⟩
    · simp [Value.cells] at hcs
      obtain ⟨rfl, rfl, rfl⟩ := hcs
      exact ⟨[], .inl ⟨rfl, rfl, rfl, rfl⟩⟩
    · simp [Value.cells] at hcs
      obtain ⟨rfl, rfl, rfl⟩ := hcs
      exact ⟨zs, .inr ⟨_, rfl, hl, hm, by simpa using hz, hcell, hwz⟩⟩
  clear hA0 hval0
  refine (walk a0 len0 cap0 W (row_bt w0)).mono fun e W' ⟨he, bel⟩ => ?_
  subst he
  exact ⟨_, rfl, _, _, _, [], _, [], hW', trodAll_mk1 (shut_bool Try.underlying4 _), (trodAll_cons_mk (Below.trod laidOut (by kernel_rfl) (of_decide_eq_true (by kernel_rfl)) k0 bel lt0) trodAll_mk0), rfl, bel.frame _, fun h => by cases h⟩

theorem over : Rows.fnPairWritesRow.holds Try.pinned (OpenSpec.ofChange Rows.fnPairWritesSpec) :=
  OpenClaim.holds_of_wide 3 Try.f3 rfl rfl rfl rfl rfl rfl rfl ⟨rfl, rfl, rfl, rfl, rfl⟩ rfl rfl rfl rfl rfl (by kernel_rfl) Try.func3 (by kernel_rfl)
    (of_decide_eq_true (by kernel_rfl)) (by unfold Func.isWrapper; first | (rw [if_pos (by decide +kernel)]; kernel_rfl) | (rw [if_neg (by decide +kernel)]; exact ⟨rfl, rfl⟩))
    (fun os started H enc _ => lifted os started H enc)

theorem proved : Rows.FnPairWritesSaid := over
end Go.Proofs.Ytplnfddleaoimaa.fnPairWrites

namespace Go.Proofs.Ytplnfddleaoimaa
theorem fnPairWrites_holds : Rows.FnPairWritesSaid := fnPairWrites.proved
end Go.Proofs.Ytplnfddleaoimaa
