/- FnLookPieces: looks in two pieces are the same looks; no condition -/
import Derived.Test.YtlijgkodcbnhbaaRows
import Derived.Test.YtlijgkodcbnhbaaCeA
import Derived.WalkKit
import Derived.ProofKit
import Derived.OpenShut
import Derived.ShutString
import Derived.ChangeOld
import Derived.Below
import Derived.OpenVars
namespace Go.Proofs.Ytlijgkodcbnhbaa.fnLookPieces
open Go.ChangeShapes Go.WideShapes Go.ChangeAt Go.WideMaps Go.WideElems Go.RowKit
set_option linter.unusedVariables false
set_option linter.unusedSimpArgs false

theorem own : ownKnob Try.prog.godebug = none := by kernel_rfl
theorem laidOut : laidOutB Try.prog = true := by kernel_rfl

def IsRow (k : IntKind) (w : World) (a : Option Addr) (len cap : Nat) (zs : List Int) : Prop :=
  (a = none ∧ len = 0 ∧ cap = 0 ∧ zs = []) ∨
  ∃ x, a = some x ∧ len ≤ cap ∧ cap ≤ maxLen ∧ zs.length = cap ∧ (∀ i, i < zs.length → w.cell? (x.add i) = some (.int k (zs.getD i 0))) ∧ ∀ n ∈ zs, (Lit.int k n).wf = true

theorem row_bt {w : World} {a : Option Addr} {len cap : Nat} {z : List Int} (h : IsRow .u8 w a len cap z) : Bt w a len := by
  intro h0
  rcases h with ⟨rfl, rfl, rfl, rfl⟩ | ⟨x, rfl, hl, hm, hz, hcell, hwf⟩
  · exact absurd h0 (by simp)
  · obtain ⟨b, off, spot⟩ := x
    have hc := hcell 0 (by omega)
    have hspot : spot = none := by simpa [Addr.add] using World.cell?_spot hc
    subst hspot
    refine ⟨b, off, rfl, fun j hj => ?_⟩
    have hcj := hcell j (by omega)
    rw [addr_add] at hcj
    have hj' : j < z.length := by omega
    have e : z.getD j 0 = z[j] := by simp [hj']
    have hw := bounds_u8 (hwf z[j] (List.getElem_mem hj'))
    exact ⟨z.getD j 0, by rw [e]; exact hw.1, by rw [e]; exact hw.2, hcj⟩

set_option maxHeartbeats 16000000 in
set_option maxRecDepth 20000 in
theorem walk (a0 : Option Addr) (len0 cap0 : Nat) (w : World) (hs : Bt w a0 len0) :
    Calls Try.prog 3 #[.slice a0 len0 cap0] w fun e w' => e = .returned (.bool true) ∧ Below w.heap.size w w' := by
  by_cases hbig : (1048576 : Int) < (len0 : Int)
  · go_enter Try.func3, Try.ntmps3
    go_wp2
    go_ret
    exact ⟨rfl, Below.refl _ _⟩
  have hb : len0 ≤ 1048576 := by omega
  go_enter Try.func3, Try.ntmps3
  go_wp2_with (first | (go_at_call 4; go_in) | fail)
  refine (drawAll_any a0 len0 cap0 _ hs hb).mono ?_
  rintro e w1 ⟨G, c, ib, s, t, la, lc, zs, rfl, hc1, hl1, h20, hcap, hnn, hsp, hb1⟩
  obtain ⟨ln, hln⟩ : ∃ ln, zs.length = ln := ⟨_, rfl⟩
  rw [hln] at hl1 h20 hcap ⊢
  have HLN := hide hln
  clear hln
  obtain ⟨X1, hA1⟩ := Bc.new hc1.cv
  have S1 := hl1.below hA1
  have HB1 := hide (hb1.trans (hA1.mono hb1.size))
  have HHD := hide (fun k (hk : k ≤ ln) => head_run la ln lc k hk hcap hnn)
  have HTL := hide (fun k (hk : k ≤ ln) => tail_run la ln lc k hk hcap hnn hsp)
  clear hs hb1 hA1 hc1 hb hl1 hcap hnn hsp hbig
  obtain ⟨A, hA⟩ : ∃ A, ans 2 (fun _ => 4) (two s t) zs = A := ⟨_, rfl⟩
  have HSM := hide (ans_small 2 (fun _ => 4) (two s t) zs (by rw [HLN.out]; omega))
  rw [hA] at HSM
  obtain ⟨N, D, M, H⟩ := A
  have HN2 : N ≤ 2 := HSM.out.1
  have HM2 : M ≤ 100 := HSM.out.2
  clear HSM
  have HA := hide hA
  clear hA
  have x0 := X1.cell
  go_wp2_with fail
  refine (implAll_any _ _ _ _ _ zs _ X1.cv S1).mono ?_
  rintro e w2 hp
  have hq := hp.av HA.out
  dsimp only at hq
  clear hp
  obtain ⟨u2, c2, b2, d2, rfl, cv2, sb2, hb2, _⟩ := hq
  obtain ⟨N2, hA2⟩ := Bc.new cv2
  have hc2 := hb2.trans (hA2.mono hb2.size)
  have X2 := X1.below hc2
  have S2 := S1.below hc2
  have T2 := sb2.below hA2
  have HB2 := hide (HB1.out.trans (hc2.mono HB1.out.size))
  clear hb2 hA2 hc2 X1 HB1 x0 S1 cv2 sb2
  have x0 := X2.cell
  go_wp2_with fail
  refine (specAll_any _ _ _ _ _ zs _ X2.cv S2).mono ?_
  rintro e w3 hp
  have hq := hp.av HA.out
  dsimp only at hq
  clear hp
  obtain ⟨u3, c3, b3, d3, rfl, cv3, sb3, hb3, _⟩ := hq
  obtain ⟨P3, hA3⟩ := Bc.new cv3
  have hc3 := hb3.trans (hA3.mono hb3.size)
  have X3 := X2.below hc3
  have S3 := S2.below hc3
  have N3 := N2.below hc3
  have T3 := T2.below hc3
  have U3 := sb3.below hA3
  have HB3 := hide (HB2.out.trans (hc3.mono HB2.out.size))
  clear hb3 hA3 hc3 X2 HB2 x0 S2 cv3 sb3 N2 T2
  generalize w2.heap.size = B2 at N3 ⊢
  generalize w1.heap.size = B1 at X3 ⊢
  go_wp2_with fail
  refine (sameBools_same _ _ M H _ T3 U3 (by omega)).mono ?_
  rintro e w4 ⟨rfl, hbb⟩
  have X4 := X3.below hbb
  have S4 := S3.below hbb
  have N4 := N3.below hbb
  have P4 := P3.below hbb
  have T4 := T3.below hbb
  have U4 := U3.below hbb
  have HB4 := hide (HB3.out.trans (hbb.mono HB3.out.size))
  clear hbb X3 S3 N3 P3 T3 U3 HB3
  have x0 := N4.cell
  have z0 := P4.cell
  go_wp2_with fail
  refine (sameCache_same _ _ N (fun _ => 4) D _ N4.cv P4.cv (by omega) (fun _ _ => by omega)).mono ?_
  rintro e w5 ⟨rfl, hbb⟩
  have X5 := X4.below hbb
  have S5 := S4.below hbb
  have N5 := N4.below hbb
  have P5 := P4.below hbb
  have T5 := T4.below hbb
  have U5 := U4.below hbb
  have HB5 := hide (HB4.out.trans (hbb.mono HB4.out.size))
  clear hbb X4 S4 N4 P4 T4 U4 HB4 x0 z0
  by_cases hml : M = ln
  · subst hml
    clear U5 P5
    have x0 := X5.cell
    have hKr : ((len0 : Int) % ((M : Int) + 1)) = ((len0 % (M + 1) : Nat) : Int) := by simp
    have hKl : len0 % (M + 1) < M + 1 := Nat.mod_lt _ (by omega)
    generalize len0 % (M + 1) = kp at hKr hKl
    have HADD := hide (ans_add (n := 2) (L := fun _ => 4) (D := two s t) (zs := zs) (k := kp) (by rw [HA.out, HLN.out]) (by rw [HLN.out]; omega))
    obtain ⟨A1, hA1⟩ : ∃ A, ans 2 (fun _ => 4) (two s t) (zs.take kp) = A := ⟨_, rfl⟩
    have HSM := hide (ans_small 2 (fun _ => 4) (two s t) (zs.take kp) (by have := HLN.out; simp; omega))
    rw [hA1] at HSM HADD
    obtain ⟨N1, D1, M1, H1⟩ := A1
    have HM1 : M1 ≤ 100 := HSM.out.2
    have HA1 := hide hA1
    clear HSM hA1
    obtain ⟨A2, hA2⟩ : ∃ A, ans N1 (fun _ => 4) D1 (zs.drop kp) = A := ⟨_, rfl⟩
    have HSM := hide (ans_small N1 (fun _ => 4) D1 (zs.drop kp) (by have := HLN.out; simp; omega))
    rw [hA2] at HSM
    obtain ⟨E1, E2, E3, E4⟩ : Av.n A2 = N ∧ Av.D A2 = D ∧ M1 + A2.m = M ∧ bl H1 M1 ++ bl A2.h A2.m = bl H M := by
      have h := HADD.out
      dsimp only at h
      rw [hA2, HA.out] at h
      exact h
    obtain ⟨N2, D2, M2, H2⟩ := A2
    have HM22 : M2 ≤ 100 := HSM.out.2
    dsimp only at E1 E2 E3 E4
    subst E1 E2
    have HA2 := hide hA2
    have HE3 := hide E3
    have HE4 := hide E4
    clear HSM hA2 HADD E3 E4
    obtain ⟨vt, hvt, HVT⟩ := HTL.out kp (by omega)
    have hvh := HHD.out kp (by omega)
    have HVT := hide HVT
    have SK := Sl.take (k := kp) HLN.out (by omega) S5
    have STK := HVT.out _ zs HLN.out S5
    clear HTL HHD HVT
    go_wp2
    rw [hKr]
    clear hKr
    go_cut [10, 11] (fun p c wc => ∃ (B : Nat) (u vb : Option Addr) (cc d : Nat), p = .pointer (some ⟨B, 0, none⟩) ∧ c = .slice vb M1 d ∧ Hid (Bc wc B u N1 cc D1 ∧ Sb wc (.slice vb M1 d) M1 H1 ∧ Below w5.heap.size w5 wc))
    case first =>
      refine wp_region_held_drew (S := fun w' => Below w5.heap.size w5 w') (by kernel_rfl) ((Below.refl _ _).drew) (fun hHeld => ?_)
      refine wpAnyH_take (i := 0) (v := .agg #[sl G 2 c]) rfl (by kernel_rfl) (by kernel_rfl) (by kernel_rfl) (fun _ _ _ h => h) (Or.inl ⟨by rfl, fun w' hSw => ?_⟩) (by assumption) ?_
      · (try dsimp only at hSw); have z0 := keepc hSw x0; go_simp
      try simp only [Act.put, List.getElem_toArray, List.getElem_cons_zero, List.getElem_cons_succ, List.setIfInBounds_toArray, List.set_cons_zero, List.set_cons_succ]
      refine wpAnyH_take (i := 1) (v := .slice la M lc) rfl (by kernel_rfl) (by kernel_rfl) (by kernel_rfl) (fun _ _ _ h => h) (Or.inl ⟨by rfl, fun w' hSw => ?_⟩) (by assumption) ?_
      · (try dsimp only at hSw); skip; go_simp
      try simp only [Act.put, List.getElem_toArray, List.getElem_cons_zero, List.getElem_cons_succ, List.setIfInBounds_toArray, List.set_cons_zero, List.set_cons_succ]
      refine wpAnyH_take (i := 2) (v := .int .i64 kp) rfl (by kernel_rfl) (by kernel_rfl) (by kernel_rfl) (fun _ _ _ h => h) (Or.inl ⟨by rfl, fun w' hSw => ?_⟩) (by assumption) ?_
      · (try dsimp only at hSw); skip; go_simp
      try simp only [Act.put, List.getElem_toArray, List.getElem_cons_zero, List.getElem_cons_succ, List.setIfInBounds_toArray, List.set_cons_zero, List.set_cons_succ]
      refine wpAnyH_take (i := 3) (v := .slice la kp lc) rfl (by kernel_rfl) (by kernel_rfl) (by kernel_rfl) (fun _ _ _ h => h) (Or.inl ⟨by rfl, fun w' hSw => ?_⟩) (by assumption) ?_
      · (try dsimp only at hSw); skip; go_simp
      try simp only [Act.put, List.getElem_toArray, List.getElem_cons_zero, List.getElem_cons_succ, List.setIfInBounds_toArray, List.set_cons_zero, List.set_cons_succ]
      obtain ⟨V0, hV0⟩ : ∃ V, w5.drew = V := ⟨_, rfl⟩
      rw [hV0] at hHeld ⊢
      clear hV0
      have hHe0 := hHeld
      refine wpAnyH_ready (rs := [4, 8]) (by kernel_rfl) (by simp) ?_
      refine AllReadyH.cons rfl (fun K hK => ?_) (AllReadyH.cons rfl (fun K hK => ?_) AllReadyH.nil)
      · go_simp
        refine (implAll_any _ _ _ _ _ (zs.take kp) _ (X5.cv.below hHeld) (SK.below hHeld)).mono ?_
        rintro e wq hp
        have hq := hp.av HA1.out
        dsimp only at hq
        clear hp
        obtain ⟨u9, c9, b9, d9, rfl, cv9, sb9, hb9, hset9⟩ := hq
        have hHe2 := hHeld.trans (hb9.mono hHeld.size)
        refine hK.out _ _ hHe2 (fun hHeld => ?_)
        clear hK K
        try simp only [Act.put, List.getElem_toArray, List.getElem_cons_zero, List.getElem_cons_succ, List.setIfInBounds_toArray, List.set_cons_zero, List.set_cons_succ]
        refine wpAnyH_take (i := 5) (v := .tuple #[.agg #[.slice u9 N1 c9], .slice b9 M1 d9]) rfl (by kernel_rfl) (by kernel_rfl) (by kernel_rfl) (fun _ _ _ h => h) (Or.inl ⟨by rfl, fun w' hSw => ?_⟩) (by assumption) ?_
        · (try dsimp only at hSw); skip; go_simp
        try simp only [Act.put, List.getElem_toArray, List.getElem_cons_zero, List.getElem_cons_succ, List.setIfInBounds_toArray, List.set_cons_zero, List.set_cons_succ]
        refine wpAnyH_take (i := 6) (v := .agg #[.slice u9 N1 c9]) rfl (by kernel_rfl) (by kernel_rfl) (by kernel_rfl) (fun _ _ _ h => h) (Or.inl ⟨by rfl, fun w' hSw => ?_⟩) (by assumption) ?_
        · (try dsimp only at hSw); skip; go_simp
        try simp only [Act.put, List.getElem_toArray, List.getElem_cons_zero, List.getElem_cons_succ, List.setIfInBounds_toArray, List.set_cons_zero, List.set_cons_succ]
        refine wpAnyH_take (i := 7) (v := .slice b9 M1 d9) rfl (by kernel_rfl) (by kernel_rfl) (by kernel_rfl) (fun _ _ _ h => h) (Or.inl ⟨by rfl, fun w' hSw => ?_⟩) (by assumption) ?_
        · (try dsimp only at hSw); skip; go_simp
        try simp only [Act.put, List.getElem_toArray, List.getElem_cons_zero, List.getElem_cons_succ, List.setIfInBounds_toArray, List.set_cons_zero, List.set_cons_succ]
        refine wpAnyH_ready (rs := [8]) (by kernel_rfl) (by simp) ?_
        refine AllReadyH.cons rfl (fun K hK => ?_) AllReadyH.nil
        go_simp
        have hA9 : Below wq.heap.size wq (wq.alloc (.cells #[.slice none 0 0] 26)) := (Below.refl _ _).alloc (Nat.le_refl _) _
        refine hK.out _ _ (hHeld.trans (hA9.mono hHeld.size)) (fun hHeld => ?_)
        clear hK K
        try simp only [Act.put, List.getElem_toArray, List.getElem_cons_zero, List.getElem_cons_succ, List.setIfInBounds_toArray, List.set_cons_zero, List.set_cons_succ]
        obtain ⟨bc9, hA6⟩ := Bc.new cv9
        have hb6 := hHe2.trans (hA6.mono hHe2.size)
        have HX := hide (And.intro bc9 (And.intro (sb9.below hA6) hb6))
        clear cv9 sb9 hb9 hA6 hHe2 hA9 bc9 hset9
        refine wpAnyH_ready (rs := [9]) (by kernel_rfl) (by simp) ?_
        refine AllReadyH.cons rfl (fun K hK => ?_) AllReadyH.nil
        go_simp
        refine hK.out _ _ hb6 (fun hHeld => ?_)
        clear hK K
        try simp only [Act.put, List.getElem_toArray, List.getElem_cons_zero, List.getElem_cons_succ, List.setIfInBounds_toArray, List.set_cons_zero, List.set_cons_succ]
        refine wpAnyH_ready (rs := [10]) (by kernel_rfl) (by simp) ?_
        refine AllReadyH.cons rfl (fun K hK => ?_) AllReadyH.nil
        go_simp
        refine hK.out _ _ hHeld (fun hHeld => ?_)
        clear hK K hHeld
        try simp only [Act.put, List.getElem_toArray, List.getElem_cons_zero, List.getElem_cons_succ, List.setIfInBounds_toArray, List.set_cons_zero, List.set_cons_succ]
        refine wpAnyH_done (by kernel_rfl) ?_ _
        try go_wp2_with fail
        go_meet
        exact ⟨_, _, _, _, _, rfl, rfl, HX⟩
      · go_simp
        have hA9 : Below V0.heap.size V0 (V0.alloc (.cells #[.slice none 0 0] 26)) := (Below.refl _ _).alloc (Nat.le_refl _) _
        have qB9 : (V0.alloc (.cells #[.slice none 0 0] 26)).heap[V0.heap.size]? = some (.cells #[.slice none 0 0] 26 (0, 0)) := heap_alloc_new _ _
        have sz0 := hHeld.size
        refine hK.out _ _ (hHeld.trans (hA9.mono hHeld.size)) (fun hHeld => ?_)
        clear hK K
        try simp only [Act.put, List.getElem_toArray, List.getElem_cons_zero, List.getElem_cons_succ, List.setIfInBounds_toArray, List.set_cons_zero, List.set_cons_succ]
        refine wpAnyH_ready (rs := [4]) (by kernel_rfl) (by simp) ?_
        refine AllReadyH.cons rfl (fun K hK => ?_) AllReadyH.nil
        go_simp
        refine (implAll_any _ _ _ _ _ (zs.take kp) _ (X5.cv.below hHeld) (SK.below hHeld)).mono ?_
        rintro e wq hp
        have hq := hp.av HA1.out
        dsimp only at hq
        clear hp
        obtain ⟨u9, c9, b9, d9, rfl, cv9, sb9, hb9, hset9⟩ := hq
        have hHe2 := hHeld.trans (hb9.mono hHeld.size)
        have qB5 := heap_b qB9 hb9
        have fz9 : wq.frozen? ⟨V0.heap.size, 0, none⟩ = false := frozen_of_row _ _ 0 _ _ qB5
        have c90 : wq.cell? ⟨V0.heap.size, 0, none⟩ = some (.slice none 0 0) := cell_of_row _ _ 0 _ _ _ qB5
        refine hK.out _ _ hHe2 (fun hHeld => ?_)
        clear hK K
        try simp only [Act.put, List.getElem_toArray, List.getElem_cons_zero, List.getElem_cons_succ, List.setIfInBounds_toArray, List.set_cons_zero, List.set_cons_succ]
        refine wpAnyH_take (i := 5) (v := .tuple #[.agg #[.slice u9 N1 c9], .slice b9 M1 d9]) rfl (by kernel_rfl) (by kernel_rfl) (by kernel_rfl) (fun _ _ _ h => h) (Or.inl ⟨by rfl, fun w' hSw => ?_⟩) (by assumption) ?_
        · (try dsimp only at hSw); skip; go_simp
        try simp only [Act.put, List.getElem_toArray, List.getElem_cons_zero, List.getElem_cons_succ, List.setIfInBounds_toArray, List.set_cons_zero, List.set_cons_succ]
        refine wpAnyH_take (i := 6) (v := .agg #[.slice u9 N1 c9]) rfl (by kernel_rfl) (by kernel_rfl) (by kernel_rfl) (fun _ _ _ h => h) (Or.inl ⟨by rfl, fun w' hSw => ?_⟩) (by assumption) ?_
        · (try dsimp only at hSw); skip; go_simp
        try simp only [Act.put, List.getElem_toArray, List.getElem_cons_zero, List.getElem_cons_succ, List.setIfInBounds_toArray, List.set_cons_zero, List.set_cons_succ]
        refine wpAnyH_take (i := 7) (v := .slice b9 M1 d9) rfl (by kernel_rfl) (by kernel_rfl) (by kernel_rfl) (fun _ _ _ h => h) (Or.inl ⟨by rfl, fun w' hSw => ?_⟩) (by assumption) ?_
        · (try dsimp only at hSw); skip; go_simp
        try simp only [Act.put, List.getElem_toArray, List.getElem_cons_zero, List.getElem_cons_succ, List.setIfInBounds_toArray, List.set_cons_zero, List.set_cons_succ]
        have hb6 : Below w5.heap.size w5 (wq.setCell ⟨V0.heap.size, 0, none⟩ (.slice u9 N1 c9)) := hHe2.setCell (p := ⟨V0.heap.size, 0, none⟩) sz0 _
        have qB : (wq.setCell ⟨V0.heap.size, 0, none⟩ (.slice u9 N1 c9)).heap[V0.heap.size]? = some (.cells #[.slice u9 N1 c9] 26 (0, 0)) := by rw [heap_setCell_same _ _ 0 _ _ _ qB5]; rfl
        obtain ⟨cv6, sb6⟩ := hset9 V0.heap.size (.slice u9 N1 c9) (by simp)
        have HX := hide (And.intro (Bc.mk qB cv6) (And.intro sb6 hb6))
        clear cv9 sb9 hb9 hHe2 hA9 qB9 qB5 qB hset9 cv6 sb6
        refine wpAnyH_ready (rs := [9]) (by kernel_rfl) (by simp) ?_
        refine AllReadyH.cons rfl (fun K hK => ?_) AllReadyH.nil
        go_simp
        refine hK.out _ _ hb6 (fun hHeld => ?_)
        clear hK K
        try simp only [Act.put, List.getElem_toArray, List.getElem_cons_zero, List.getElem_cons_succ, List.setIfInBounds_toArray, List.set_cons_zero, List.set_cons_succ]
        refine wpAnyH_ready (rs := [10]) (by kernel_rfl) (by simp) ?_
        refine AllReadyH.cons rfl (fun K hK => ?_) AllReadyH.nil
        go_simp
        refine hK.out _ _ hHeld (fun hHeld => ?_)
        clear hK K hHeld
        try simp only [Act.put, List.getElem_toArray, List.getElem_cons_zero, List.getElem_cons_succ, List.setIfInBounds_toArray, List.set_cons_zero, List.set_cons_succ]
        refine wpAnyH_done (by kernel_rfl) ?_ _
        try go_wp2_with fail
        go_meet
        exact ⟨_, _, _, _, _, rfl, rfl, HX⟩
    case rest =>
      obtain ⟨W9, hW⟩ : ∃ W, W = wc := ⟨_, rfl⟩
      subst hW
      obtain ⟨B9, u9, v9, c9, d9, rfl, rfl, HC9⟩ := hcut
      obtain ⟨A9, S9, hb9⟩ := HC9.out
      have X9 := X5.below hb9
      have N9 := N5.below hb9
      have T9 := T5.below hb9
      have ST9 := STK.below hb9
      have HB9 := hide (HB5.out.trans (hb9.mono HB5.out.size))
      clear HC9 hb9 X5 N5 T5 STK SK S5 HB5 x0 hvh
      have x0 := A9.cell
      go_wp2
      go_cut [12, 13] (fun p c wc => ∃ (B : Nat) (u vb : Option Addr) (cc d : Nat), p = .pointer (some ⟨B, 0, none⟩) ∧ c = .slice vb M2 d ∧ Hid (Bc wc B u N2 cc D2 ∧ Sb wc (.slice vb M2 d) M2 H2 ∧ Below W9.heap.size W9 wc))
      case first =>
        refine wp_region_held_drew (S := fun w' => Below W9.heap.size W9 w') (by kernel_rfl) ((Below.refl _ _).drew) (fun hHeld => ?_)
        refine wpAnyH_take (i := 0) (v := .agg #[.slice u9 N1 c9]) rfl (by kernel_rfl) (by kernel_rfl) (by kernel_rfl) (fun _ _ _ h => h) (Or.inl ⟨by rfl, fun w' hSw => ?_⟩) (by assumption) ?_
        · (try dsimp only at hSw); have z0 := keepc hSw x0; go_simp
        try simp only [Act.put, List.getElem_toArray, List.getElem_cons_zero, List.getElem_cons_succ, List.setIfInBounds_toArray, List.set_cons_zero, List.set_cons_succ]
        refine wpAnyH_take (i := 1) (v := .slice la M lc) rfl (by kernel_rfl) (by kernel_rfl) (by kernel_rfl) (fun _ _ _ h => h) (Or.inl ⟨by rfl, fun w' hSw => ?_⟩) (by assumption) ?_
        · (try dsimp only at hSw); skip; go_simp
        try simp only [Act.put, List.getElem_toArray, List.getElem_cons_zero, List.getElem_cons_succ, List.setIfInBounds_toArray, List.set_cons_zero, List.set_cons_succ]
        refine wpAnyH_take (i := 2) (v := .int .i64 kp) rfl (by kernel_rfl) (by kernel_rfl) (by kernel_rfl) (fun _ _ _ h => h) (Or.inl ⟨by rfl, fun w' hSw => ?_⟩) (by assumption) ?_
        · (try dsimp only at hSw); skip; go_simp
        try simp only [Act.put, List.getElem_toArray, List.getElem_cons_zero, List.getElem_cons_succ, List.setIfInBounds_toArray, List.set_cons_zero, List.set_cons_succ]
        refine wpAnyH_take (i := 3) (v := vt) rfl (by kernel_rfl) (by kernel_rfl) (by kernel_rfl) (fun _ _ _ h => h) (Or.inl ⟨by rfl, fun w' hSw => ?_⟩) (by assumption) ?_
        · (try dsimp only at hSw); skip; go_simp
        try simp only [Act.put, List.getElem_toArray, List.getElem_cons_zero, List.getElem_cons_succ, List.setIfInBounds_toArray, List.set_cons_zero, List.set_cons_succ]
        obtain ⟨V0, hV0⟩ : ∃ V, W9.drew = V := ⟨_, rfl⟩
        rw [hV0] at hHeld ⊢
        clear hV0
        have hHe0 := hHeld
        refine wpAnyH_ready (rs := [4, 8]) (by kernel_rfl) (by simp) ?_
        refine AllReadyH.cons rfl (fun K hK => ?_) (AllReadyH.cons rfl (fun K hK => ?_) AllReadyH.nil)
        · go_simp
          refine (implAll_any _ _ _ _ _ (zs.drop kp) _ (A9.cv.below hHeld) (ST9.below hHeld)).mono ?_
          rintro e wq hp
          have hq := hp.av HA2.out
          dsimp only at hq
          clear hp
          obtain ⟨u9, c9, b9, d9, rfl, cv9, sb9, hb9, hset9⟩ := hq
          have hHe2 := hHeld.trans (hb9.mono hHeld.size)
          refine hK.out _ _ hHe2 (fun hHeld => ?_)
          clear hK K
          try simp only [Act.put, List.getElem_toArray, List.getElem_cons_zero, List.getElem_cons_succ, List.setIfInBounds_toArray, List.set_cons_zero, List.set_cons_succ]
          refine wpAnyH_take (i := 5) (v := .tuple #[.agg #[.slice u9 N2 c9], .slice b9 M2 d9]) rfl (by kernel_rfl) (by kernel_rfl) (by kernel_rfl) (fun _ _ _ h => h) (Or.inl ⟨by rfl, fun w' hSw => ?_⟩) (by assumption) ?_
          · (try dsimp only at hSw); skip; go_simp
          try simp only [Act.put, List.getElem_toArray, List.getElem_cons_zero, List.getElem_cons_succ, List.setIfInBounds_toArray, List.set_cons_zero, List.set_cons_succ]
          refine wpAnyH_take (i := 6) (v := .agg #[.slice u9 N2 c9]) rfl (by kernel_rfl) (by kernel_rfl) (by kernel_rfl) (fun _ _ _ h => h) (Or.inl ⟨by rfl, fun w' hSw => ?_⟩) (by assumption) ?_
          · (try dsimp only at hSw); skip; go_simp
          try simp only [Act.put, List.getElem_toArray, List.getElem_cons_zero, List.getElem_cons_succ, List.setIfInBounds_toArray, List.set_cons_zero, List.set_cons_succ]
          refine wpAnyH_take (i := 7) (v := .slice b9 M2 d9) rfl (by kernel_rfl) (by kernel_rfl) (by kernel_rfl) (fun _ _ _ h => h) (Or.inl ⟨by rfl, fun w' hSw => ?_⟩) (by assumption) ?_
          · (try dsimp only at hSw); skip; go_simp
          try simp only [Act.put, List.getElem_toArray, List.getElem_cons_zero, List.getElem_cons_succ, List.setIfInBounds_toArray, List.set_cons_zero, List.set_cons_succ]
          refine wpAnyH_ready (rs := [8]) (by kernel_rfl) (by simp) ?_
          refine AllReadyH.cons rfl (fun K hK => ?_) AllReadyH.nil
          go_simp
          have hA9 : Below wq.heap.size wq (wq.alloc (.cells #[.slice none 0 0] 26)) := (Below.refl _ _).alloc (Nat.le_refl _) _
          refine hK.out _ _ (hHeld.trans (hA9.mono hHeld.size)) (fun hHeld => ?_)
          clear hK K
          try simp only [Act.put, List.getElem_toArray, List.getElem_cons_zero, List.getElem_cons_succ, List.setIfInBounds_toArray, List.set_cons_zero, List.set_cons_succ]
          obtain ⟨bc9, hA6⟩ := Bc.new cv9
          have hb6 := hHe2.trans (hA6.mono hHe2.size)
          have HX := hide (And.intro bc9 (And.intro (sb9.below hA6) hb6))
          clear cv9 sb9 hb9 hA6 hHe2 hA9 bc9 hset9
          refine wpAnyH_ready (rs := [9]) (by kernel_rfl) (by simp) ?_
          refine AllReadyH.cons rfl (fun K hK => ?_) AllReadyH.nil
          go_simp
          refine hK.out _ _ hb6 (fun hHeld => ?_)
          clear hK K
          try simp only [Act.put, List.getElem_toArray, List.getElem_cons_zero, List.getElem_cons_succ, List.setIfInBounds_toArray, List.set_cons_zero, List.set_cons_succ]
          refine wpAnyH_ready (rs := [10]) (by kernel_rfl) (by simp) ?_
          refine AllReadyH.cons rfl (fun K hK => ?_) AllReadyH.nil
          go_simp
          refine hK.out _ _ hHeld (fun hHeld => ?_)
          clear hK K hHeld
          try simp only [Act.put, List.getElem_toArray, List.getElem_cons_zero, List.getElem_cons_succ, List.setIfInBounds_toArray, List.set_cons_zero, List.set_cons_succ]
          refine wpAnyH_done (by kernel_rfl) ?_ _
          try go_wp2_with fail
          go_meet
          exact ⟨_, _, _, _, _, rfl, rfl, HX⟩
        · go_simp
          have hA9 : Below V0.heap.size V0 (V0.alloc (.cells #[.slice none 0 0] 26)) := (Below.refl _ _).alloc (Nat.le_refl _) _
          have qB9 : (V0.alloc (.cells #[.slice none 0 0] 26)).heap[V0.heap.size]? = some (.cells #[.slice none 0 0] 26 (0, 0)) := heap_alloc_new _ _
          have sz0 := hHeld.size
          refine hK.out _ _ (hHeld.trans (hA9.mono hHeld.size)) (fun hHeld => ?_)
          clear hK K
          try simp only [Act.put, List.getElem_toArray, List.getElem_cons_zero, List.getElem_cons_succ, List.setIfInBounds_toArray, List.set_cons_zero, List.set_cons_succ]
          refine wpAnyH_ready (rs := [4]) (by kernel_rfl) (by simp) ?_
          refine AllReadyH.cons rfl (fun K hK => ?_) AllReadyH.nil
          go_simp
          refine (implAll_any _ _ _ _ _ (zs.drop kp) _ (A9.cv.below hHeld) (ST9.below hHeld)).mono ?_
          rintro e wq hp
          have hq := hp.av HA2.out
          dsimp only at hq
          clear hp
          obtain ⟨u9, c9, b9, d9, rfl, cv9, sb9, hb9, hset9⟩ := hq
          have hHe2 := hHeld.trans (hb9.mono hHeld.size)
          have qB5 := heap_b qB9 hb9
          have fz9 : wq.frozen? ⟨V0.heap.size, 0, none⟩ = false := frozen_of_row _ _ 0 _ _ qB5
          have c90 : wq.cell? ⟨V0.heap.size, 0, none⟩ = some (.slice none 0 0) := cell_of_row _ _ 0 _ _ _ qB5
          refine hK.out _ _ hHe2 (fun hHeld => ?_)
          clear hK K
          try simp only [Act.put, List.getElem_toArray, List.getElem_cons_zero, List.getElem_cons_succ, List.setIfInBounds_toArray, List.set_cons_zero, List.set_cons_succ]
          refine wpAnyH_take (i := 5) (v := .tuple #[.agg #[.slice u9 N2 c9], .slice b9 M2 d9]) rfl (by kernel_rfl) (by kernel_rfl) (by kernel_rfl) (fun _ _ _ h => h) (Or.inl ⟨by rfl, fun w' hSw => ?_⟩) (by assumption) ?_
          · (try dsimp only at hSw); skip; go_simp
          try simp only [Act.put, List.getElem_toArray, List.getElem_cons_zero, List.getElem_cons_succ, List.setIfInBounds_toArray, List.set_cons_zero, List.set_cons_succ]
          refine wpAnyH_take (i := 6) (v := .agg #[.slice u9 N2 c9]) rfl (by kernel_rfl) (by kernel_rfl) (by kernel_rfl) (fun _ _ _ h => h) (Or.inl ⟨by rfl, fun w' hSw => ?_⟩) (by assumption) ?_
          · (try dsimp only at hSw); skip; go_simp
          try simp only [Act.put, List.getElem_toArray, List.getElem_cons_zero, List.getElem_cons_succ, List.setIfInBounds_toArray, List.set_cons_zero, List.set_cons_succ]
          refine wpAnyH_take (i := 7) (v := .slice b9 M2 d9) rfl (by kernel_rfl) (by kernel_rfl) (by kernel_rfl) (fun _ _ _ h => h) (Or.inl ⟨by rfl, fun w' hSw => ?_⟩) (by assumption) ?_
          · (try dsimp only at hSw); skip; go_simp
          try simp only [Act.put, List.getElem_toArray, List.getElem_cons_zero, List.getElem_cons_succ, List.setIfInBounds_toArray, List.set_cons_zero, List.set_cons_succ]
          have hb6 : Below W9.heap.size W9 (wq.setCell ⟨V0.heap.size, 0, none⟩ (.slice u9 N2 c9)) := hHe2.setCell (p := ⟨V0.heap.size, 0, none⟩) sz0 _
          have qB : (wq.setCell ⟨V0.heap.size, 0, none⟩ (.slice u9 N2 c9)).heap[V0.heap.size]? = some (.cells #[.slice u9 N2 c9] 26 (0, 0)) := by rw [heap_setCell_same _ _ 0 _ _ _ qB5]; rfl
          obtain ⟨cv6, sb6⟩ := hset9 V0.heap.size (.slice u9 N2 c9) (by simp)
          have HX := hide (And.intro (Bc.mk qB cv6) (And.intro sb6 hb6))
          clear cv9 sb9 hb9 hHe2 hA9 qB9 qB5 qB hset9 cv6 sb6
          refine wpAnyH_ready (rs := [9]) (by kernel_rfl) (by simp) ?_
          refine AllReadyH.cons rfl (fun K hK => ?_) AllReadyH.nil
          go_simp
          refine hK.out _ _ hb6 (fun hHeld => ?_)
          clear hK K
          try simp only [Act.put, List.getElem_toArray, List.getElem_cons_zero, List.getElem_cons_succ, List.setIfInBounds_toArray, List.set_cons_zero, List.set_cons_succ]
          refine wpAnyH_ready (rs := [10]) (by kernel_rfl) (by simp) ?_
          refine AllReadyH.cons rfl (fun K hK => ?_) AllReadyH.nil
          go_simp
          refine hK.out _ _ hHeld (fun hHeld => ?_)
          clear hK K hHeld
          try simp only [Act.put, List.getElem_toArray, List.getElem_cons_zero, List.getElem_cons_succ, List.setIfInBounds_toArray, List.set_cons_zero, List.set_cons_succ]
          refine wpAnyH_done (by kernel_rfl) ?_ _
          try go_wp2_with fail
          go_meet
          exact ⟨_, _, _, _, _, rfl, rfl, HX⟩
      case rest =>
        obtain ⟨Wt, hW⟩ : ∃ W, W = wc := ⟨_, rfl⟩
        subst hW
        obtain ⟨Bt, ut, vbt, ct, dt, rfl, rfl, HCt⟩ := hcut
        obtain ⟨At, St, hbt⟩ := HCt.out
        have Nt := N9.below hbt
        have Tt := T9.below hbt
        have S9t := S9.below hbt
        have HBt := hide (HB9.out.trans (hbt.mono HB9.out.size))
        clear HCt hbt X9 N9 T9 ST9 S9 HB9 A9 x0 hvt
        have x0 := At.cell
        have z0 := Nt.cell
        go_wp2_with fail
        refine (sameCache_same _ _ N2 (fun _ => 4) D2 _ At.cv Nt.cv (by omega) (fun _ _ => by omega)).mono ?_
        rintro e wu ⟨rfl, hbu⟩
        have hAu : Below wu.heap.size wu (wu.alloc (.cells #[] 4)) := (Below.refl _ _).alloc (Nat.le_refl _) _
        obtain ⟨v1, wA, hr1, ow1, hg1⟩ := append_bools (wu.alloc (.cells #[] 4)) wu.heap.size (.slice (some ⟨wu.heap.size, 0, none⟩) 0 0) (.slice v9 M1 d9) 0 M1 [] H1 30 (empty_own wu 4 1) ((S9t.below hbu).below hAu) (by omega) (by omega) (by simp)
        have hB1 : Below wu.heap.size wu wA := hAu.grown hg1 hAu.size (fun g e => by simp only [Value.ownBlock, Option.some.injEq] at e; omega)
        obtain ⟨v2, wB, hr2, ow2, hg2⟩ := append_bools wA wu.heap.size v1 (.slice vbt M2 dt) (0 + M1) M2 ([] ++ bl H1 M1) H2 30 ow1 ((St.below hbu).below hB1) (by omega) (by omega) hB1.size
        rw [List.nil_append, HE4.out, Nat.zero_add, HE3.out] at ow2
        have hB2 : Below wu.heap.size wu wB := hB1.grown hg2 hB1.size (fun g e => (own_at ow1 e).1)
        have T6u := (Tt.below hbu).below hB2
        have HBu := hide ((HBt.out.trans (hbu.mono HBt.out.size)).trans (hB2.mono (HBt.out.trans (hbu.mono HBt.out.size)).size))
        have SV : Sb wB v2 M H := Rb.sb ow2
        clear hbu hAu ow1 hg1 hB1 ow2 hg2 hB2 St S9t Tt HBt At Nt x0 z0
        go_wp2_with (first | (at_builtin; refine wpList_append_ok (by rfl) _ _ 30 (by rfl) (by rfl) (by rfl) hr1 ?_) | (at_builtin; refine wpList_append_ok (by rfl) _ _ 30 (by rfl) (by rfl) (by rfl) hr2 ?_) | fail)
        refine (sameBools_same _ _ M H _ SV T6u (by omega)).mono ?_
        rintro e wz ⟨rfl, hbz⟩
        have HBz := hide (HBu.out.trans (hbz.mono HBu.out.size))
        clear hbz HBu SV T6u
        go_wp2
        go_ret
        exact ⟨rfl, HBz.out⟩
  · have hmi : ¬ ((M : Int) = (ln : Int)) := by omega
    have hmb : ((M : Int) == (ln : Int)) = false := by simp; omega
    clear X5 S5 hml HHD HTL
    go_wp2_with fail
    refine (sameBools_same _ _ M H _ T5 U5 (by omega)).mono ?_
    rintro e w6 ⟨rfl, hbb⟩
    have N6 := N5.below hbb
    have P6 := P5.below hbb
    have HB6 := hide (HB5.out.trans (hbb.mono HB5.out.size))
    clear hbb N5 P5 T5 U5 HB5
    have x0 := N6.cell
    have z0 := P6.cell
    go_wp2_with fail
    refine (sameCache_same _ _ N (fun _ => 4) D _ N6.cv P6.cv (by omega) (fun _ _ => by omega)).mono ?_
    rintro e w7 ⟨rfl, hbb⟩
    have HB7 := hide (HB6.out.trans (hbb.mono HB6.out.size))
    clear hbb N6 P6 HB6 x0 z0
    go_wp2
    go_ret
    exact ⟨rfl, HB7.out⟩

set_option maxRecDepth 100000 in
theorem lifted (os : Os) (started : os.Started) (H : Type) (enc : TypeId × Value → H) :
    ReturnsInHanded {} Try.checked os 3 .any (Rows.fnLookPiecesSpec.pre6 enc Try.prog Try.f3 Rows.fnLookPiecesRow.domain false) (Rows.fnLookPiecesSpec.post enc Try.prog Try.f3 false true false false) := by
  refine returnsInHanded_of_change (C := Try.checked) own started (by kernel_rfl) Try.func3
    (ChangeSpec.witness6 (enc := enc) (C := Try.checked) false ⟨#[], #[.slice none 0 0], []⟩ 8 (by kernel_rfl) (by kernel_rfl) (by kernel_rfl) (by kernel_rfl)) ?_
  intro W base args ds gs before hval0 hW hcnd _
  have hval : ∀ (j : Nat) t v, Try.f3.params[j]? = some t → args[j]? = some v → Value.okWide Try.prog W .any base t v := hval0
  have hW' := hW
  obtain ⟨p, q, hA0, hV, rfl, hfz, hnd⟩ := hW
  have hA : DataW.TrodAll enc Try.prog W 0 (fun _ => true) true Try.f3.params.toList args.toList ds p := hA0
  rw [Try.params3] at hA hval
  obtain ⟨v0, vs0, d0, ds0, p0, q0, hargs, rfl, rfl, h0, r0⟩ := trodAll_cons hA
  obtain ⟨rfl, rfl, rfl⟩ := trodAll_nil r0
  obtain rfl : args = #[v0] := by cases args; simp_all
  obtain ⟨rfl, rfl⟩ := trodVars_none hV
  obtain ⟨a0, len0, cap0, rfl⟩ := okWide_slice Try.underlying22 (hval 0 22 v0 rfl rfl)
  have k0 := h0
  have lt0 : ∀ x ∈ p0, x.block < W.heap.size := by obtain ⟨m, hm⟩ := k0; exact DataW.trod_lt m _ _ _ hm
  obtain ⟨z0, w0⟩ : ∃ zs, IsRow .u8 W a0 len0 cap0 zs := by
    obtain ⟨fuel, hf⟩ := h0
    rcases open_ints Try.underlying22 Try.underlying5 (by kernel_rfl) hf with ⟨hcs, _⟩ | ⟨x, l, c, zs, hcs, _, hl, hm, hz, _, hcell, hwz⟩
    · simp [Value.cells] at hcs
      obtain ⟨rfl, rfl, rfl⟩ := hcs
      exact ⟨[], .inl ⟨rfl, rfl, rfl, rfl⟩⟩
    · simp [Value.cells] at hcs
      obtain ⟨rfl, rfl, rfl⟩ := hcs
      exact ⟨zs, .inr ⟨_, rfl, hl, hm, by simpa using hz, hcell, hwz⟩⟩
  clear hA0 hval0
  refine (walk a0 len0 cap0 W (row_bt w0)).mono fun e W' ⟨he, bel⟩ => ?_
  subst he
  exact ⟨_, rfl, _, _, _, [], _, [], hW', trodAll_mk1 (shut_bool Try.underlying4 _), (trodAll_cons_mk (Below.trod laidOut (by kernel_rfl) (of_decide_eq_true (by kernel_rfl)) k0 bel lt0) trodAll_mk0), rfl, bel.frame _, fun h => by cases h⟩

theorem over : Rows.fnLookPiecesRow.holds Try.pinned (OpenSpec.ofChange Rows.fnLookPiecesSpec) :=
  OpenClaim.holds_of_wide 3 Try.f3 rfl rfl rfl rfl rfl rfl rfl ⟨rfl, rfl, rfl, rfl, rfl⟩ rfl rfl rfl rfl rfl (by kernel_rfl) Try.func3 (by kernel_rfl)
    (of_decide_eq_true (by kernel_rfl)) (by unfold Func.isWrapper; first | (rw [if_pos (by decide +kernel)]; kernel_rfl) | (rw [if_neg (by decide +kernel)]; exact ⟨rfl, rfl⟩))
    (fun os started H enc _ => lifted os started H enc)

theorem proved : Rows.FnLookPiecesSaid := over
end Go.Proofs.Ytlijgkodcbnhbaa.fnLookPieces

namespace Go.Proofs.Ytlijgkodcbnhbaa
theorem fnLookPieces_holds : Rows.FnLookPiecesSaid := fnLookPieces.proved
end Go.Proofs.Ytlijgkodcbnhbaa
