/- spec.l9Copy of a cache of four ways in each of two sets (written by mkCaC2.py) -/
import Derived.Test.YtlijgkodcbnhbaaOzA
namespace Go.Proofs.Ytlijgkodcbnhbaa
open Go.RowKit
set_option linter.unusedVariables false
set_option linter.unusedSimpArgs false

theorem w8_at {W : World} {p po : Nat} {s : Sm} (h : ∀ j, j < 4 → W.cell? ⟨p, po + j * 2, none⟩ = some (.bool (s.u j)) ∧ W.cell? ⟨p, po + j * 2 + 1, none⟩ = some (.int .i64 (s.a j))) : ∀ j u, (w8 s)[j]? = some u → W.cell? ((⟨p, po, none⟩ : Addr).add j) = some u := by
  intro j u hu
  rw [addr_add]
  have hj : j < 8 := by
    by_cases hj : j < 8
    · exact hj
    · rw [List.getElem?_eq_none (by simp; omega)] at hu; cases hu
  have : j = 0 ∨ j = 1 ∨ j = 2 ∨ j = 3 ∨ j = 4 ∨ j = 5 ∨ j = 6 ∨ j = 7 := by omega
  rcases this with rfl | rfl | rfl | rfl | rfl | rfl | rfl | rfl <;> simp at hu <;> subst hu
  · exact (h 0 (by omega)).1
  · exact (h 0 (by omega)).2
  · exact (h 1 (by omega)).1
  · exact (h 1 (by omega)).2
  · exact (h 2 (by omega)).1
  · exact (h 2 (by omega)).2
  · exact (h 3 (by omega)).1
  · exact (h 3 (by omega)).2

def Sz (w : World) (x v : Value) (W : World) : Prop := Below w.heap.size w W ∧ W.cell? ⟨w.heap.size, 0, none⟩ = some x ∧ W.cell? ⟨w.heap.size + 1 + 1, 0, none⟩ = some v
theorem Sz.keep {w W W' : World} {x v : Value} (h : Sz w x v W) (hb : Below W.heap.size W W') : Sz w x v W' := ⟨h.1.trans (hb.mono h.1.size), keepc hb h.2.1, keepc hb h.2.2⟩

set_option maxHeartbeats 40000000 in
set_option maxRecDepth 20000 in
theorem copy9_any (v : Value) (s t : Sm) (w : World) (hv : Cv w v 2 (fun _ => 4) (two s t)) : Calls Try.prog 19 #[.agg #[v]] w fun e w' => ∃ G c ib, e = .returned (.agg #[sl G 2 c]) ∧ Cg w' w.heap.size (sl G 2 c) 2 (fun _ => 4) (two s t) G ib ∧ Below w.heap.size w w' := by
  obtain ⟨i0, hi, hz0, hz1, hz2⟩ := info_parts infoCSetQ
  obtain ⟨j0, ji, jz0, jz1, jz2⟩ := info_parts infoWayQ
  obtain ⟨ad, cap, rfl, hvv⟩ := hv
  obtain ⟨b, off, rfl, hv2⟩ := hvv (by omega)
  clear hvv
  obtain ⟨W, hW⟩ : ∃ W, ((w.alloc (.cells #[.slice (some ⟨b, off, none⟩) 2 cap] 26)).alloc (.cells #[.slice none 0 0] 26)).alloc (.cells #[.slice none 0 0] 26) = W := ⟨_, rfl⟩
  have hWs : W.heap.size = w.heap.size + 1 + 1 + 1 := by rw [← hW]; simp
  have h0 : W.heap[w.heap.size]? = some (.cells #[.slice (some ⟨b, off, none⟩) 2 cap] 26 (0, 0)) := by rw [← hW]; exact heap_a (heap_a (heap_alloc_new _ _) _) _
  have hBW : Below w.heap.size w W := by rw [← hW]; exact (((Below.refl _ _).alloc (Nat.le_refl _) _).alloc (by simp) _).alloc (by simp; omega) _
  have h1 : W.heap[w.heap.size + 1]? = some (.cells #[.slice none 0 0] 26 (0, 0)) := by
    rw [← hW]
    have := heap_alloc_new (w.alloc (.cells #[.slice (some ⟨b, off, none⟩) 2 cap] 26)) (.cells #[.slice none 0 0] 26)
    simp only [World.size_alloc] at this
    exact heap_a this _
  have h2 : W.heap[w.heap.size + 1 + 1]? = some (.cells #[.slice none 0 0] 26 (0, 0)) := by
    rw [← hW]
    have := heap_alloc_new ((w.alloc (.cells #[.slice (some ⟨b, off, none⟩) 2 cap] 26)).alloc (.cells #[.slice none 0 0] 26)) (.cells #[.slice none 0 0] 26)
    simpa only [World.size_alloc] using this
  have HS : Hid (Bd w W (w.heap.size + 1 + 1 + 1) (w.heap.size + 1 + 1) (w.heap.size + 1) s t 0) := hide ⟨hBW, ⟨by omega, h2⟩, h1, by omega, by omega, by omega, by omega⟩
  have hx0 := cell_of_row _ _ 0 _ _ _ h0
  simp at hx0
  subst hW
  clear h0 h1 h2 hWs hBW
  go_enter Try.func19, Try.ntmps19
  go_wp2
  go_loopw [4] (fun i wr => ∃ k : Nat, k ≤ 2 ∧ i = .int .i64 k ∧ wr.cell? ⟨w.heap.size, 0, none⟩ = some (.slice (some ⟨b, off, none⟩) 2 cap) ∧ Hid (Bd w wr (w.heap.size + 1 + 1 + 1) (w.heap.size + 1 + 1) (w.heap.size + 1) s t k)) (fun i _ => 2 - (intOf i).toNat)
  case atStart => exact ⟨0, by omega, rfl, hx0, HS⟩
  case round =>
    clear HS hx0
    obtain ⟨k, hk, rfl, hx, HS⟩ := hrel
    have hk3 : k = 0 ∨ k = 1 ∨ k = 2 := by omega
    rcases hk3 with rfl | rfl | rfl
    · have hbd := HS.out
      have hcb : wr.heap[w.heap.size + 1 + 1]? = some (.cells #[.slice none 0 0] 26 (0, 0)) := hbd.st.2
      have c0 : wr.cell? ⟨w.heap.size + 1 + 1, 0, none⟩ = some (.slice none 0 0) := cell_of_row _ _ 0 _ _ _ hcb
      have hsz := hbd.size
      obtain ⟨ia, ic, q0', q1', hr0⟩ := hv2 0 (by omega)
      have q0' : w.cell? ⟨b, off, none⟩ = some (.int .i64 s.b) := q0'
      have q1' : w.cell? ⟨b, off + 1, none⟩ = some (.slice ia 4 ic) := q1'
      obtain ⟨ia', ic', hvx, hw⟩ := hr0.below hbd.bel
      simp only [Value.slice.injEq, true_and] at hvx
      obtain ⟨rfl, rfl⟩ := hvx
      obtain ⟨p, po, rfl, hw2⟩ := hw (by omega)
      have hA : Below wr.heap.size wr (wr.drew.alloc (.cells #[] 40)) := ((Below.refl _ _).drew).alloc (Nat.le_refl _) _
      have hnews := w8_at (W := wr.drew.alloc (.cells #[] 40)) (s := s) (fun j hj => ⟨keepc hA (hw2 j hj).1, keepc hA (hw2 j hj).2⟩)
      clear HS hr0 hw hw2 hv2
      go_wp2
      refine wp_region_but (z := 20) (S := Sz w (.slice (some ⟨b, off, none⟩) 2 cap) (.slice none 0 0)) (by kernel_rfl) ⟨hbd.bel.drew, hx, c0⟩ (fun hHeld => ?_)
      refine wpAnyK_take (i := 0) (v := .pointer (some ⟨w.heap.size + 1 + 1, 0, none⟩)) rfl (by kernel_rfl) (by kernel_rfl) (by kernel_rfl) (by kernel_rfl) (fun _ _ _ h => h) (Or.inl ⟨by rfl, fun w' hSw => ?_⟩) (by assumption) ?_
      · obtain ⟨hSb, hSx, hSc⟩ := hSw; have hq0 := Below.keep hSb _ _ q0'; have hq1 := Below.keep hSb _ _ q1'; go_simp
      try simp only [Act.put, List.getElem_toArray, List.getElem_cons_zero, List.getElem_cons_succ, List.setIfInBounds_toArray, List.set_cons_zero, List.set_cons_succ]
      refine wpAnyK_take (i := 1) (v := .slice none 0 0) rfl (by kernel_rfl) (by kernel_rfl) (by kernel_rfl) (by kernel_rfl) (fun _ _ _ h => h) (Or.inl ⟨by rfl, fun w' hSw => ?_⟩) (by assumption) ?_
      · obtain ⟨hSb, hSx, hSc⟩ := hSw; have hq0 := Below.keep hSb _ _ q0'; have hq1 := Below.keep hSb _ _ q1'; go_simp
      try simp only [Act.put, List.getElem_toArray, List.getElem_cons_zero, List.getElem_cons_succ, List.setIfInBounds_toArray, List.set_cons_zero, List.set_cons_succ]
      refine wpAnyK_take (i := 2) (v := .pointer (some ⟨w.heap.size, 0, none⟩)) rfl (by kernel_rfl) (by kernel_rfl) (by kernel_rfl) (by kernel_rfl) (fun _ _ _ h => h) (Or.inl ⟨by rfl, fun w' hSw => ?_⟩) (by assumption) ?_
      · obtain ⟨hSb, hSx, hSc⟩ := hSw; have hq0 := Below.keep hSb _ _ q0'; have hq1 := Below.keep hSb _ _ q1'; go_simp
      try simp only [Act.put, List.getElem_toArray, List.getElem_cons_zero, List.getElem_cons_succ, List.setIfInBounds_toArray, List.set_cons_zero, List.set_cons_succ]
      refine wpAnyK_take (i := 3) (v := (.slice (some ⟨b, off, none⟩) 2 cap)) rfl (by kernel_rfl) (by kernel_rfl) (by kernel_rfl) (by kernel_rfl) (fun _ _ _ h => h) (Or.inl ⟨by rfl, fun w' hSw => ?_⟩) (by assumption) ?_
      · obtain ⟨hSb, hSx, hSc⟩ := hSw; have hq0 := Below.keep hSb _ _ q0'; have hq1 := Below.keep hSb _ _ q1'; go_simp
      try simp only [Act.put, List.getElem_toArray, List.getElem_cons_zero, List.getElem_cons_succ, List.setIfInBounds_toArray, List.set_cons_zero, List.set_cons_succ]
      refine wpAnyK_take (i := 4) (v := .int .i64 (0 : Nat)) rfl (by kernel_rfl) (by kernel_rfl) (by kernel_rfl) (by kernel_rfl) (fun _ _ _ h => h) (Or.inl ⟨by rfl, fun w' hSw => ?_⟩) (by assumption) ?_
      · obtain ⟨hSb, hSx, hSc⟩ := hSw; have hq0 := Below.keep hSb _ _ q0'; have hq1 := Below.keep hSb _ _ q1'; go_simp
      try simp only [Act.put, List.getElem_toArray, List.getElem_cons_zero, List.getElem_cons_succ, List.setIfInBounds_toArray, List.set_cons_zero, List.set_cons_succ]
      refine wpAnyK_take (i := 5) (v := .pointer (some ⟨b, off, none⟩)) rfl (by kernel_rfl) (by kernel_rfl) (by kernel_rfl) (by kernel_rfl) (fun _ _ _ h => h) (Or.inl ⟨by rfl, fun w' hSw => ?_⟩) (by assumption) ?_
      · obtain ⟨hSb, hSx, hSc⟩ := hSw; have hq0 := Below.keep hSb _ _ q0'; have hq1 := Below.keep hSb _ _ q1'; go_simp
      try simp only [Act.put, List.getElem_toArray, List.getElem_cons_zero, List.getElem_cons_succ, List.setIfInBounds_toArray, List.set_cons_zero, List.set_cons_succ]
      refine wpAnyK_take (i := 6) (v := .pointer (some ⟨b, off, none⟩)) rfl (by kernel_rfl) (by kernel_rfl) (by kernel_rfl) (by kernel_rfl) (fun _ _ _ h => h) (Or.inl ⟨by rfl, fun w' hSw => ?_⟩) (by assumption) ?_
      · obtain ⟨hSb, hSx, hSc⟩ := hSw; have hq0 := Below.keep hSb _ _ q0'; have hq1 := Below.keep hSb _ _ q1'; go_simp
      try simp only [Act.put, List.getElem_toArray, List.getElem_cons_zero, List.getElem_cons_succ, List.setIfInBounds_toArray, List.set_cons_zero, List.set_cons_succ]
      refine wpAnyK_take (i := 7) (v := .int .i64 s.b) rfl (by kernel_rfl) (by kernel_rfl) (by kernel_rfl) (by kernel_rfl) (fun _ _ _ h => h) (Or.inl ⟨by rfl, fun w' hSw => ?_⟩) (by assumption) ?_
      · obtain ⟨hSb, hSx, hSc⟩ := hSw; have hq0 := Below.keep hSb _ _ q0'; have hq1 := Below.keep hSb _ _ q1'; go_simp
      try simp only [Act.put, List.getElem_toArray, List.getElem_cons_zero, List.getElem_cons_succ, List.setIfInBounds_toArray, List.set_cons_zero, List.set_cons_succ]
      refine wpAnyK_take (i := 9) (v := .pointer (some ⟨w.heap.size, 0, none⟩)) rfl (by kernel_rfl) (by kernel_rfl) (by kernel_rfl) (by kernel_rfl) (fun _ _ _ h => h) (Or.inl ⟨by rfl, fun w' hSw => ?_⟩) (by assumption) ?_
      · obtain ⟨hSb, hSx, hSc⟩ := hSw; have hq0 := Below.keep hSb _ _ q0'; have hq1 := Below.keep hSb _ _ q1'; go_simp
      try simp only [Act.put, List.getElem_toArray, List.getElem_cons_zero, List.getElem_cons_succ, List.setIfInBounds_toArray, List.set_cons_zero, List.set_cons_succ]
      refine wpAnyK_take (i := 10) (v := (.slice (some ⟨b, off, none⟩) 2 cap)) rfl (by kernel_rfl) (by kernel_rfl) (by kernel_rfl) (by kernel_rfl) (fun _ _ _ h => h) (Or.inl ⟨by rfl, fun w' hSw => ?_⟩) (by assumption) ?_
      · obtain ⟨hSb, hSx, hSc⟩ := hSw; have hq0 := Below.keep hSb _ _ q0'; have hq1 := Below.keep hSb _ _ q1'; go_simp
      try simp only [Act.put, List.getElem_toArray, List.getElem_cons_zero, List.getElem_cons_succ, List.setIfInBounds_toArray, List.set_cons_zero, List.set_cons_succ]
      refine wpAnyK_take (i := 11) (v := .int .i64 (0 : Nat)) rfl (by kernel_rfl) (by kernel_rfl) (by kernel_rfl) (by kernel_rfl) (fun _ _ _ h => h) (Or.inl ⟨by rfl, fun w' hSw => ?_⟩) (by assumption) ?_
      · obtain ⟨hSb, hSx, hSc⟩ := hSw; have hq0 := Below.keep hSb _ _ q0'; have hq1 := Below.keep hSb _ _ q1'; go_simp
      try simp only [Act.put, List.getElem_toArray, List.getElem_cons_zero, List.getElem_cons_succ, List.setIfInBounds_toArray, List.set_cons_zero, List.set_cons_succ]
      refine wpAnyK_take (i := 12) (v := .pointer (some ⟨b, off, none⟩)) rfl (by kernel_rfl) (by kernel_rfl) (by kernel_rfl) (by kernel_rfl) (fun _ _ _ h => h) (Or.inl ⟨by rfl, fun w' hSw => ?_⟩) (by assumption) ?_
      · obtain ⟨hSb, hSx, hSc⟩ := hSw; have hq0 := Below.keep hSb _ _ q0'; have hq1 := Below.keep hSb _ _ q1'; go_simp
      try simp only [Act.put, List.getElem_toArray, List.getElem_cons_zero, List.getElem_cons_succ, List.setIfInBounds_toArray, List.set_cons_zero, List.set_cons_succ]
      refine wpAnyK_take (i := 13) (v := .pointer (some ⟨b, off + 1, none⟩)) rfl (by kernel_rfl) (by kernel_rfl) (by kernel_rfl) (by kernel_rfl) (fun _ _ _ h => h) (Or.inl ⟨by rfl, fun w' hSw => ?_⟩) (by assumption) ?_
      · obtain ⟨hSb, hSx, hSc⟩ := hSw; have hq0 := Below.keep hSb _ _ q0'; have hq1 := Below.keep hSb _ _ q1'; go_simp
      try simp only [Act.put, List.getElem_toArray, List.getElem_cons_zero, List.getElem_cons_succ, List.setIfInBounds_toArray, List.set_cons_zero, List.set_cons_succ]
      refine wpAnyK_take (i := 14) (v := .slice (some ⟨p, po, none⟩) 4 ic) rfl (by kernel_rfl) (by kernel_rfl) (by kernel_rfl) (by kernel_rfl) (fun _ _ _ h => h) (Or.inl ⟨by rfl, fun w' hSw => ?_⟩) (by assumption) ?_
      · obtain ⟨hSb, hSx, hSc⟩ := hSw; have hq0 := Below.keep hSb _ _ q0'; have hq1 := Below.keep hSb _ _ q1'; go_simp
      try simp only [Act.put, List.getElem_toArray, List.getElem_cons_zero, List.getElem_cons_succ, List.setIfInBounds_toArray, List.set_cons_zero, List.set_cons_succ]
      refine wpAnyK_one (i := 8) (by kernel_rfl) rfl (fun K hK => ?_)
      go_simp
      refine hK.out _ _ (fun _ => hHeld.keep ((Below.refl _ _).alloc (Nat.le_refl _) _)) (fun hH => ?_)
      clear hK K hHeld
      have hHeld := hH (by omega)
      clear hH
      try simp only [Act.put, List.getElem_toArray, List.getElem_cons_zero, List.getElem_cons_succ, List.setIfInBounds_toArray, List.set_cons_zero, List.set_cons_succ]
      refine wpAnyK_one (i := 15) (by kernel_rfl) rfl (fun K hK => ?_)
      refine step_append_lies _ (by rfl) _ _ 56 (by rfl) wr.heap.size 40 j0 _ 2 16 Try.underlying56 ji jz0 jz1 jz2 rfl (by omega) _ 0 [] (by rfl) (empty_own wr.drew 40 2) ⟨p, po, none⟩ 4 ic (w8 s) (by rfl) (by rfl) hnews (by intro u hu; simp at hu; rcases hu with h | h | h | h | h | h | h | h <;> subst h <;> rfl) (by omega) (by unfold maxLen; omega) (by omega) (by simp) _ rfl ?_
      intro g0 cc0 w2 hin hgrow2 hat2 hlt2
      have hb2x : Below wr.heap.size wr w2 := hA.grown hgrow2 (by simp) (fun k hk => by simp [Value.ownBlock] at hk; omega)
      have hs2 := hb2x.size
      have hgl : wr.heap.size ≤ g0 ∧ g0 < w2.heap.size := World.ownsRow.lt hin g0 rfl
      have hb2a : Below wr.heap.size wr (w2.alloc (.cells #[.int .i64 s.b, sl g0 4 cc0] 58)) := hb2x.alloc hs2 _
      have hin4 : Inn (w2.alloc (.cells #[.int .i64 s.b, sl g0 4 cc0] 58)) (w.heap.size + 1 + 1 + 1) g0 cc0 s := (Inn.mono (B := wr.heap.size) hin hsz).below ((Below.refl _ _).alloc (Nat.le_refl _) _)
      have HS2 : Sz w (.slice (some ⟨b, off, none⟩) 2 cap) (.slice none 0 0) w2 := Sz.keep (W := wr) ⟨hbd.bel, hx, c0⟩ hb2x
      refine hK.out _ _ (fun _ => HS2) (fun _ => ?_)
      clear hK K hHeld
      try simp only [Act.put, List.getElem_toArray, List.getElem_cons_zero, List.getElem_cons_succ, List.setIfInBounds_toArray, List.set_cons_zero, List.set_cons_succ]
      refine wpAnyK_take (i := 16) (v := .agg #[.int .i64 s.b, sl g0 4 cc0]) rfl (by kernel_rfl) (by kernel_rfl) (by kernel_rfl) (by kernel_rfl) (fun _ _ _ h => h) (Or.inl ⟨by rfl, fun w' hSw => ?_⟩) (by assumption) ?_
      · obtain ⟨hSb, hSx, hSc⟩ := hSw; have hq0 := Below.keep hSb _ _ q0'; have hq1 := Below.keep hSb _ _ q1'; go_simp
      try simp only [Act.put, List.getElem_toArray, List.getElem_cons_zero, List.getElem_cons_succ, List.setIfInBounds_toArray, List.set_cons_zero, List.set_cons_succ]
      refine wpAnyK_one (i := 17) (by kernel_rfl) rfl (fun K hK => ?_)
      go_simp
      have HS3 : Sz w (.slice (some ⟨b, off, none⟩) 2 cap) (.slice none 0 0) (w2.alloc (.cells #[.int .i64 s.b, sl g0 4 cc0] 58)) := HS2.keep ((Below.refl _ _).alloc (Nat.le_refl _) _)
      refine hK.out _ _ (fun _ => HS3) (fun _ => ?_)
      clear hK K
      try simp only [Act.put, List.getElem_toArray, List.getElem_cons_zero, List.getElem_cons_succ, List.setIfInBounds_toArray, List.set_cons_zero, List.set_cons_succ]
      refine wpAnyK_one (i := 18) (by kernel_rfl) rfl (fun K hK => ?_)
      refine step_append_lies _ (by rfl) _ _ 24 (by rfl) (w.heap.size + 1 + 1 + 1) 58 i0 _ 2 32 Try.underlying24 hi hz0 hz1 hz2 rfl (by omega) (.slice none 0 0) 0 [] (by rfl) (World.ownsRow_nil _ _ _ _) ⟨w2.heap.size, 0, none⟩ 1 1 [.int .i64 s.b, sl g0 4 cc0] (by rfl) (by rfl) (World.news_of_block (cs := #[.int .i64 s.b, sl g0 4 cc0]) (t := 58) (fr := (0, 0)) (heap_alloc_new w2 _)) (by simp [Value.oneCell']) (by omega) (by unfold maxLen; omega) (by omega) (by simp; omega) _ rfl ?_
      intro G cG w3 hown hgrow hat hlt
      have hb4 := heap_b hcb hb2a
      have hb3 : w3.heap[w.heap.size + 1 + 1]? = some (.cells #[.slice none 0 0] 26 (0, 0)) := (hgrow.block (w.heap.size + 1 + 1) (by simp; omega) (by simp [Value.ownBlock])).trans hb4
      have c3 := cell_of_row _ _ 0 _ _ _ hb3
      have f3 := frozen_of_row _ _ 0 _ _ hb3
      have hWW := hb2a.mono hbd.bel.size
      have x4 : w3.cell? ⟨w.heap.size, 0, none⟩ = some (.slice (some ⟨b, off, none⟩) 2 cap) := (hgrow.cell_far ⟨w.heap.size, 0, none⟩ (by simp; omega) (by simp [Value.ownBlock])).trans HS3.2.1
      have HS4 : Sz w (.slice (some ⟨b, off, none⟩) 2 cap) (.slice none 0 0) w3 := ⟨(hbd.bel.trans hWW).grown hgrow (by simp; omega) (fun k hk => by cases hk), x4, c3⟩
      have HF := hide (Bd.first (t := t) (hbd.bel.trans hWW) (by omega) hb4 (heap_b hbd.res hb2a) (by simp; omega) (by omega) hin4 hown hgrow hat)
      clear hown hgrow hat hb3 hb4 hWW
      refine hK.out _ _ (fun _ => HS4) (fun _ => ?_)
      clear hK K
      try simp only [Act.put, List.getElem_toArray, List.getElem_cons_zero, List.getElem_cons_succ, List.setIfInBounds_toArray, List.set_cons_zero, List.set_cons_succ]
      refine wpAnyK_take (i := 19) (v := .pointer (some ⟨w.heap.size + 1 + 1, 0, none⟩)) rfl (by kernel_rfl) (by kernel_rfl) (by kernel_rfl) (by kernel_rfl) (fun _ _ _ h => h) (Or.inl ⟨by rfl, fun w' hSw => ?_⟩) (by assumption) ?_
      · obtain ⟨hSb, hSx, hSc⟩ := hSw; have hq0 := Below.keep hSb _ _ q0'; have hq1 := Below.keep hSb _ _ q1'; go_simp
      try simp only [Act.put, List.getElem_toArray, List.getElem_cons_zero, List.getElem_cons_succ, List.setIfInBounds_toArray, List.set_cons_zero, List.set_cons_succ]
      refine wpAnyK_one (i := 20) (by kernel_rfl) rfl (fun K hK => ?_)
      simp at c3
      go_simp
      refine hK.out _ _ (fun h => absurd rfl h) (fun _ => ?_)
      clear hK K
      try simp only [Act.put, List.getElem_toArray, List.getElem_cons_zero, List.getElem_cons_succ, List.setIfInBounds_toArray, List.set_cons_zero, List.set_cons_succ]
      refine wpAnyK_done (by kernel_rfl) ?_
      go_wp2
      exact ⟨⟨1, by omega, rfl, by first | exact x4 | (rw [other_set (by omega)]; exact x4), HF⟩, by simp [intOf]⟩
    · have hbd := HS.out
      obtain ⟨hcbB, G0, cG0, g00, cc00, hcb0, hout0, hinn0, hne0⟩ := hbd.st
      have hG0 := World.ownsRow.lt hout0 G0 rfl
      have hg00 := hinn0.lt
      have hcb : wr.heap[w.heap.size + 1 + 1]? = some (.cells #[sl G0 1 cG0] 26 (0, 0)) := hcb0
      have c0 : wr.cell? ⟨w.heap.size + 1 + 1, 0, none⟩ = some (sl G0 1 cG0) := cell_of_row _ _ 0 _ _ _ hcb
      have hsz := hbd.size
      obtain ⟨ia, ic, q0', q1', hr0⟩ := hv2 1 (by omega)
      have q0' : w.cell? ⟨b, off + 2, none⟩ = some (.int .i64 t.b) := q0'
      have q1' : w.cell? ⟨b, off + 2 + 1, none⟩ = some (.slice ia 4 ic) := q1'
      obtain ⟨ia', ic', hvx, hw⟩ := hr0.below hbd.bel
      simp only [Value.slice.injEq, true_and] at hvx
      obtain ⟨rfl, rfl⟩ := hvx
      obtain ⟨p, po, rfl, hw2⟩ := hw (by omega)
      have hA : Below wr.heap.size wr (wr.drew.alloc (.cells #[] 40)) := ((Below.refl _ _).drew).alloc (Nat.le_refl _) _
      have hnews := w8_at (W := wr.drew.alloc (.cells #[] 40)) (s := t) (fun j hj => ⟨keepc hA (hw2 j hj).1, keepc hA (hw2 j hj).2⟩)
      clear HS hr0 hw hw2 hv2
      go_wp2
      refine wp_region_but (z := 20) (S := Sz w (.slice (some ⟨b, off, none⟩) 2 cap) (sl G0 1 cG0)) (by kernel_rfl) ⟨hbd.bel.drew, hx, c0⟩ (fun hHeld => ?_)
      refine wpAnyK_take (i := 0) (v := .pointer (some ⟨w.heap.size + 1 + 1, 0, none⟩)) rfl (by kernel_rfl) (by kernel_rfl) (by kernel_rfl) (by kernel_rfl) (fun _ _ _ h => h) (Or.inl ⟨by rfl, fun w' hSw => ?_⟩) (by assumption) ?_
      · obtain ⟨hSb, hSx, hSc⟩ := hSw; have hq0 := Below.keep hSb _ _ q0'; have hq1 := Below.keep hSb _ _ q1'; go_simp
      try simp only [Act.put, List.getElem_toArray, List.getElem_cons_zero, List.getElem_cons_succ, List.setIfInBounds_toArray, List.set_cons_zero, List.set_cons_succ]
      refine wpAnyK_take (i := 1) (v := sl G0 1 cG0) rfl (by kernel_rfl) (by kernel_rfl) (by kernel_rfl) (by kernel_rfl) (fun _ _ _ h => h) (Or.inl ⟨by rfl, fun w' hSw => ?_⟩) (by assumption) ?_
      · obtain ⟨hSb, hSx, hSc⟩ := hSw; have hq0 := Below.keep hSb _ _ q0'; have hq1 := Below.keep hSb _ _ q1'; go_simp
      try simp only [Act.put, List.getElem_toArray, List.getElem_cons_zero, List.getElem_cons_succ, List.setIfInBounds_toArray, List.set_cons_zero, List.set_cons_succ]
      refine wpAnyK_take (i := 2) (v := .pointer (some ⟨w.heap.size, 0, none⟩)) rfl (by kernel_rfl) (by kernel_rfl) (by kernel_rfl) (by kernel_rfl) (fun _ _ _ h => h) (Or.inl ⟨by rfl, fun w' hSw => ?_⟩) (by assumption) ?_
      · obtain ⟨hSb, hSx, hSc⟩ := hSw; have hq0 := Below.keep hSb _ _ q0'; have hq1 := Below.keep hSb _ _ q1'; go_simp
      try simp only [Act.put, List.getElem_toArray, List.getElem_cons_zero, List.getElem_cons_succ, List.setIfInBounds_toArray, List.set_cons_zero, List.set_cons_succ]
      refine wpAnyK_take (i := 3) (v := (.slice (some ⟨b, off, none⟩) 2 cap)) rfl (by kernel_rfl) (by kernel_rfl) (by kernel_rfl) (by kernel_rfl) (fun _ _ _ h => h) (Or.inl ⟨by rfl, fun w' hSw => ?_⟩) (by assumption) ?_
      · obtain ⟨hSb, hSx, hSc⟩ := hSw; have hq0 := Below.keep hSb _ _ q0'; have hq1 := Below.keep hSb _ _ q1'; go_simp
      try simp only [Act.put, List.getElem_toArray, List.getElem_cons_zero, List.getElem_cons_succ, List.setIfInBounds_toArray, List.set_cons_zero, List.set_cons_succ]
      refine wpAnyK_take (i := 4) (v := .int .i64 (1 : Nat)) rfl (by kernel_rfl) (by kernel_rfl) (by kernel_rfl) (by kernel_rfl) (fun _ _ _ h => h) (Or.inl ⟨by rfl, fun w' hSw => ?_⟩) (by assumption) ?_
      · obtain ⟨hSb, hSx, hSc⟩ := hSw; have hq0 := Below.keep hSb _ _ q0'; have hq1 := Below.keep hSb _ _ q1'; go_simp
      try simp only [Act.put, List.getElem_toArray, List.getElem_cons_zero, List.getElem_cons_succ, List.setIfInBounds_toArray, List.set_cons_zero, List.set_cons_succ]
      refine wpAnyK_take (i := 5) (v := .pointer (some ⟨b, off + 2, none⟩)) rfl (by kernel_rfl) (by kernel_rfl) (by kernel_rfl) (by kernel_rfl) (fun _ _ _ h => h) (Or.inl ⟨by rfl, fun w' hSw => ?_⟩) (by assumption) ?_
      · obtain ⟨hSb, hSx, hSc⟩ := hSw; have hq0 := Below.keep hSb _ _ q0'; have hq1 := Below.keep hSb _ _ q1'; go_simp
      try simp only [Act.put, List.getElem_toArray, List.getElem_cons_zero, List.getElem_cons_succ, List.setIfInBounds_toArray, List.set_cons_zero, List.set_cons_succ]
      refine wpAnyK_take (i := 6) (v := .pointer (some ⟨b, off + 2, none⟩)) rfl (by kernel_rfl) (by kernel_rfl) (by kernel_rfl) (by kernel_rfl) (fun _ _ _ h => h) (Or.inl ⟨by rfl, fun w' hSw => ?_⟩) (by assumption) ?_
      · obtain ⟨hSb, hSx, hSc⟩ := hSw; have hq0 := Below.keep hSb _ _ q0'; have hq1 := Below.keep hSb _ _ q1'; go_simp
      try simp only [Act.put, List.getElem_toArray, List.getElem_cons_zero, List.getElem_cons_succ, List.setIfInBounds_toArray, List.set_cons_zero, List.set_cons_succ]
      refine wpAnyK_take (i := 7) (v := .int .i64 t.b) rfl (by kernel_rfl) (by kernel_rfl) (by kernel_rfl) (by kernel_rfl) (fun _ _ _ h => h) (Or.inl ⟨by rfl, fun w' hSw => ?_⟩) (by assumption) ?_
      · obtain ⟨hSb, hSx, hSc⟩ := hSw; have hq0 := Below.keep hSb _ _ q0'; have hq1 := Below.keep hSb _ _ q1'; go_simp
      try simp only [Act.put, List.getElem_toArray, List.getElem_cons_zero, List.getElem_cons_succ, List.setIfInBounds_toArray, List.set_cons_zero, List.set_cons_succ]
      refine wpAnyK_take (i := 9) (v := .pointer (some ⟨w.heap.size, 0, none⟩)) rfl (by kernel_rfl) (by kernel_rfl) (by kernel_rfl) (by kernel_rfl) (fun _ _ _ h => h) (Or.inl ⟨by rfl, fun w' hSw => ?_⟩) (by assumption) ?_
      · obtain ⟨hSb, hSx, hSc⟩ := hSw; have hq0 := Below.keep hSb _ _ q0'; have hq1 := Below.keep hSb _ _ q1'; go_simp
      try simp only [Act.put, List.getElem_toArray, List.getElem_cons_zero, List.getElem_cons_succ, List.setIfInBounds_toArray, List.set_cons_zero, List.set_cons_succ]
      refine wpAnyK_take (i := 10) (v := (.slice (some ⟨b, off, none⟩) 2 cap)) rfl (by kernel_rfl) (by kernel_rfl) (by kernel_rfl) (by kernel_rfl) (fun _ _ _ h => h) (Or.inl ⟨by rfl, fun w' hSw => ?_⟩) (by assumption) ?_
      · obtain ⟨hSb, hSx, hSc⟩ := hSw; have hq0 := Below.keep hSb _ _ q0'; have hq1 := Below.keep hSb _ _ q1'; go_simp
      try simp only [Act.put, List.getElem_toArray, List.getElem_cons_zero, List.getElem_cons_succ, List.setIfInBounds_toArray, List.set_cons_zero, List.set_cons_succ]
      refine wpAnyK_take (i := 11) (v := .int .i64 (1 : Nat)) rfl (by kernel_rfl) (by kernel_rfl) (by kernel_rfl) (by kernel_rfl) (fun _ _ _ h => h) (Or.inl ⟨by rfl, fun w' hSw => ?_⟩) (by assumption) ?_
      · obtain ⟨hSb, hSx, hSc⟩ := hSw; have hq0 := Below.keep hSb _ _ q0'; have hq1 := Below.keep hSb _ _ q1'; go_simp
      try simp only [Act.put, List.getElem_toArray, List.getElem_cons_zero, List.getElem_cons_succ, List.setIfInBounds_toArray, List.set_cons_zero, List.set_cons_succ]
      refine wpAnyK_take (i := 12) (v := .pointer (some ⟨b, off + 2, none⟩)) rfl (by kernel_rfl) (by kernel_rfl) (by kernel_rfl) (by kernel_rfl) (fun _ _ _ h => h) (Or.inl ⟨by rfl, fun w' hSw => ?_⟩) (by assumption) ?_
      · obtain ⟨hSb, hSx, hSc⟩ := hSw; have hq0 := Below.keep hSb _ _ q0'; have hq1 := Below.keep hSb _ _ q1'; go_simp
      try simp only [Act.put, List.getElem_toArray, List.getElem_cons_zero, List.getElem_cons_succ, List.setIfInBounds_toArray, List.set_cons_zero, List.set_cons_succ]
      refine wpAnyK_take (i := 13) (v := .pointer (some ⟨b, off + 2 + 1, none⟩)) rfl (by kernel_rfl) (by kernel_rfl) (by kernel_rfl) (by kernel_rfl) (fun _ _ _ h => h) (Or.inl ⟨by rfl, fun w' hSw => ?_⟩) (by assumption) ?_
      · obtain ⟨hSb, hSx, hSc⟩ := hSw; have hq0 := Below.keep hSb _ _ q0'; have hq1 := Below.keep hSb _ _ q1'; go_simp
      try simp only [Act.put, List.getElem_toArray, List.getElem_cons_zero, List.getElem_cons_succ, List.setIfInBounds_toArray, List.set_cons_zero, List.set_cons_succ]
      refine wpAnyK_take (i := 14) (v := .slice (some ⟨p, po, none⟩) 4 ic) rfl (by kernel_rfl) (by kernel_rfl) (by kernel_rfl) (by kernel_rfl) (fun _ _ _ h => h) (Or.inl ⟨by rfl, fun w' hSw => ?_⟩) (by assumption) ?_
      · obtain ⟨hSb, hSx, hSc⟩ := hSw; have hq0 := Below.keep hSb _ _ q0'; have hq1 := Below.keep hSb _ _ q1'; go_simp
      try simp only [Act.put, List.getElem_toArray, List.getElem_cons_zero, List.getElem_cons_succ, List.setIfInBounds_toArray, List.set_cons_zero, List.set_cons_succ]
      refine wpAnyK_one (i := 8) (by kernel_rfl) rfl (fun K hK => ?_)
      go_simp
      refine hK.out _ _ (fun _ => hHeld.keep ((Below.refl _ _).alloc (Nat.le_refl _) _)) (fun hH => ?_)
      clear hK K hHeld
      have hHeld := hH (by omega)
      clear hH
      try simp only [Act.put, List.getElem_toArray, List.getElem_cons_zero, List.getElem_cons_succ, List.setIfInBounds_toArray, List.set_cons_zero, List.set_cons_succ]
      refine wpAnyK_one (i := 15) (by kernel_rfl) rfl (fun K hK => ?_)
      refine step_append_lies _ (by rfl) _ _ 56 (by rfl) wr.heap.size 40 j0 _ 2 16 Try.underlying56 ji jz0 jz1 jz2 rfl (by omega) _ 0 [] (by rfl) (empty_own wr.drew 40 2) ⟨p, po, none⟩ 4 ic (w8 t) (by rfl) (by rfl) hnews (by intro u hu; simp at hu; rcases hu with h | h | h | h | h | h | h | h <;> subst h <;> rfl) (by omega) (by unfold maxLen; omega) (by omega) (by simp) _ rfl ?_
      intro g0 cc0 w2 hin hgrow2 hat2 hlt2
      have hb2x : Below wr.heap.size wr w2 := hA.grown hgrow2 (by simp) (fun k hk => by simp [Value.ownBlock] at hk; omega)
      have hs2 := hb2x.size
      have hgl : wr.heap.size ≤ g0 ∧ g0 < w2.heap.size := World.ownsRow.lt hin g0 rfl
      have hb2a : Below wr.heap.size wr (w2.alloc (.cells #[.int .i64 t.b, sl g0 4 cc0] 58)) := hb2x.alloc hs2 _
      have hin4 : Inn (w2.alloc (.cells #[.int .i64 t.b, sl g0 4 cc0] 58)) (w.heap.size + 1 + 1 + 1) g0 cc0 t := (Inn.mono (B := wr.heap.size) hin hsz).below ((Below.refl _ _).alloc (Nat.le_refl _) _)
      have HS2 : Sz w (.slice (some ⟨b, off, none⟩) 2 cap) (sl G0 1 cG0) w2 := Sz.keep (W := wr) ⟨hbd.bel, hx, c0⟩ hb2x
      refine hK.out _ _ (fun _ => HS2) (fun _ => ?_)
      clear hK K hHeld
      try simp only [Act.put, List.getElem_toArray, List.getElem_cons_zero, List.getElem_cons_succ, List.setIfInBounds_toArray, List.set_cons_zero, List.set_cons_succ]
      refine wpAnyK_take (i := 16) (v := .agg #[.int .i64 t.b, sl g0 4 cc0]) rfl (by kernel_rfl) (by kernel_rfl) (by kernel_rfl) (by kernel_rfl) (fun _ _ _ h => h) (Or.inl ⟨by rfl, fun w' hSw => ?_⟩) (by assumption) ?_
      · obtain ⟨hSb, hSx, hSc⟩ := hSw; have hq0 := Below.keep hSb _ _ q0'; have hq1 := Below.keep hSb _ _ q1'; go_simp
      try simp only [Act.put, List.getElem_toArray, List.getElem_cons_zero, List.getElem_cons_succ, List.setIfInBounds_toArray, List.set_cons_zero, List.set_cons_succ]
      refine wpAnyK_one (i := 17) (by kernel_rfl) rfl (fun K hK => ?_)
      go_simp
      have HS3 : Sz w (.slice (some ⟨b, off, none⟩) 2 cap) (sl G0 1 cG0) (w2.alloc (.cells #[.int .i64 t.b, sl g0 4 cc0] 58)) := HS2.keep ((Below.refl _ _).alloc (Nat.le_refl _) _)
      refine hK.out _ _ (fun _ => HS3) (fun _ => ?_)
      clear hK K
      try simp only [Act.put, List.getElem_toArray, List.getElem_cons_zero, List.getElem_cons_succ, List.setIfInBounds_toArray, List.set_cons_zero, List.set_cons_succ]
      refine wpAnyK_one (i := 18) (by kernel_rfl) rfl (fun K hK => ?_)
      refine step_append_lies _ (by rfl) _ _ 24 (by rfl) (w.heap.size + 1 + 1 + 1) 58 i0 _ 2 32 Try.underlying24 hi hz0 hz1 hz2 rfl (by omega) (sl G0 1 cG0) 1 [.int .i64 s.b, sl g00 4 cc00] (by rfl) ((Inn_out hout0 hb2x).alloc _) ⟨w2.heap.size, 0, none⟩ 1 1 [.int .i64 t.b, sl g0 4 cc0] (by rfl) (by rfl) (World.news_of_block (cs := #[.int .i64 t.b, sl g0 4 cc0]) (t := 58) (fr := (0, 0)) (heap_alloc_new w2 _)) (by simp [Value.oneCell']) (by omega) (by unfold maxLen; omega) (by omega) (by simp; omega) _ rfl ?_
      intro G cG w3 hown hgrow hat hlt
      have hb4 := heap_b hcb hb2a
      have hb3 : w3.heap[w.heap.size + 1 + 1]? = some (.cells #[sl G0 1 cG0] 26 (0, 0)) := (hgrow.block (w.heap.size + 1 + 1) (by simp; omega) (by simp [Value.ownBlock]; omega)).trans hb4
      have c3 := cell_of_row _ _ 0 _ _ _ hb3
      have f3 := frozen_of_row _ _ 0 _ _ hb3
      have hWW := hb2a.mono hbd.bel.size
      have x4 : w3.cell? ⟨w.heap.size, 0, none⟩ = some (.slice (some ⟨b, off, none⟩) 2 cap) := (hgrow.cell_far ⟨w.heap.size, 0, none⟩ (by simp; omega) (by simp [Value.ownBlock]; omega)).trans HS3.2.1
      have HS4 : Sz w (.slice (some ⟨b, off, none⟩) 2 cap) (sl G0 1 cG0) w3 := ⟨(hbd.bel.trans hWW).grown hgrow (by simp; omega) (fun k hk => by simp [Value.ownBlock] at hk; omega), x4, c3⟩
      have HF := hide (Bd.second (hbd.bel.trans hWW) (by omega) hb4 (heap_b hbd.res hb2a) (by simp; omega) (by omega) hG0.1 (hinn0.below hb2a) hin4 hne0 (by omega) (by omega) hown hgrow hat)
      clear hown hgrow hat hb3 hb4 hWW
      refine hK.out _ _ (fun _ => HS4) (fun _ => ?_)
      clear hK K
      try simp only [Act.put, List.getElem_toArray, List.getElem_cons_zero, List.getElem_cons_succ, List.setIfInBounds_toArray, List.set_cons_zero, List.set_cons_succ]
      refine wpAnyK_take (i := 19) (v := .pointer (some ⟨w.heap.size + 1 + 1, 0, none⟩)) rfl (by kernel_rfl) (by kernel_rfl) (by kernel_rfl) (by kernel_rfl) (fun _ _ _ h => h) (Or.inl ⟨by rfl, fun w' hSw => ?_⟩) (by assumption) ?_
      · obtain ⟨hSb, hSx, hSc⟩ := hSw; have hq0 := Below.keep hSb _ _ q0'; have hq1 := Below.keep hSb _ _ q1'; go_simp
      try simp only [Act.put, List.getElem_toArray, List.getElem_cons_zero, List.getElem_cons_succ, List.setIfInBounds_toArray, List.set_cons_zero, List.set_cons_succ]
      refine wpAnyK_one (i := 20) (by kernel_rfl) rfl (fun K hK => ?_)
      simp at c3
      go_simp
      refine hK.out _ _ (fun h => absurd rfl h) (fun _ => ?_)
      clear hK K
      try simp only [Act.put, List.getElem_toArray, List.getElem_cons_zero, List.getElem_cons_succ, List.setIfInBounds_toArray, List.set_cons_zero, List.set_cons_succ]
      refine wpAnyK_done (by kernel_rfl) ?_
      go_wp2
      exact ⟨⟨2, by omega, rfl, by first | exact x4 | (rw [other_set (by omega)]; exact x4), HF⟩, by simp [intOf]⟩
    · have hbd := HS.out
      obtain ⟨hcbB, G, cG, g0, cc0, g1, cc1, hcb, hout, hin0, hin1, n0, n1, n2⟩ := hbd.st
      have c0 := cell_of_row _ _ 0 _ _ _ hcb
      have r0 := cell_of_row _ _ 0 _ _ _ hbd.res
      have rf := frozen_of_row _ _ 0 _ _ hbd.res
      simp at c0 r0
      have HCg := hide (cg_of hout hin0 hin1 n0 n1 n2)
      have HB := hide hbd.bel
      have hlo := HCg.out.lo
      clear HS hbd hcb hout hin0 hin1 hv2
      go_wp2
      refine bodyPost_ret (v := .agg #[sl G 2 cG]) (by simp [results, Try.results19, go_sem, r0]) rfl ⟨G, cG, fun x => if x = 0 then g0 else g1, rfl, ?_, HB.out.setCell (by simp) _⟩
      exact (HCg.out.chg (S := fun j => j < w.heap.size + 1 + 1 + 1) ((Chg.refl _ _).set (by omega) _) (by omega) (fun c hc => by have := hlo.2 c hc; omega)).mono (by omega)

end Go.Proofs.Ytlijgkodcbnhbaa
