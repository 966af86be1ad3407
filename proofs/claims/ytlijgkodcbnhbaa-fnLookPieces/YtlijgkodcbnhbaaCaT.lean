/- impl: waySets.cache -/
import Derived.Test.YtlijgkodcbnhbaaCaR
import Derived.Laws.ResultCell
import Derived.Deep.RegionLaw
namespace Go.Proofs.Ytlijgkodcbnhbaa
open Go.RowKit
set_option linter.unusedVariables false
set_option linter.unusedSimpArgs false

theorem allocd' {w : World} {a : Addr} {u : Value} (h : w.cell? a = some u) : ∀ o : Obj, (w.alloc o).cell? a = some u := fun o => allocc h o
theorem idxS0 (s t : Sm) (W : World) : (Instr.index 45 (.agg (c18 s t)) (.int .i64 0)).run Try.prog W = .ok (.agg (c9 s)) W := by kernel_rfl
theorem idxS1 (s t : Sm) (W : World) : (Instr.index 45 (.agg (c18 s t)) (.int .i64 1)).run Try.prog W = .ok (.agg (c9 t)) W := by kernel_rfl
theorem infoCSetQ : (Try.prog.info? 58).map (fun i => (i.zero, i.size, i.bytes)) = some (some (.agg #[.int .i64 0, .slice none 0 0]), 2, 32) := by kernel_rfl
theorem ways_of {W : World} {g : Nat} {T : TypeId} {s : Sm} (h : W.heap[g]? = some (.cells (c9 s) T (0, 0))) : ∀ j u, (w8 s)[j]? = some u → W.cell? ⟨g, 1 + j, none⟩ = some u := by
  intro j u hu
  rw [cell_of_row _ _ _ _ _ _ h]
  have hj : j < 8 := by
    by_cases hj : j < 8
    · exact hj
    · rw [List.getElem?_eq_none (by simp; omega)] at hu; cases hu
  have : j = 0 ∨ j = 1 ∨ j = 2 ∨ j = 3 ∨ j = 4 ∨ j = 5 ∨ j = 6 ∨ j = 7 := by omega
  rcases this with rfl | rfl | rfl | rfl | rfl | rfl | rfl | rfl <;> simpa using hu

theorem Inn_out {w w' : World} {B T G c g0 c0 : Nat} {x : Value} (h : w.ownsRow B T 2 (sl G 1 c) 1 [x, sl g0 4 c0]) (hb : Below w.heap.size w w') : w'.ownsRow B T 2 (sl G 1 c) 1 [x, sl g0 4 c0] := World.ownsRow.kept h (grown_of_below hb) (.inr (by simp [Value.ownBlock]))

set_option maxHeartbeats 4000000 in
set_option maxRecDepth 20000 in
theorem cache_any (s t : Sm) (w : World) : Calls Try.prog 16 #[.agg (c18 s t)] w fun e w' => ∃ G c ib, e = .returned (.agg #[sl G 2 c]) ∧ Cg w' w.heap.size (sl G 2 c) 2 (fun _ => 4) (two s t) G ib ∧ Below w.heap.size w w' := by
  obtain ⟨i0, hi, hz0, hz1, hz2⟩ := info_parts infoCSetQ
  have hi0 := idxS0 s t
  have hi1 := idxS1 s t
  have HL : ∀ W : World, W.heap[w.heap.size]? = some (.cells (c18 s t) 45 (0, 0)) → W.rangeAt w.heap.size 0 (c18 s t).toList := fun W h j v hv => by rw [cell_of_row _ _ _ _ _ _ h, Nat.zero_add]; simpa using hv
  have hsz : (c18 s t).toList.length = 18 := rfl
  obtain ⟨C, hC⟩ : ∃ C, c18 s t = C := ⟨_, rfl⟩
  rw [hC] at hi0 hi1 HL hsz ⊢
  obtain ⟨W, hW⟩ : ∃ W, ((w.alloc (.cells C 45)).alloc (.cells #[.slice none 0 0] 26)).alloc (.cells #[.slice none 0 0] 26) = W := ⟨_, rfl⟩
  have hWs : W.heap.size = w.heap.size + 1 + 1 + 1 := by rw [← hW]; simp
  have h0 : W.heap[w.heap.size]? = some (.cells C 45 (0, 0)) := by rw [← hW]; exact heap_a (heap_a (heap_alloc_new _ _) _) _
  have HL0 := hide (HL W h0)
  have HBW : Hid (Below w.heap.size w W) := hide (by rw [← hW]; exact (((Below.refl _ _).alloc (Nat.le_refl _) _).alloc (by simp) _).alloc (by simp; omega) _)
  have h1 : W.heap[w.heap.size + 1]? = some (.cells #[.slice none 0 0] 26 (0, 0)) := by
    rw [← hW]
    have := heap_alloc_new (w.alloc (.cells C 45)) (.cells #[.slice none 0 0] 26)
    simp only [World.size_alloc] at this
    exact heap_a this _
  have h2 : W.heap[w.heap.size + 1 + 1]? = some (.cells #[.slice none 0 0] 26 (0, 0)) := by
    rw [← hW]
    have := heap_alloc_new ((w.alloc (.cells C 45)).alloc (.cells #[.slice none 0 0] 26)) (.cells #[.slice none 0 0] 26)
    simpa only [World.size_alloc] using this
  have HS : Hid (Bd w W (w.heap.size + 1 + 1 + 1) (w.heap.size + 1 + 1) (w.heap.size + 1) s t 0) := hide ⟨HBW.out, ⟨by omega, h2⟩, h1, by omega, by omega, by omega, by omega⟩
  have HC := hide hC
  clear hC HL h0 h1 h2 hWs
  go_enter Try.func16, Try.ntmps16
  go_wp2_with ((with_reducible refine wpList_load_mid (op := { dst := some 6, op := Op.load 45 (Operand.tmp 1), type := 45, pos := _, after := _, guard := none }) ?_ 45 (Operand.tmp 1) ?_ w.heap.size 0 ?_ C.toList _ HL0.out Try.underlying45 ?_ ?_ ?_); (· rfl); (· rfl); (· rfl); (· rfl); (· rw [info73, hsz]))
  clear HL0 hW
  go_loopw [7] (fun i wr => ∃ k : Nat, k ≤ 2 ∧ i = .int .i64 k ∧ Hid (Bd w wr (w.heap.size + 1 + 1 + 1) (w.heap.size + 1 + 1) (w.heap.size + 1) s t k)) (fun i _ => 2 - (intOf i).toNat)
  case atStart => exact ⟨0, by omega, rfl, HS⟩
  case round =>
    clear HBW HS
    obtain ⟨k, hk, rfl, HS⟩ := hrel
    have hk3 : k = 0 ∨ k = 1 ∨ k = 2 := by omega
    rcases hk3 with rfl | rfl | rfl
    · have hbd := HS.out
      obtain ⟨W1, hW1⟩ : ∃ W1, wr.alloc (.cells (c9 s) 43) = W1 := ⟨_, rfl⟩
      have b1 : W1.heap[wr.heap.size]? = some (.cells (c9 s) 43 (0, 0)) := by rw [← hW1]; exact heap_alloc_new _ _
      have hws := ways_of b1
      have e0 := (nine b1).1
      have hA1 : Below wr.heap.size wr W1 := by rw [← hW1]; exact (Below.refl _ _).alloc (Nat.le_refl _) _
      have hcb : W1.heap[w.heap.size + 1 + 1]? = some (.cells #[.slice none 0 0] 26 (0, 0)) := heap_b hbd.st.2 hA1
      have hres : W1.heap[w.heap.size + 1]? = some (.cells #[.slice none 0 0] 26 (0, 0)) := heap_b hbd.res hA1
      have c0 : W1.cell? ⟨w.heap.size + 1 + 1, 0, none⟩ = some (.slice none 0 0) := cell_of_row _ _ 0 _ _ _ hcb
      have fz := fun i => frozen_of_row _ _ i _ _ hcb
      have hB1 : Below w.heap.size w W1 := hbd.bel.trans (hA1.mono hbd.bel.size)
      have hs3 : W1.heap.size = wr.heap.size + 1 := by rw [← hW1]; simp
      have hs1 : w.heap.size + 1 + 1 + 1 ≤ W1.heap.size := by have := hbd.size; omega
      have HI := hide (And.intro hB1 (And.intro hres hcb))
      clear HS hbd b1 hA1 hres hB1
      go_wp2
      go_region_law (first | (refine step_append_lies _ (by rfl) _ _ _ (by rfl) (w.heap.size + 1 + 1 + 1) 58 i0 _ 2 32 Try.underlying24 hi hz0 hz1 hz2 rfl (by omega) (.slice none 0 0) 0 [] (by rfl) (World.ownsRow_nil _ _ _ _) ⟨w2.heap.size, 0, none⟩ 1 1 [.int .i64 s.b, sl g0 4 cc0] (by rfl) (by rfl) (World.news_of_block (cs := #[.int .i64 s.b, sl g0 4 cc0]) (t := 58) (fr := (0, 0)) (heap_alloc_new w2 _)) (by simp [Value.oneCell']) (by omega) (by unfold maxLen; omega) (by omega) (by simp; omega) _ rfl ?_; intro G cG w3 hown hgrow hat hlt; have hb4 := heap_b (w := W1) HI.out.2.2 hb2a; have hb3 : w3.heap[w.heap.size + 1 + 1]? = some (.cells #[.slice none 0 0] 26 (0, 0)) := (hgrow.block (w.heap.size + 1 + 1) (by simp; omega) (by simp [Value.ownBlock])).trans hb4; have c3 := cell_of_row _ _ 0 _ _ _ hb3; have f3 := frozen_of_row _ _ 0 _ _ hb3; have hWW := hb2a.mono HI.out.1.size; have HF := hide (Bd.first (t := t) (HI.out.1.trans hWW) (by omega) hb4 (heap_b (w := W1) HI.out.2.1 hb2a) (by simp; omega) (by omega) hin4 hown hgrow hat); clear hown hgrow hat hb3 hb4 hWW) | (go_simp; go_wp2_with (go_at_call 28; refine (clone4 wr.heap.size 1 4 s _ ?_).mono ?_; exact hws; rintro e w2 ⟨g0, cc0, rfl, hin, hb2⟩; have hb2x : Below W1.heap.size W1 w2 := ⟨hb2.os, hb2.tape, hb2.output, hb2.size, hb2.block⟩; have hs2 := hb2x.size; have c2 := keepc hb2x c0; have e2 := keepc hb2x e0; have c2a := allocd' c2; have hgl : W1.heap.size ≤ g0 ∧ g0 < w2.heap.size := World.ownsRow.lt hin g0 rfl; have hb2a : Below W1.heap.size W1 (w2.alloc (.cells #[.int .i64 s.b, sl g0 4 cc0] 58)) := hb2x.alloc hs2 _; have hin4 : Inn (w2.alloc (.cells #[.int .i64 s.b, sl g0 4 cc0] 58)) (w.heap.size + 1 + 1 + 1) g0 cc0 s := (Inn.mono (B := W1.heap.size) hin hs1).below ((Below.refl _ _).alloc (Nat.le_refl _) _))))
      all_goals go_wp2
      all_goals exact ⟨⟨1, by omega, rfl, HF⟩, by simp [intOf]⟩
    · have hbd := HS.out
      obtain ⟨hcbB, G0, cG0, g00, cc00, hcb0, hout0, hinn0, hne0⟩ := hbd.st
      have hG0 := World.ownsRow.lt hout0 G0 rfl
      have hg00 := hinn0.lt
      obtain ⟨W1, hW1⟩ : ∃ W1, wr.alloc (.cells (c9 t) 43) = W1 := ⟨_, rfl⟩
      have b1 : W1.heap[wr.heap.size]? = some (.cells (c9 t) 43 (0, 0)) := by rw [← hW1]; exact heap_alloc_new _ _
      have hws := ways_of b1
      have e0 := (nine b1).1
      have hA1 : Below wr.heap.size wr W1 := by rw [← hW1]; exact (Below.refl _ _).alloc (Nat.le_refl _) _
      have hcb : W1.heap[w.heap.size + 1 + 1]? = some (.cells #[sl G0 1 cG0] 26 (0, 0)) := heap_b hcb0 hA1
      have hres : W1.heap[w.heap.size + 1]? = some (.cells #[.slice none 0 0] 26 (0, 0)) := heap_b hbd.res hA1
      have c0 : W1.cell? ⟨w.heap.size + 1 + 1, 0, none⟩ = some (sl G0 1 cG0) := cell_of_row _ _ 0 _ _ _ hcb
      have fz := fun i => frozen_of_row _ _ i _ _ hcb
      have hB1 : Below w.heap.size w W1 := hbd.bel.trans (hA1.mono hbd.bel.size)
      have hs3 : W1.heap.size = wr.heap.size + 1 := by rw [← hW1]; simp
      have hs1 : w.heap.size + 1 + 1 + 1 ≤ W1.heap.size := by have := hbd.size; omega
      have hout1 := Inn_out hout0 hA1
      have hinn1 := hinn0.below hA1
      have HI := hide (And.intro hB1 (And.intro hres hcb))
      clear HS hbd b1 hA1 hres hB1 hout0 hinn0 hcb0
      go_wp2
      go_region_law (first | (refine step_append_lies _ (by rfl) _ _ _ (by rfl) (w.heap.size + 1 + 1 + 1) 58 i0 _ 2 32 Try.underlying24 hi hz0 hz1 hz2 rfl (by omega) (sl G0 1 cG0) 1 [.int .i64 s.b, sl g00 4 cc00] (by rfl) ((Inn_out hout1 hb2x).alloc _) ⟨w2.heap.size, 0, none⟩ 1 1 [.int .i64 t.b, sl g0 4 cc0] (by rfl) (by rfl) (World.news_of_block (cs := #[.int .i64 t.b, sl g0 4 cc0]) (t := 58) (fr := (0, 0)) (heap_alloc_new w2 _)) (by simp [Value.oneCell']) (by omega) (by unfold maxLen; omega) (by omega) (by simp; omega) _ rfl ?_; intro G cG w3 hown hgrow hat hlt; have hb4 := heap_b (w := W1) HI.out.2.2 hb2a; have hb3 : w3.heap[w.heap.size + 1 + 1]? = some (.cells #[sl G0 1 cG0] 26 (0, 0)) := (hgrow.block (w.heap.size + 1 + 1) (by simp; omega) (by simp [Value.ownBlock]; omega)).trans hb4; have c3 := cell_of_row _ _ 0 _ _ _ hb3; have f3 := frozen_of_row _ _ 0 _ _ hb3; have hWW := hb2a.mono HI.out.1.size; have HF := hide (Bd.second (HI.out.1.trans hWW) (by omega) hb4 (heap_b (w := W1) HI.out.2.1 hb2a) (by simp; omega) (by omega) hG0.1 (hinn1.below hb2a) hin4 hne0 (by omega) (by omega) hown hgrow hat); clear hown hgrow hat hb3 hb4 hWW) | (go_simp; go_wp2_with (go_at_call 28; refine (clone4 wr.heap.size 1 4 t _ ?_).mono ?_; exact hws; rintro e w2 ⟨g0, cc0, rfl, hin, hb2⟩; have hb2x : Below W1.heap.size W1 w2 := ⟨hb2.os, hb2.tape, hb2.output, hb2.size, hb2.block⟩; have hs2 := hb2x.size; have c2 := keepc hb2x c0; have e2 := keepc hb2x e0; have c2a := allocd' c2; have hgl : W1.heap.size ≤ g0 ∧ g0 < w2.heap.size := World.ownsRow.lt hin g0 rfl; have hb2a : Below W1.heap.size W1 (w2.alloc (.cells #[.int .i64 t.b, sl g0 4 cc0] 58)) := hb2x.alloc hs2 _; have hin4 : Inn (w2.alloc (.cells #[.int .i64 t.b, sl g0 4 cc0] 58)) (w.heap.size + 1 + 1 + 1) g0 cc0 t := (Inn.mono (B := W1.heap.size) hin hs1).below ((Below.refl _ _).alloc (Nat.le_refl _) _))))
      all_goals go_wp2
      all_goals exact ⟨⟨2, by omega, rfl, HF⟩, by simp [intOf]⟩
    · have hbd := HS.out
      obtain ⟨hcbB, G, cG, g0, cc0, g1, cc1, hcb, hout, hin0, hin1, n0, n1, n2⟩ := hbd.st
      have c0 := cell_of_row _ _ 0 _ _ _ hcb
      have r0 := cell_of_row _ _ 0 _ _ _ hbd.res
      have rf := frozen_of_row _ _ 0 _ _ hbd.res
      simp at c0 r0
      have HCg := hide (cg_of hout hin0 hin1 n0 n1 n2)
      have HB := hide hbd.bel
      have hlo := HCg.out.lo
      clear HS hbd hcb hout hin0 hin1
      go_wp2
      refine bodyPost_ret (v := .agg #[sl G 2 cG]) (by simp [results, Try.results16, go_sem, r0]) rfl ⟨G, cG, fun x => if x = 0 then g0 else g1, rfl, ?_, HB.out.setCell (by simp) _⟩
      exact (HCg.out.chg (S := fun j => j < w.heap.size + 1 + 1 + 1) ((Chg.refl _ _).set (by omega) _) (by omega) (fun c hc => by have := hlo.2 c hc; omega)).mono (by omega)

end Go.Proofs.Ytlijgkodcbnhbaa
