/- CacheNew of both sides -/
import Derived.Test.YtlijgkodcbnhbaaCaT
namespace Go.Proofs.Ytlijgkodcbnhbaa
open Go.RowKit
set_option linter.unusedVariables false
set_option linter.unusedSimpArgs false

theorem made4 (w : World) (B : Nat) (hB : B ≤ w.heap.size) : Inn (w.alloc (.cells #[.bool false, .int .i64 0, .bool false, .int .i64 0, .bool false, .int .i64 0, .bool false, .int .i64 0] 40)) B w.heap.size 4 zS :=
  ⟨rfl, .inr ⟨w.heap.size, 4, _, rfl, hB, heap_alloc_new _ _, Nat.le_refl _, by unfold maxLen; omega, rfl, rfl⟩⟩

abbrev z8 : Array Value := #[.bool false, .int .i64 0, .bool false, .int .i64 0, .bool false, .int .i64 0, .bool false, .int .i64 0]
theorem make4 (W : World) : (Instr.makeSlice 56 (.int .i64 4) (.int .i64 4)).run Try.prog W = .ok (.slice (some ⟨W.heap.size, 0, none⟩) 4 4) (W.alloc (.cells z8 40)) := by
  obtain ⟨i0, hi, hz0, hz1, hz2⟩ := info_parts infoWayQ
  have h := run_make (P := Try.prog) (w := W) 56 40 i0 (.agg #[.bool false, .int .i64 0]) Try.underlying56 hi hz0 .i64 .i64 4 4 (by omega) (by omega) (by rw [hz2]; omega) (by omega)
  rw [hz1] at h
  have e : madeCells (Value.agg #[.bool false, .int .i64 0]).cells (Int.toNat 4 * 2) = z8 := by kernel_rfl
  rw [e] at h
  exact h

theorem blk2 (w : World) (o1 o2 : Obj) : ((w.drew.alloc o1).alloc o2).heap[w.heap.size + 1]? = some o2 := by
  have := heap_alloc_new (w.drew.alloc o1) o2
  simp only [World.size_alloc] at this
  exact this

set_option maxHeartbeats 4000000 in
set_option maxRecDepth 20000 in
theorem specNew (w : World) : Calls Try.prog 21 #[] w fun e w' => ∃ G c ib, e = .returned (.agg #[sl G 2 c]) ∧ Cg w' w.heap.size (sl G 2 c) 2 (fun _ => 4) (two zS zS) G ib ∧ Below w.heap.size w w' := by
  obtain ⟨i0, hi, hz0, hz1, hz2⟩ := info_parts infoCSetQ
  obtain ⟨W, hW⟩ : ∃ W, (w.alloc (.cells #[.slice none 0 0] 26)).alloc (.cells #[.slice none 0 0] 26) = W := ⟨_, rfl⟩
  have HS : Hid (Bd w W (w.heap.size + 1 + 1) (w.heap.size + 1) w.heap.size zS zS 0) := hide (by
    rw [← hW]
    refine ⟨((Below.refl _ _).alloc (Nat.le_refl _) _).alloc (by simp) _, ⟨by omega, ?_⟩, heap_a (heap_alloc_new _ _) _, by simp, by omega, by omega, by omega⟩
    have := heap_alloc_new (w.alloc (.cells #[.slice none 0 0] 26)) (.cells #[.slice none 0 0] 26)
    simpa only [World.size_alloc] using this)
  subst hW
  go_enter Try.func21, Try.ntmps21
  go_wp2
  go_loopw [2] (fun i wr => ∃ k : Nat, k ≤ 2 ∧ i = .int .i64 k ∧ Hid (Bd w wr (w.heap.size + 1 + 1) (w.heap.size + 1) w.heap.size zS zS k)) (fun i _ => 2 - (intOf i).toNat)
  case atStart => exact ⟨0, by omega, rfl, HS⟩
  case round =>
    clear HS
    obtain ⟨k, hk, rfl, HS⟩ := hrel
    have hk3 : k = 0 ∨ k = 1 ∨ k = 2 := by omega
    rcases hk3 with rfl | rfl | rfl
    · have hbd := HS.out
      have hcb : wr.heap[w.heap.size + 1]? = some (.cells #[.slice none 0 0] 26 (0, 0)) := hbd.st.2
      have c0 : wr.cell? ⟨w.heap.size + 1, 0, none⟩ = some (.slice none 0 0) := cell_of_row _ _ 0 _ _ _ hcb
      have c1 := allocd' c0
      have c2 : ∀ o1 o2 : Obj, ((wr.alloc o1).alloc o2).cell? ⟨w.heap.size + 1, 0, none⟩ = some (.slice none 0 0) := fun o1 o2 => allocc (allocc c0 o1) o2
      have hsz := hbd.size
      have hmk := make4
      have hb2a : Below wr.heap.size wr ((wr.drew.alloc (.cells z8 40)).alloc (.cells #[.int .i64 0, sl wr.heap.size 4 4] 58)) := (((Below.refl _ _).drew).alloc (Nat.le_refl _) _).alloc (by simp) _
      have hin4 : Inn ((wr.drew.alloc (.cells z8 40)).alloc (.cells #[.int .i64 0, sl wr.heap.size 4 4] 58)) (w.heap.size + 1 + 1) wr.heap.size 4 zS := (made4 wr.drew (w.heap.size + 1 + 1) hsz).below ((Below.refl _ _).alloc (Nat.le_refl _) _)
      have hb4 : ((wr.drew.alloc (.cells z8 40)).alloc (.cells #[.int .i64 0, sl wr.heap.size 4 4] 58)).heap[w.heap.size + 1]? = some (.cells #[.slice none 0 0] 26 (0, 0)) := heap_b hcb hb2a
      have hWW := hb2a.mono hbd.bel.size
      clear HS
      go_wp2
      go_region_law (refine step_append_lies _ (by rfl) _ _ _ (by rfl) (w.heap.size + 1 + 1) 58 i0 _ 2 32 Try.underlying24 hi hz0 hz1 hz2 rfl (by omega) (.slice none 0 0) 0 [] (by rfl) (World.ownsRow_nil _ _ _ _) ⟨wr.heap.size + 1, 0, none⟩ 1 1 [.int .i64 0, sl wr.heap.size 4 4] (by rfl) (by rfl) (World.news_of_block (cs := #[.int .i64 0, sl wr.heap.size 4 4]) (t := 58) (fr := (0, 0)) (blk2 wr _ _)) (by simp [Value.oneCell']) (by omega) (by unfold maxLen; omega) (by omega) (by simp; omega) _ rfl ?_; intro G cG w3 hown hgrow hat hlt; have hb3 : w3.heap[w.heap.size + 1]? = some (.cells #[.slice none 0 0] 26 (0, 0)) := (hgrow.block (w.heap.size + 1) (by simp; omega) (by simp [Value.ownBlock])).trans hb4; have c3 := cell_of_row _ _ 0 _ _ _ hb3; have f3 := frozen_of_row _ _ 0 _ _ hb3; have HF := hide (Bd.first (t := zS) (hbd.bel.trans hWW) (by omega) hb4 (heap_b hbd.res hb2a) (by simp; omega) (by omega) hin4 hown hgrow hat); clear hown hgrow hat hb3)
      all_goals go_wp2
      all_goals exact ⟨⟨1, by omega, rfl, HF⟩, by simp [intOf]⟩
    · have hbd := HS.out
      obtain ⟨hcbB, G0, cG0, g00, cc00, hcb0, hout0, hinn0, hne0⟩ := hbd.st
      have hG0 := World.ownsRow.lt hout0 G0 rfl
      have hg00 := hinn0.lt
      have hcb : wr.heap[w.heap.size + 1]? = some (.cells #[sl G0 1 cG0] 26 (0, 0)) := hcb0
      have c0 : wr.cell? ⟨w.heap.size + 1, 0, none⟩ = some (sl G0 1 cG0) := cell_of_row _ _ 0 _ _ _ hcb
      have c1 := allocd' c0
      have c2 : ∀ o1 o2 : Obj, ((wr.alloc o1).alloc o2).cell? ⟨w.heap.size + 1, 0, none⟩ = some (sl G0 1 cG0) := fun o1 o2 => allocc (allocc c0 o1) o2
      have hsz := hbd.size
      have hmk := make4
      have hb2a : Below wr.heap.size wr ((wr.drew.alloc (.cells z8 40)).alloc (.cells #[.int .i64 0, sl wr.heap.size 4 4] 58)) := (((Below.refl _ _).drew).alloc (Nat.le_refl _) _).alloc (by simp) _
      have hin4 : Inn ((wr.drew.alloc (.cells z8 40)).alloc (.cells #[.int .i64 0, sl wr.heap.size 4 4] 58)) (w.heap.size + 1 + 1) wr.heap.size 4 zS := (made4 wr.drew (w.heap.size + 1 + 1) hsz).below ((Below.refl _ _).alloc (Nat.le_refl _) _)
      have hb4 : ((wr.drew.alloc (.cells z8 40)).alloc (.cells #[.int .i64 0, sl wr.heap.size 4 4] 58)).heap[w.heap.size + 1]? = some (.cells #[sl G0 1 cG0] 26 (0, 0)) := heap_b hcb hb2a
      have hWW := hb2a.mono hbd.bel.size
      clear HS
      go_wp2
      go_region_law (refine step_append_lies _ (by rfl) _ _ _ (by rfl) (w.heap.size + 1 + 1) 58 i0 _ 2 32 Try.underlying24 hi hz0 hz1 hz2 rfl (by omega) (sl G0 1 cG0) 1 [.int .i64 0, sl g00 4 cc00] (by rfl) (Inn_out hout0 hb2a) ⟨wr.heap.size + 1, 0, none⟩ 1 1 [.int .i64 0, sl wr.heap.size 4 4] (by rfl) (by rfl) (World.news_of_block (cs := #[.int .i64 0, sl wr.heap.size 4 4]) (t := 58) (fr := (0, 0)) (blk2 wr _ _)) (by simp [Value.oneCell']) (by omega) (by unfold maxLen; omega) (by omega) (by simp; omega) _ rfl ?_; intro G cG w3 hown hgrow hat hlt; have hb3 : w3.heap[w.heap.size + 1]? = some (.cells #[sl G0 1 cG0] 26 (0, 0)) := (hgrow.block (w.heap.size + 1) (by simp; omega) (by simp [Value.ownBlock]; omega)).trans hb4; have c3 := cell_of_row _ _ 0 _ _ _ hb3; have f3 := frozen_of_row _ _ 0 _ _ hb3; have HF := hide (Bd.second (hbd.bel.trans hWW) (by omega) hb4 (heap_b hbd.res hb2a) (by simp; omega) (by omega) hG0.1 (hinn0.below hb2a) hin4 hne0 (by omega) (by omega) hown hgrow hat); clear hown hgrow hat hb3)
      all_goals go_wp2
      all_goals exact ⟨⟨2, by omega, rfl, HF⟩, by simp [intOf]⟩
    · have hbd := HS.out
      obtain ⟨hcbB, G, cG, g0, cc0, g1, cc1, hcb, hout, hin0, hin1, n0, n1, n2⟩ := hbd.st
      have c0 := cell_of_row _ _ 0 _ _ _ hcb
      have r0 := cell_of_row _ _ 0 _ _ _ hbd.res
      have rf := frozen_of_row _ _ 0 _ _ hbd.res
      simp at c0 r0
      have HCg := hide (cg_of hout hin0 hin1 n0 n1 n2)
      have HB := hide hbd.bel
      have hlo := HCg.out.lo
      clear HS hbd hcb hout hin0 hin1
      go_wp2
      refine bodyPost_ret (v := .agg #[sl G 2 cG]) (by simp [results, Try.results21, go_sem, r0]) rfl ⟨G, cG, fun x => if x = 0 then g0 else g1, rfl, ?_, HB.out.setCell (by simp) _⟩
      exact (HCg.out.chg (S := fun j => j < w.heap.size + 1 + 1) ((Chg.refl _ _).set (by omega) _) (by omega) (fun c hc => by have := hlo.2 c hc; omega)).mono (by omega)

end Go.Proofs.Ytlijgkodcbnhbaa
