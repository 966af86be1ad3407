/- flit, DrawFlitText -/
import Derived.Test.YtbinjcmfbkhbjacFlR
namespace Go.Proofs.Ytbinjcmfbkhbjac
open Go.RowKit
set_option linter.unusedVariables false
set_option linter.unusedSimpArgs false

theorem grown_set {w0 w : World} {g F : Nat} (h : w0.grownBy w (some g)) (hF : w0.heap.size ≤ F) (i : Nat) (v : Value) : w0.grownBy (w.setCell ⟨F, i, none⟩ v) (some g) := by
  refine ⟨h.os, h.tape, h.output, by simpa using h.size, fun k hk hne => ?_⟩
  rw [heap_setCell_other w ⟨F, i, none⟩ k v (by show k ≠ F; omega)]
  exact h.block k hk hne

/-- the worlds of flit: the result's block, the reader, the flit's block -/
structure FW (w0 w : World) (g F : Nat) (k s : Int) (b : ByteArray) : Prop where
  rd : Rdr w g
  gr : w0.grownBy w (some g)
  res : w.heap[w0.heap.size]? = some (.cells #[.int .i64 0, .int .i64 0, .string ⟨#[]⟩] 28 (0, 0))
  fl : w.heap[F]? = some (.cells #[.int .i64 k, .int .i64 s, .string b] 28 (0, 0))
  lg : g < w0.heap.size
  lF : w0.heap.size < F

theorem FW.read {w0 w w' : World} {g F : Nat} {k s : Int} {b : ByteArray} (h : FW w0 w g F k s b) (hr : Rdr w' g) (hg : w.grownBy w' (some g)) : FW w0 w' g F k s b := by
  have := h.lg
  have := h.lF
  refine ⟨hr, grown_trans h.gr hg, ?_, ?_, h.lg, h.lF⟩
  · rw [hg.block _ (lt_of_block h.res) (fun e => by simp at e; omega)]; exact h.res
  · rw [hg.block _ (lt_of_block h.fl) (fun e => by simp at e; omega)]; exact h.fl
theorem FW.start {w w2 : World} {g : Nat} (hlt : g < w.heap.size) (hg : (w.alloc (.cells #[.int .i64 0, .int .i64 0, .string ⟨#[]⟩] 28)).grownBy w2 (some g)) (hr : Rdr w2 g) (k s : Int) (b : ByteArray) :
    FW w (w2.alloc (.cells #[.int .i64 k, .int .i64 s, .string b] 28)) g w2.heap.size k s b := by
  have hsz := hg.size
  rw [World.size_alloc] at hsz
  refine ⟨hr.grown (grown_alloc _ _ none) (fun k hk => by cases hk), grown_trans (grown_trans (grown_alloc _ _ _) hg) (grown_alloc _ _ _), ?_, heap_alloc_new _ _, hlt, by omega⟩
  rw [Below.heap_alloc _ _ _ (by omega), hg.block _ (by simp) (fun e => by simp at e; omega)]
  exact heap_alloc_new _ _
theorem FW.facts {w0 w : World} {g F : Nat} {k s : Int} {b : ByteArray} (h : FW w0 w g F k s b) :
    (∀ i, w.frozen? ⟨F, i, none⟩ = false) ∧ w.cell? ⟨F, 0, none⟩ = some (.int .i64 k) ∧ w.cell? ⟨F, 1, none⟩ = some (.int .i64 s) ∧ w.cell? ⟨F, 2, none⟩ = some (.string b) ∧ (∀ i, w.frozen? ⟨w0.heap.size, i, none⟩ = false) ∧
    w.cell? ⟨w0.heap.size, 0, none⟩ = some (.int .i64 0) ∧ w.cell? ⟨w0.heap.size, 1, none⟩ = some (.int .i64 0) ∧ w.cell? ⟨w0.heap.size, 2, none⟩ = some (.string ⟨#[]⟩) := by
  refine ⟨fun i => frozen_of_row w _ i _ _ h.fl, ?_, ?_, ?_, fun i => frozen_of_row w _ i _ _ h.res, ?_, ?_, ?_⟩
  all_goals first
    | (rw [cell_of_row w F _ _ _ _ h.fl]; rfl)
    | (rw [cell_of_row w w0.heap.size _ _ _ _ h.res]; rfl)
theorem FW.put0 {w0 w : World} {g F : Nat} {k s : Int} {b : ByteArray} (h : FW w0 w g F k s b) (z : Int) : FW w0 (w.setCell ⟨F, 0, none⟩ (.int .i64 z)) g F z s b := by
  have h1 := h.lg
  have h2 := h.lF
  refine ⟨h.rd.grown (row := some F) ⟨rfl, rfl, rfl, by simp, fun k _ hk => heap_setCell_other w ⟨F, 0, none⟩ k _ (fun e => hk (by simp [e]))⟩ (fun j hj => by simp at hj; omega), grown_set h.gr (by omega) _ _, ?_, ?_, h.lg, h.lF⟩
  · rw [heap_setCell_other w ⟨F, 0, none⟩ _ _ (by show w0.heap.size ≠ F; omega)]; exact h.res
  · exact heap_setCell_same w F 0 _ _ (.int .i64 z) h.fl
theorem FW.put1 {w0 w : World} {g F : Nat} {k s : Int} {b : ByteArray} (h : FW w0 w g F k s b) (z : Int) : FW w0 (w.setCell ⟨F, 1, none⟩ (.int .i64 z)) g F k z b := by
  have h1 := h.lg
  have h2 := h.lF
  refine ⟨h.rd.grown (row := some F) ⟨rfl, rfl, rfl, by simp, fun k _ hk => heap_setCell_other w ⟨F, 1, none⟩ k _ (fun e => hk (by simp [e]))⟩ (fun j hj => by simp at hj; omega), grown_set h.gr (by omega) _ _, ?_, ?_, h.lg, h.lF⟩
  · rw [heap_setCell_other w ⟨F, 1, none⟩ _ _ (by show w0.heap.size ≠ F; omega)]; exact h.res
  · exact heap_setCell_same w F 1 _ _ (.int .i64 z) h.fl
theorem FW.put2 {w0 w : World} {g F : Nat} {k s : Int} {b : ByteArray} (h : FW w0 w g F k s b) (z : ByteArray) : FW w0 (w.setCell ⟨F, 2, none⟩ (.string z)) g F k s z := by
  have h1 := h.lg
  have h2 := h.lF
  refine ⟨h.rd.grown (row := some F) ⟨rfl, rfl, rfl, by simp, fun k _ hk => heap_setCell_other w ⟨F, 2, none⟩ k _ (fun e => hk (by simp [e]))⟩ (fun j hj => by simp at hj; omega), grown_set h.gr (by omega) _ _, ?_, ?_, h.lg, h.lF⟩
  · rw [heap_setCell_other w ⟨F, 2, none⟩ _ _ (by show w0.heap.size ≠ F; omega)]; exact h.res
  · exact heap_setCell_same w F 2 _ _ (.string z) h.fl
/-- the result written -/
theorem FW.done {w0 w : World} {g F : Nat} {k s : Int} {b : ByteArray} (h : FW w0 w g F k s b) (v0 v1 v2 : Value) : Rdr (((w.setCell ⟨w0.heap.size, 0, none⟩ v0).setCell ⟨w0.heap.size, 1, none⟩ v1).setCell ⟨w0.heap.size, 2, none⟩ v2) g ∧ w0.grownBy (((w.setCell ⟨w0.heap.size, 0, none⟩ v0).setCell ⟨w0.heap.size, 1, none⟩ v1).setCell ⟨w0.heap.size, 2, none⟩ v2) (some g) := by
  have h1 := h.lg
  have one : ∀ (W : World) (i : Nat) (v : Value), Rdr W g → Rdr (W.setCell ⟨w0.heap.size, i, none⟩ v) g := fun W i v hr => hr.grown (row := some w0.heap.size) ⟨rfl, rfl, rfl, by simp, fun k _ hk => heap_setCell_other W ⟨w0.heap.size, i, none⟩ k _ (fun e => hk (by simp [e]))⟩ (fun j hj => by simp at hj; omega)
  exact ⟨one _ _ _ (one _ _ _ (one _ _ _ h.rd)), grown_set (grown_set (grown_set h.gr (Nat.le_refl _) _ _) (Nat.le_refl _) _ _) (Nat.le_refl _) _ _⟩

set_option maxHeartbeats 4000000 in
theorem flit_any (g : Nat) (w : World) (h : Rdr w g) :
    Calls Try.prog 31 #[.pointer (some ⟨g, 0, none⟩)] w fun e w' => ∃ (k s : Int) (b : ByteArray), e = .returned (.agg #[.int .i64 k, .int .i64 s, .string b]) ∧ b.size ≤ 9 ∧ Rdr w' g ∧ w.grownBy w' (some g) := by
  have hlt := h.lt
  go_enter Try.func31, Try.ntmps31
  go_wp2_with fail
  refine (below_any g 9 _ (h.grown (grown_alloc _ _ none) (fun k hk => by cases hk)) (by decide) (by decide)).mono ?_
  rintro e w1 ⟨c, rfl, hc0, hc4, hr1, hg1⟩
  clear h
  go_wp2_with fail
  refine (body_any g _ hr1).mono ?_
  rintro e w2 ⟨b, rfl, hb9, hr2, hg2⟩
  have fw := FW.start hlt (grown_trans hg1 hg2) hr2 1 c b
  generalize hF : w2.heap.size = F at fw
  have HFs := hide hF
  clear hr1 hg1 hg2 hlt
  have hr3 := fw.rd
  obtain ⟨ff, f0, f1, f2, fy, y0, y1, y2⟩ := fw.facts
  go_wp2_with fail
  refine (once_any g 3 _ hr3 (by omega) (by omega)).mono ?_
  rintro e w3 ⟨b1, rfl, hr, hg⟩
  have fw3 := fw.read hr hg
  clear fw hr hg hr3 ff f0 f1 f2 fy y0 y1 y2 hF hr2 HFs
  cases b1
  · go_wp2_with fail
    refine (once_any g 12 _ fw3.rd (by omega) (by omega)).mono ?_
    rintro e w5 ⟨b2, rfl, hr, hg⟩
    have fw5 := fw3.read hr hg
    clear hr hg fw3
    cases b2
    · obtain ⟨ff, f0, f1, f2, fy, y0, y1, y2⟩ := fw5.facts
      go_wp2
      refine bodyPost_ret (v := .agg #[.int .i64 1, .int .i64 c, .string b]) (by simp [results, Try.results31, go_sem, Act.put, y0, y1, y2]) rfl ⟨_, _, _, rfl, hb9, fw5.done _ _ _⟩
    · go_wp2_with fail
      refine (off_any g 0 1000000 _ fw5.rd (by omega) (by omega) (by omega)).mono ?_
      rintro e w6 ⟨z, rfl, hr, hg⟩
      have fw6 := fw5.read hr hg
      clear hr hg fw5
      obtain ⟨ff, f0, f1, f2, fy, y0, y1, y2⟩ := fw6.facts
      have fw7 := fw6.put1 z
      obtain ⟨gf, g0, g1, g2, gy, x0, x1, x2⟩ := fw7.facts
      go_wp2
      refine bodyPost_ret (v := .agg #[.int .i64 1, .int .i64 z, .string b]) (by simp [results, Try.results31, go_sem, Act.put, x0, x1, x2]) rfl ⟨_, _, _, rfl, hb9, fw7.done _ _ _⟩
  · go_wp2_with fail
    refine (below_any g 9 _ fw3.rd (by omega) (by omega)).mono ?_
    rintro e w4 ⟨d, rfl, hd0, hd4, hr, hg⟩
    have fw4 := fw3.read hr hg
    clear hr hg fw3
    have fw4' := ((fw4.put0 2).put1 d).put2 ⟨#[]⟩
    obtain ⟨ff, f0, f1, f2, fy, y0, y1, y2⟩ := fw4.facts
    go_wp2_with fail
    refine (once_any g 12 _ fw4'.rd (by omega) (by omega)).mono ?_
    rintro e w5 ⟨b2, rfl, hr, hg⟩
    have fw5 := fw4'.read hr hg
    clear hr hg fw4 fw4' ff f0 f1 f2 fy y0 y1 y2
    cases b2
    · obtain ⟨ff, f0, f1, f2, fy, y0, y1, y2⟩ := fw5.facts
      go_wp2
      refine bodyPost_ret (v := .agg #[.int .i64 2, .int .i64 d, .string ⟨#[]⟩]) (by simp [results, Try.results31, go_sem, Act.put, y0, y1, y2]) rfl ⟨_, _, _, rfl, (by show 0 ≤ 9; omega), fw5.done _ _ _⟩
    · go_wp2_with fail
      refine (off_any g 0 1000000 _ fw5.rd (by omega) (by omega) (by omega)).mono ?_
      rintro e w6 ⟨z, rfl, hr, hg⟩
      have fw6 := fw5.read hr hg
      clear hr hg fw5
      obtain ⟨ff, f0, f1, f2, fy, y0, y1, y2⟩ := fw6.facts
      have fw7 := fw6.put1 z
      obtain ⟨gf, g0, g1, g2, gy, x0, x1, x2⟩ := fw7.facts
      go_wp2
      refine bodyPost_ret (v := .agg #[.int .i64 2, .int .i64 z, .string ⟨#[]⟩]) (by simp [results, Try.results31, go_sem, Act.put, x0, x1, x2]) rfl ⟨_, _, _, rfl, (by show 0 ≤ 9; omega), fw7.done _ _ _⟩
set_option maxHeartbeats 1000000 in
theorem drawFlit_any (ad : Option Addr) (n cap : Nat) (w : World) (hb : Bt w ad n) (hn : n ≤ 1048576) :
    Calls Try.prog 22 #[.slice ad n cap] w fun e w' => ∃ (k s : Int) (b : ByteArray), e = .returned (.agg #[.int .i64 k, .int .i64 s, .string b]) ∧ b.size ≤ 9 ∧ Below w.heap.size w w' := by
  have hb' : Bt (w.alloc (.cells #[.int .i64 0, .int .i64 0, .string ⟨#[]⟩] 28)) ad n := hb.below ((Below.refl _ _).alloc (Nat.le_refl _) _)
  clear hb
  go_enter Try.func22, Try.ntmps22
  go_wp2_with fail
  refine (open_any ad n cap _ hb' hn).mono ?_
  rintro e w1 ⟨g, rfl, hg1, hr1, hb1⟩
  clear hb'
  go_wp2_with fail
  refine (flit_any g _ hr1).mono ?_
  rintro e w2 ⟨k, s, b, rfl, hb9, hr2, hg2⟩
  rw [World.size_alloc] at hg1 hb1
  have hres : w2.heap[w.heap.size]? = some (.cells #[.int .i64 0, .int .i64 0, .string ⟨#[]⟩] 28 (0, 0)) := by
    have hz := hb1.size
    rw [World.size_alloc] at hz
    rw [hg2.block _ (by omega) (fun e => by simp at e; omega), hb1.block _ (by omega)]
    exact heap_alloc_new _ _
  have hbel : Below w.heap.size w w2 := by
    have hz := hb1.size
    rw [World.size_alloc] at hz
    exact below_read (((Below.refl _ _).alloc (Nat.le_refl _) _).trans (hb1.mono (by omega))) hg2 (by omega) (by omega)
  have fy : ∀ i, w2.frozen? ⟨w.heap.size, i, none⟩ = false := fun i => frozen_of_row w2 _ i _ _ hres
  have y0 : w2.cell? ⟨w.heap.size, 0, none⟩ = some (.int .i64 0) := by rw [cell_of_row w2 _ 0 _ _ _ hres]; rfl
  have y1 : w2.cell? ⟨w.heap.size, 1, none⟩ = some (.int .i64 0) := by rw [cell_of_row w2 _ 1 _ _ _ hres]; rfl
  have y2 : w2.cell? ⟨w.heap.size, 2, none⟩ = some (.string ⟨#[]⟩) := by rw [cell_of_row w2 _ 2 _ _ _ hres]; rfl
  have HB := hide hbel
  clear hr1 hr2 hg1 hg2 hb1 hres hbel
  go_wp2
  refine bodyPost_ret (v := .agg #[.int .i64 k, .int .i64 s, .string b]) (by simp [results, Try.results22, go_sem, Act.put, y0, y1, y2]) rfl ⟨_, _, _, rfl, hb9, ?_⟩
  exact ((HB.out.setCell (Nat.le_refl _) _).setCell (Nat.le_refl _) _).setCell (Nat.le_refl _) _

end Go.Proofs.Ytbinjcmfbkhbjac
