/- spec.Looked -/
import Derived.Test.YtofnkbpkjgapbaaCaL3
import Derived.Test.YtofnkbpkjgapbaaCaL1
import Derived.Test.YtofnkbpkjgapbaaCaP
namespace Go.Proofs.Ytofnkbpkjgapbaa
open Go.RowKit
set_option linter.unusedVariables false
set_option linter.unusedSimpArgs false

theorem Cv.congr {w : World} {v : Value} {n : Nat} {L L' : Nat → Nat} {D D' : Nat → Sm} (h : Cv w v n L D) (hL : ∀ c, c < n → L c = L' c) (hD : ∀ c, c < n → D c = D' c) : Cv w v n L' D' := by
  obtain ⟨ad, cap, rfl, hv⟩ := h
  refine ⟨ad, cap, rfl, fun hn => ?_⟩
  obtain ⟨b, off, rfl, h2⟩ := hv hn
  refine ⟨b, off, rfl, fun c hc => ?_⟩
  have h3 := h2 c hc
  rw [hL c hc, hD c hc] at h3
  exact h3

set_option maxHeartbeats 2000000 in
set_option maxRecDepth 20000 in
theorem specLooked_any (v : Value) (n : Nat) (L : Nat → Nat) (D : Nat → Sm) (x : Int) (w : World) (hv : Cv w v n L D) :
    Calls Try.prog 11 #[.agg #[v], .int .i64 x] w fun e w' => LkPost n L D x w e w' := by
  obtain ⟨W, hW⟩ : ∃ W, (w.alloc (.cells #[v] 26)).alloc (.cells #[.slice none 0 0] 26) = W := ⟨_, rfl⟩
  have hB : Below w.heap.size w W := by rw [← hW]; exact ((Below.refl _ _).alloc (Nat.le_refl _) _).alloc (by simp) _
  have hr : W.heap[w.heap.size + 1]? = some (.cells #[.slice none 0 0] 26 (0, 0)) := by
    rw [← hW]
    have := heap_alloc_new (w.alloc (.cells #[v] 26)) (.cells #[.slice none 0 0] 26)
    simpa only [World.size_alloc] using this
  have hc0 : W.cell? ⟨w.heap.size, 0, none⟩ = some v := by
    rw [← hW]
    have h0 : (w.alloc (.cells #[v] 26)).cell? ⟨w.heap.size, 0, none⟩ = some v := cell_of_row _ _ 0 _ _ _ (heap_alloc_new _ _)
    exact allocc h0 _
  have hws : W.heap.size = w.heap.size + 1 + 1 := by rw [← hW]; simp
  have HV := hide (hv.below hB)
  have hk := fun w h => specCacheOk_any v n L D w h
  obtain ⟨ad, cap, rfl, _⟩ := hv
  cases hc : Ca.cokB n L D
  · have HN : Hid ((Ca.cokB n L D && inR x 1000) = false) := hide (by rw [hc]; rfl)
    rw [hc] at hk
    clear hc
    go_enter Try.func11, Try.ntmps11
    go_wp2_with fail
    refine (hk _ HV.out).mono ?_
    rintro e w1 ⟨rfl, hb1⟩
    have hr1 := heap_b hr hb1
    have r0 := cell_of_row _ _ 0 _ _ _ hr1
    have rf := frozen_of_row _ _ 0 _ _ hr1
    simp at r0
    have HB := hide (hB.trans (hb1.mono hB.size))
    clear hb1 hB HV hc0 hk hr1 hr hW
    go_wp2
    refine bodyPost_ret (v := .tuple #[.agg #[.slice none 0 0], .bool false, .int .i64 (-1)]) (by simp [results, Try.results11, go_sem, r0]) rfl (LkPost.no HN.out ⟨rfl, HB.out.setCell (by simp) _⟩)
  · rw [hc] at hk
    have hA := fun w => l1In_any x 1000 w
    cases hx : inR x 1000
    · have HN : Hid ((Ca.cokB n L D && inR x 1000) = false) := hide (by rw [hc, hx]; rfl)
      rw [hx] at hA
      clear hc hx
      go_enter Try.func11, Try.ntmps11
      go_wp2_with fail
      refine (hk _ HV.out).mono ?_
      rintro e w1 ⟨rfl, hb1⟩
      have hr1 := heap_b hr hb1
      have r0 := cell_of_row _ _ 0 _ _ _ hr1
      have rf := frozen_of_row _ _ 0 _ _ hr1
      simp at r0
      have HB := hide (hB.trans (hb1.mono hB.size))
      clear hb1 hB HV hc0 hk hr1 hr hW
      go_wp2_with fail
      refine (hA _).mono ?_
      rintro e w2 ⟨rfl, rfl⟩
      go_wp2
      refine bodyPost_ret (v := .tuple #[.agg #[.slice none 0 0], .bool false, .int .i64 (-1)]) (by simp [results, Try.results11, go_sem, r0]) rfl (LkPost.no HN.out ⟨rfl, HB.out.setCell (by simp) _⟩)
    · have HY := hide (And.intro hc hx)
      obtain ⟨hx0, hx1⟩ := (inR_cases hx).1 rfl
      obtain ⟨rfl, l0, l1, hr0, hr1⟩ := cok_two hc
      have two_c : ∀ c, c < 2 → c = 0 ∨ c = 1 := fun c hc => by omega
      have hcv : ∀ W, Cv W (.slice ad 2 cap) 2 L D → Cv W (.slice ad 2 cap) 2 (fun _ => 4) (two (D 0) (D 1)) := fun W h => h.congr (fun c hc => by rcases two_c c hc with rfl | rfl; (· exact l0); (· exact l1)) (fun c hc => by rcases two_c c hc with rfl | rfl <;> rfl)
      have hl := fun W h => l9Looked_any (.slice ad 2 cap) (D 0) (D 1) x W h hx0 hx1 hr0 hr1
      have HP : Hid (∀ e w', (∃ G c ib, e = .returned (.tuple #[.agg #[sl G 2 c], .bool (Ca.hd (Ca.at2 (D 0) (D 1) x) x), .int .i64 (Ca.gn (Ca.at2 (D 0) (D 1) x) x)]) ∧ Cg w' w.heap.size (sl G 2 c) 2 (fun _ => 4) (two (Ca.lk2 (D 0) (D 1) x).1 (Ca.lk2 (D 0) (D 1) x).2) G ib ∧ Below w.heap.size w w') → LkPost 2 L D x w e w') := hide (fun e w' h => LkPost.yes HY.out.1 HY.out.2 h)
      rw [hx] at hA
      have HCV := hide hcv
      clear hc hx hx0 hx1 hr0 hr1 l0 l1 two_c hcv
      generalize Ca.hd (Ca.at2 (D 0) (D 1) x) x = hh at hl HP
      generalize Ca.gn (Ca.at2 (D 0) (D 1) x) x = gg at hl HP
      generalize (Ca.lk2 (D 0) (D 1) x).1 = s' at hl HP
      generalize (Ca.lk2 (D 0) (D 1) x).2 = t' at hl HP
      go_enter Try.func11, Try.ntmps11
      go_wp2_with fail
      refine (hk _ HV.out).mono ?_
      rintro e w1 ⟨rfl, hb1⟩
      have hr1 := heap_b hr hb1
      have hc1 := keepc hb1 hc0
      have HV1 := hide (HV.out.below hb1)
      have hB1 := hB.trans (hb1.mono hB.size)
      have hw1 := hb1.size
      clear hb1 hB HV hc0 hk hr hW
      go_wp2_with fail
      refine (hA _).mono ?_
      rintro e w2 ⟨rfl, rfl⟩
      go_wp2_with fail
      refine (hl _ (HCV.out _ HV1.out)).mono ?_
      rintro e w6 ⟨G, c, ib, rfl, hcg, hb6⟩
      have hr6 := heap_b hr1 hb6
      have r0 := cell_of_row _ _ 0 _ _ _ hr6
      have rf := frozen_of_row _ _ 0 _ _ hr6
      simp at r0
      have HCg := hide hcg
      have hlo := hcg.lo
      have HB6 := hide (hB1.trans (hb6.mono hB1.size))
      clear hcg hb6 hr6 hr1 hB1 hl HV1 HCV
      go_wp2
      refine bodyPost_ret (v := .tuple #[.agg #[sl G 2 c], .bool hh, .int .i64 gg]) (by simp [results, Try.results11, go_sem, r0]) rfl (HP.out _ _ ⟨G, c, ib, rfl, ?_, HB6.out.setCell (by simp) _⟩)
      exact (HCg.out.chg (S := fun j => j < w.heap.size + 1 + 1) ((Chg.refl _ _).set (by omega) _) (by omega) (fun c hc => by have := hlo.2 c hc; omega)).mono (by omega)

end Go.Proofs.Ytofnkbpkjgapbaa
