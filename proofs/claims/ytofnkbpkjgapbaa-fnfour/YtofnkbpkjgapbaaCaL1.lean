/- impl.Looked -/
import Derived.Test.YtofnkbpkjgapbaaCaZ
import Derived.Test.YtofnkbpkjgapbaaCaP
namespace Go.Proofs.Ytofnkbpkjgapbaa
open Go.RowKit
set_option linter.unusedVariables false
set_option linter.unusedSimpArgs false

theorem bits_of {n : Nat} {L : Nat → Nat} {D : Nat → Sm} (h : Ca.cokB n L D = true) : inR (D 0).b 7 = true ∧ inR (D 1).b 7 = true := by
  obtain ⟨_, _, _, h0, h1⟩ := cok_two h
  simp only [Ca.rightB, Bool.and_eq_true] at h0 h1
  exact ⟨h0.2, h1.2⟩

/-- the answer of a look -/
def LkPost (n : Nat) (L : Nat → Nat) (D : Nat → Sm) (x : Int) (w : World) (e : Ending) (w' : World) : Prop :=
  if (Ca.cokB n L D && inR x 1000) = true then ∃ G c ib, e = .returned (.tuple #[.agg #[sl G 2 c], .bool (Ca.hd (Ca.at2 (D 0) (D 1) x) x), .int .i64 (Ca.gn (Ca.at2 (D 0) (D 1) x) x)]) ∧ Cg w' w.heap.size (sl G 2 c) 2 (fun _ => 4) (two (Ca.lk2 (D 0) (D 1) x).1 (Ca.lk2 (D 0) (D 1) x).2) G ib ∧ Below w.heap.size w w'
  else e = .returned (.tuple #[.agg #[.slice none 0 0], .bool false, .int .i64 (-1)]) ∧ Below w.heap.size w w'
theorem LkPost.yes {n : Nat} {L : Nat → Nat} {D : Nat → Sm} {x : Int} {w : World} {e : Ending} {w' : World} (h1 : Ca.cokB n L D = true) (h2 : inR x 1000 = true) (h : ∃ G c ib, e = .returned (.tuple #[.agg #[sl G 2 c], .bool (Ca.hd (Ca.at2 (D 0) (D 1) x) x), .int .i64 (Ca.gn (Ca.at2 (D 0) (D 1) x) x)]) ∧ Cg w' w.heap.size (sl G 2 c) 2 (fun _ => 4) (two (Ca.lk2 (D 0) (D 1) x).1 (Ca.lk2 (D 0) (D 1) x).2) G ib ∧ Below w.heap.size w w') : LkPost n L D x w e w' := by
  unfold LkPost; rw [if_pos (by rw [h1, h2]; rfl)]; exact h
theorem LkPost.no {n : Nat} {L : Nat → Nat} {D : Nat → Sm} {x : Int} {w : World} {e : Ending} {w' : World} (h1 : (Ca.cokB n L D && inR x 1000) = false) (h : e = .returned (.tuple #[.agg #[.slice none 0 0], .bool false, .int .i64 (-1)]) ∧ Below w.heap.size w w') : LkPost n L D x w e w' := by
  unfold LkPost; rw [if_neg (by rw [h1]; decide)]; exact h

set_option maxHeartbeats 2000000 in
set_option maxRecDepth 20000 in
theorem implLooked_any (v : Value) (n : Nat) (L : Nat → Nat) (D : Nat → Sm) (x : Int) (w : World) (hv : Cv w v n L D) :
    Calls Try.prog 10 #[.agg #[v], .int .i64 x] w fun e w' => LkPost n L D x w e w' := by
  obtain ⟨W, hW⟩ : ∃ W, (w.alloc (.cells #[v] 26)).alloc (.cells #[.slice none 0 0] 26) = W := ⟨_, rfl⟩
  have hB : Below w.heap.size w W := by rw [← hW]; exact ((Below.refl _ _).alloc (Nat.le_refl _) _).alloc (by simp) _
  have hr : W.heap[w.heap.size + 1]? = some (.cells #[.slice none 0 0] 26 (0, 0)) := by
    rw [← hW]
    have := heap_alloc_new (w.alloc (.cells #[v] 26)) (.cells #[.slice none 0 0] 26)
    simpa only [World.size_alloc] using this
  have hc0 : W.cell? ⟨w.heap.size, 0, none⟩ = some v := by
    rw [← hW]
    have h0 : (w.alloc (.cells #[v] 26)).cell? ⟨w.heap.size, 0, none⟩ = some v := cell_of_row _ _ 0 _ _ _ (heap_alloc_new _ _)
    exact allocc h0 _
  have hws : W.heap.size = w.heap.size + 1 + 1 := by rw [← hW]; simp
  have HV := hide (hv.below hB)
  obtain ⟨ad, cap, rfl, _⟩ := hv
  go_enter Try.func10, Try.ntmps10
  go_wp2_with fail
  refine (setsOf_all _ n L D _ HV.out).mono ?_
  rintro e w1 ⟨s, t, rfl, hst1, hb1⟩
  have hst := stored73 w1 s t
  have hz : (c18 s t).size = 18 := rfl
  have hB1 := hB.trans (hb1.mono hB.size)
  have hr1 := heap_b hr hb1
  have hw1 := hb1.size
  clear hb1 hB HV hW hc0 hr
  obtain ⟨W2, hW2⟩ : ∃ W2, w1.alloc (.cells (c18 s t) 57) = W2 := ⟨_, rfl⟩
  have hg2 : W2.heap[w1.heap.size]? = some (.cells (c18 s t) 57 (0, 0)) := by rw [← hW2]; exact heap_alloc_new _ _
  have hr2 : W2.heap[w.heap.size + 1]? = some (.cells #[.slice none 0 0] 26 (0, 0)) := by rw [← hW2]; exact heap_a hr1 _
  have hB2 : Below w.heap.size w W2 := by rw [← hW2]; exact below_a hB1 (Nat.le_refl _) _
  have hw2 : W2.heap.size = w1.heap.size + 1 := by rw [← hW2]; simp
  rw [hW2] at hst
  have r0 := cell_of_row _ _ 0 _ _ _ hr2
  have rf := frozen_of_row _ _ 0 _ _ hr2
  simp at r0
  cases hc : Ca.cokB n L D
  · have HN : Hid ((Ca.cokB n L D && inR x 1000) = false) := hide (by rw [hc]; rfl)
    have HB2 := hide hB2
    clear hst1 hc hg2 hr2 hB2 hB1 hr1 hW2
    obtain ⟨C, hC⟩ : ∃ C, c18 s t = C := ⟨_, rfl⟩
    rw [hC] at hst hz
    rw [hC]
    clear hC
    go_wp2
    refine bodyPost_ret (v := .tuple #[.agg #[.slice none 0 0], .bool false, .int .i64 (-1)]) (by simp [results, Try.results10, go_sem, r0]) rfl (LkPost.no HN.out ⟨rfl, HB2.out.setCell (by simp) _⟩)
  · obtain ⟨rfl, rfl⟩ := hst1 hc
    have hA := fun w => isAddr_any x w
    obtain ⟨hb0, hb1⟩ := bits_of hc
    cases hx : inR x 1000
    · have HN : Hid ((Ca.cokB n L D && inR x 1000) = false) := hide (by rw [hc, hx]; rfl)
      have HB2 := hide hB2
      rw [hx] at hA
      clear hst1 hc hx hg2 hr2 hB2 hB1 hr1 hW2
      obtain ⟨C, hC⟩ : ∃ C, c18 (D 0) (D 1) = C := ⟨_, rfl⟩
      rw [hC] at hst hz
      rw [hC]
      clear hC
      go_wp2_with fail
      refine (hA _).mono ?_
      rintro e w3 ⟨rfl, rfl⟩
      go_wp2
      refine bodyPost_ret (v := .tuple #[.agg #[.slice none 0 0], .bool false, .int .i64 (-1)]) (by simp [results, Try.results10, go_sem, r0]) rfl (LkPost.no HN.out ⟨rfl, HB2.out.setCell (by simp) _⟩)
    · have HY := hide (And.intro hc hx)
      have hx0 := ((inR_cases hx).1 rfl).1
      have hl := fun w => lookedW_any (D 0) (D 1) x w hx0 hb0 hb1
      rw [hx] at hA
      have HL := hide (range73 hg2)
      have hsz : (c18 (D 0) (D 1)).toList.length = 18 := rfl
      have HG := hide hr2
      have HB2 := hide hB2
      clear hst1 hc hx hg2 hr2 hB2 hB1 hr1 hW2 hb0 hb1
      have HP : Hid (∀ e w', (∃ G c ib, e = .returned (.tuple #[.agg #[sl G 2 c], .bool (Ca.hd (Ca.at2 (D 0) (D 1) x) x), .int .i64 (Ca.gn (Ca.at2 (D 0) (D 1) x) x)]) ∧ Cg w' w.heap.size (sl G 2 c) 2 (fun _ => 4) (two (Ca.lk2 (D 0) (D 1) x).1 (Ca.lk2 (D 0) (D 1) x).2) G ib ∧ Below w.heap.size w w') → LkPost n L D x w e w') := hide (fun e w' h => LkPost.yes HY.out.1 HY.out.2 h)
      have hcache := fun w => cache_any (Ca.lk2 (D 0) (D 1) x).1 (Ca.lk2 (D 0) (D 1) x).2 w
      generalize Ca.hd (Ca.at2 (D 0) (D 1) x) x = hh at hl HP
      generalize Ca.gn (Ca.at2 (D 0) (D 1) x) x = gg at hl HP
      generalize (Ca.lk2 (D 0) (D 1) x).1 = s' at hl HP hcache
      generalize (Ca.lk2 (D 0) (D 1) x).2 = t' at hl HP hcache
      obtain ⟨C, hC⟩ : ∃ C, c18 (D 0) (D 1) = C := ⟨_, rfl⟩
      rw [hC] at hst hz HL hsz hl
      rw [hC]
      clear hC r0 rf
      go_wp2_with (first | (go_at_call 28; refine (hA _).mono ?_; rintro e w3 ⟨rfl, rfl⟩) | ((with_reducible refine wpList_load_mid (op := { dst := some 26, op := Op.load 57 (Operand.tmp 7), type := 57, pos := _, after := _, guard := none }) ?_ 57 (Operand.tmp 7) ?_ w1.heap.size 0 ?_ C.toList _ HL.out Try.underlying57 ?_ ?_ ?_); (· rfl); (· rfl); (· rfl); (· rfl); (· rw [info73, hsz])) | fail)
      refine (hl _).mono ?_
      rintro e w4 ⟨rfl, hb4⟩
      have hst4 := stored73 w4 s' t'
      have hz4 : (c18 s' t').size = 18 := rfl
      have hsz4 : (c18 s' t').toList.length = 18 := rfl
      have hB4 := HB2.out.trans (hb4.mono HB2.out.size)
      have hr4 := heap_b HG.out hb4
      have hw4 := hb4.size
      obtain ⟨W5, hW5⟩ : ∃ W5, w4.alloc (.cells (c18 s' t') 57) = W5 := ⟨_, rfl⟩
      have HL5 : Hid (W5.rangeAt w4.heap.size 0 (c18 s' t').toList) := hide (by rw [← hW5]; exact range73 (heap_alloc_new _ _))
      have hr5 : W5.heap[w.heap.size + 1]? = some (.cells #[.slice none 0 0] 26 (0, 0)) := by rw [← hW5]; exact heap_a hr4 _
      have hB5 : Below w.heap.size w W5 := by rw [← hW5]; exact below_a hB4 (Nat.le_refl _) _
      have hw5 : W5.heap.size = w4.heap.size + 1 := by rw [← hW5]; simp
      rw [hW5] at hst4
      clear hb4 hB4 hr4 hl HB2 HG HL hst hz hW5
      obtain ⟨C4, hC4⟩ : ∃ C4, c18 s' t' = C4 := ⟨_, rfl⟩
      rw [hC4] at hst4 hz4 hsz4 HL5 hcache ⊢
      clear hC4
      go_wp2_with (first | ((with_reducible refine wpList_load_mid (op := { dst := some 32, op := Op.load 57 (Operand.tmp 9), type := 57, pos := _, after := _, guard := none }) ?_ 57 (Operand.tmp 9) ?_ w4.heap.size 0 ?_ C4.toList _ HL5.out Try.underlying57 ?_ ?_ ?_); (· rfl); (· rfl); (· rfl); (· rfl); (· rw [info73, hsz4])) | fail)
      refine (hcache _).mono ?_
      rintro e w6 ⟨G, c, ib, rfl, hcg, hb6⟩
      have hr6 := heap_b hr5 hb6
      have r0 := cell_of_row _ _ 0 _ _ _ hr6
      have rf := frozen_of_row _ _ 0 _ _ hr6
      simp at r0
      have HCg := hide hcg
      have hlo := hcg.lo
      have HB6 := hide (hB5.trans (hb6.mono hB5.size))
      clear hcg hb6 hr6 hr5 hB5 hcache HL5
      go_wp2
      refine bodyPost_ret (v := .tuple #[.agg #[sl G 2 c], .bool hh, .int .i64 gg]) (by simp [results, Try.results10, go_sem, r0]) rfl (HP.out _ _ ⟨G, c, ib, rfl, ?_, HB6.out.setCell (by simp) _⟩)
      exact (HCg.out.chg (S := fun j => j < w.heap.size + 1 + 1) ((Chg.refl _ _).set (by omega) _) (by omega) (fun c hc => by have := hlo.2 c hc; omega)).mono (by omega)

end Go.Proofs.Ytofnkbpkjgapbaa
