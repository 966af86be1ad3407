/- nets: impl.WithoutLink -/
import Derived.Test.YtgafpepmmjjaaaaNtV
import Derived.Deep.RegionHeld3
namespace Go.Proofs.Ytgafpepmmjjaaaa
open Go.RowKit
set_option linter.unusedVariables false
set_option linter.unusedSimpArgs false

/-- the links without the k-th -/
def fk (f : Nat → Nat → Int) (k : Nat) : Nat → Nat → Int := fun j i => if j < k then f j i else f (j + 1) i
/-- a link stands once -/
theorem link_one {N : Int} {n : Nat} {f : Nat → Nat → Int} (h : Nt N n f) {j k : Nat} (hj : j < n) (hk : k < n) (h0 : f j 0 = f k 0) (h1 : f j 1 = f k 1) : j = k := by
  rcases Nat.lt_trichotomy j k with hl | hl | hl
  · have := h.before k j hl hk; omega
  · exact hl
  · have := h.before j k hl hj; omega
theorem Orow.congr {w : World} {base : Nat} {T : TypeId} {v : Value} {n : Nat} {f g : Nat → Nat → Int} (h : Orow w base T 2 v n n f) (he : ∀ j, j < n → ∀ i, i < 2 → f j i = g j i) : Orow w base T 2 v n n g := by
  unfold Orow at *
  have e : rowC 2 n n f = rowC 2 n n g := by
    apply List.ext_getElem?
    intro x
    by_cases hx : x < n * 2
    · rw [rowC_get hx, rowC_get hx, if_pos (by omega), if_pos (by omega), he _ (by omega) _ (by omega)]
    · rw [rowC_none hx, rowC_none hx]
  rw [← e]; exact h

theorem Orow.far {w : World} {base B i : Nat} {T : TypeId} {m n : Nat} {u v : Value} {f : Nat → Nat → Int} (h : Orow w base T m u n n f) (hB : B < base) : Orow (w.setCell ⟨B, i, none⟩ v) base T m u n n f := by
  obtain ⟨h1, h2⟩ := h
  refine ⟨h1, ?_⟩
  rcases h2 with h2 | ⟨g, cap, cur, e, hb, hg, r⟩
  · exact .inl h2
  · exact .inr ⟨g, cap, cur, e, hb, by rw [heap_setCell_other _ _ _ _ (by simp; omega)]; exact hg, r⟩

/-- an answer: the net without the link, its links its own; or none -/
def WPost (w : World) (N : Int) (n : Nat) (f : Nat → Nat → Int) (a b : Int) (e : Ending) (w' : World) : Prop :=
  ((netB N n f = true ∧ ∃ k u, k < n ∧ f k 0 = min a b ∧ f k 1 = max a b ∧ e = .returned (.tuple #[.agg (nt N u), .bool true]) ∧ Orow w' (w.heap.size + 1) 31 2 u (n - 1) (n - 1) (fk f k)) ∨
   ((netB N n f = false ∨ jn n f a b = false) ∧ e = .returned (.tuple #[.agg (nt 0 nilS), .bool false]))) ∧ Below w.heap.size w w'

/-- its boxes: the net, the answer -/
structure Wb (w V : World) (N : Int) (v : Value) : Prop where
  bl : Below w.heap.size w V
  box : V.heap[w.heap.size]? = some (.cells (nt N v) 26 (0, 0))
  res : V.heap[w.heap.size + 1]? = some (.cells (nt 0 nilS) 26 (0, 0))
theorem Wb.ofW {w W : World} {N : Int} {v : Value} (hW : (w.alloc (Obj.cells (nt N v) 26)).alloc (Obj.cells (nt 0 nilS) 26) = W) : Wb w W N v := by
  subst hW
  refine ⟨((Below.refl _ _).alloc (Nat.le_refl _) _).alloc (by simp) _, ?_, ?_⟩
  · rw [Below.heap_alloc _ _ _ (by simp)]; exact heap_alloc_new _ _
  · have := heap_alloc_new (w.alloc (Obj.cells (nt N v) 26)) (.cells (nt 0 nilS) 26)
    rwa [World.size_alloc] at this
theorem Wb.next {w V V' : World} {N : Int} {v : Value} (h : Wb w V N v) (hb : Below V.heap.size V V') : Wb w V' N v :=
  ⟨h.bl.trans (hb.mono h.bl.size), (hb.block _ (lt_of_block h.box)).trans h.box, (hb.block _ (lt_of_block h.res)).trans h.res⟩
theorem Wb.fin {w V : World} {N : Int} {v : Value} (h : Wb w V N v) (x y : Value) : Below w.heap.size w ((V.setCell ⟨w.heap.size + 1, 0, none⟩ x).setCell ⟨w.heap.size + 1, 1, none⟩ y) :=
  (h.bl.setCell (p := ⟨w.heap.size + 1, 0, none⟩) (by show w.heap.size ≤ w.heap.size + 1; omega) _).setCell (p := ⟨w.heap.size + 1, 1, none⟩) (by show w.heap.size ≤ w.heap.size + 1; omega) _

set_option maxHeartbeats 8000000 in
theorem implWithout_lt (N : Int) (ad : Option Addr) (n cap : Nat) (f : Nat → Nat → Int) (a b lo hi : Int) (w : World) (hs : Sr w (.slice ad n cap) 2 n f) (hnc : n ≤ cap) (hcm : cap ≤ maxLen) (hl : n ≤ 1048576)
    (hc : (a < b ∧ lo = a ∧ hi = b) ∨ (b < a ∧ lo = b ∧ hi = a) ∨ (a = b ∧ lo = a ∧ hi = a)) (HJ : Hid (min a b = lo ∧ max a b = hi)) :
    Calls Try.prog 22 #[.agg (nt N (.slice ad n cap)), .int .i64 a, .int .i64 b] w (WPost w N n f a b) := by
  have HS := hide hs
  have h1 := fun W h => implNetOk_any N (.slice ad n cap) n f W h hl
  have h2 := fun W h => indexA2_any (.slice ad n cap) n f lo hi W h hl
  go_enter Try.func22, Try.ntmps22
  go_wp2_with fail
  generalize hW : (World.alloc (World.alloc _ _) _) = W
  have hwb := Wb.ofW hW
  clear hW
  refine (h1 _ (HS.out.below hwb.bl)).mono ?_
  rintro e w1 ⟨rfl, hb1⟩
  have HB1 := hide (hwb.next hb1)
  clear h1 hwb hb1 hs
  cases hN : netB N n f
  · have HN := hide hN
    obtain ⟨fr, r0, r1⟩ := row2_facts HB1.out.res
    have HF := hide (HB1.out.fin (.int .i64 0) nilS)
    clear HB1 hN
    go_wp2
    refine bodyPost_ret (v := .tuple #[.agg (nt 0 nilS), .bool false]) (by simp [results, Try.results22, go_sem, r0, r1]) rfl ⟨.inr ⟨.inl HN.out, rfl⟩, HF.out⟩
  obtain ⟨_, x0, x1⟩ := row2_facts HB1.out.box
  have HN := hide hN
  clear hN
  have hstep : ∀ K : Ending → World → Prop, (∀ e w2, ((∃ k : Nat, k < n ∧ e = .returned (.int .i64 k) ∧ f k 0 = lo ∧ f k 1 = hi) ∨ (e = .returned (.int .i64 (-1)) ∧ ∀ j, j < n → ¬ (f j 0 = lo ∧ f j 1 = hi))) ∧ Below w1.heap.size w1 w2 → K e w2) → Calls Try.prog 41 #[.slice ad n cap, .agg (pr lo hi)] w1 K := fun K hK => (h2 w1 (HS.out.below HB1.out.bl)).mono hK
  clear h2
  rcases hc with ⟨c1, rfl, rfl⟩ | ⟨c1, rfl, rfl⟩ | ⟨rfl, rfl, rfl⟩
  all_goals (try have c2 : lo ≤ hi := by omega)
  all_goals (try have c3 : ¬ hi ≤ lo := by omega)
  all_goals go_wp2_with fail
  all_goals refine hstep _ ?_
  all_goals clear hstep
  · rintro e w2 ⟨hk | hk, hb2⟩
    · obtain ⟨k, hkn, rfl, f0, f1⟩ := hk
      have HB2 := hide (HB1.out.next hb2)
      have HKK := hide (And.intro f0 f1)
      clear HB1 hb2 x0 x1 f0 f1
      obtain ⟨_, x0, x1⟩ := row2_facts HB2.out.box
      obtain ⟨p, off, rfl, HC⟩ : ∃ p off, ad = some ⟨p, off, none⟩ ∧ Hid (∀ j, j < n → ∀ i, i < 2 → w.cell? ⟨p, off + j * 2 + i, none⟩ = some (.int .i64 (f j i))) := by
        obtain ⟨ad', cap', e', hcc⟩ := HS.out
        obtain ⟨p, off, e'', hcell⟩ := hcc (by omega)
        simp only [Value.slice.injEq] at e'
        exact ⟨p, off, e'.1.trans e'', hide hcell⟩
      have hsr1 : Sr w2 (.slice (some ⟨p, off, none⟩) k cap) 2 k (fk f k) := ⟨_, _, rfl, fun hp => ⟨p, off, rfl, fun j hj i hi2 => by rw [fk, if_pos hj]; exact Below.keep HB2.out.bl _ _ (HC.out j (by omega) i hi2)⟩⟩
      have hsr2 : ∀ c', Sr w2 (.slice (some ⟨p, off + (k + 1) * 2, none⟩) (n - (k + 1)) c') 2 (n - (k + 1)) (fun j => f (k + 1 + j)) := fun c' => ⟨_, _, rfl, fun hp => ⟨p, _, rfl, fun j hj i hi2 => by
        have := Below.keep HB2.out.bl _ _ (HC.out (k + 1 + j) (by omega) i hi2)
        rw [show off + (k + 1) * 2 + j * 2 + i = off + (k + 1 + j) * 2 + i by omega]; exact this⟩⟩
      have hsr3 : ∀ c', cap = k + 1 → Sr w2 (.slice (some ⟨p, off, none⟩) (n - (k + 1)) c') 2 (n - (k + 1)) (fun j => f (k + 1 + j)) := fun c' hcap => ⟨_, _, rfl, fun hp => by omega⟩
      have hee : ∀ j, j < n - (k + 1) → ∀ i, i < 2 → f (k + 1 + j) i = fk f k (k + j) i := fun j hj i hi2 => by rw [fk, if_neg (by omega), show k + 1 + j = k + j + 1 by omega]
      have hkd : decide ((k : Int) < 0) = false := by simp
      have hw1 : wrap64 ((k : Int) + 1) = (k : Int) + 1 := Go.IntWalk.wrap64_in _ (by omega)
      have hw2 : IntKind.i64.wrap ((k : Int) + 1) = (k : Int) + 1 := (Go.IntWalk.i64_left _).trans hw1
      have hcm2 : (cap : Int) ≤ 9223372036854775807 := by unfold maxLen at hcm; omega
      have hkc : k ≤ cap := by omega
      have hkn2 : k + 1 ≤ n := by omega
      have hnn : k + (n - (k + 1)) ≤ 1048576 := by omega
      by_cases hcap : cap = k + 1
      · have hA : Below w2.heap.size w2 (w2.alloc (.cells #[.slice (some ⟨p, off, none⟩) k cap, .slice (some ⟨p, off, none⟩) (n - (k + 1)) (cap - (k + 1))] 24)).drew := ((Below.refl _ _).alloc (Nat.le_refl _) _).drew
        obtain ⟨g0, g1⟩ := bx2 w2 (.slice (some ⟨p, off, none⟩) k cap) (.slice (some ⟨p, off, none⟩) (n - (k + 1)) (cap - (k + 1))) 24
        have hCC := concat_any w2.heap.size _ _ k (n - (k + 1)) _ _ (fk f k) (fun j => f (k + 1 + j)) _ (keepc ((Below.refl _ _).drew) g0) (keepc ((Below.refl _ _).drew) g1) (hsr1.below hA) ((hsr3 _ hcap).below hA) hee hnn
        have hsl1 := fun W => sl_head p off n cap k hkc W
        have hsl2 := fun W => sl_tail p off n cap k hkn2 W
        simp only [if_pos hcap] at hsl2
        clear g0 g1 hsr1 hsr2 hsr3 hee hcap hnc hcm hcm2 hkc
        go_wp2
        go_region_held3 (fun w' => w'.cell? ⟨w.heap.size, 0, none⟩ = some (.int .i64 N) ∧ w'.cell? ⟨w.heap.size, 1, none⟩ = some (.slice (some ⟨p, off, none⟩) n cap)) (first | exact ⟨x0, x1⟩ | exact ⟨keepc hA x0, keepc hA x1⟩ | exact ⟨keepc hb3 (keepc hA x0), keepc hb3 (keepc hA x1)⟩ | exact ⟨(other_set (by omega)).trans ((other_set (by omega)).trans (keepc hb3 (keepc hA x0))), (other_set (by omega)).trans ((other_set (by omega)).trans (keepc hb3 (keepc hA x1)))⟩) (first | (go_at_call 42; refine hCC.mono ?_; rintro e w3 ⟨u, rfl, hou, hb3⟩; obtain ⟨ua, uc, rfl⟩ := own_form hou; have HB3 := hide ((HB2.out.next hA).next hb3); obtain ⟨fr, r0, r1⟩ := row2_facts HB3.out.res))
        have HF : Hid (Orow ((w3.setCell ⟨w.heap.size + 1, 0, none⟩ (.int .i64 N)).setCell ⟨w.heap.size + 1, 1, none⟩ (.slice ua (k + (n - (k + 1))) uc)) (w.heap.size + 1) 31 2 (.slice ua (k + (n - (k + 1))) uc) (n - 1) (n - 1) (fk f k) ∧ Below w.heap.size w ((w3.setCell ⟨w.heap.size + 1, 0, none⟩ (.int .i64 N)).setCell ⟨w.heap.size + 1, 1, none⟩ (.slice ua (k + (n - (k + 1))) uc))) := by
          refine hide ⟨?_, HB3.out.fin _ _⟩
          have hbz := lt_of_block HB2.out.res
          have e : k + (n - (k + 1)) = n - 1 := by omega
          rw [e] at hou ⊢
          have h9 : Orow w3 (w.heap.size + 1 + 1) 31 2 (.slice ua (n - 1) uc) (n - 1) (n - 1) (fk f k) := hou.lower (by simp; omega)
          exact ((h9.far (by omega)).far (by omega)).lower (by omega)
        clear HB2 HB3 hou hb3 hA x0 x1 hsl1 hsl2
        go_wp2
        refine bodyPost_ret (v := .tuple #[.agg (nt N (.slice ua (k + (n - (k + 1))) uc)), .bool true]) (by simp [results, Try.results22, go_sem, r0, r1]) rfl ⟨.inl ⟨HN.out, k, _, by omega, HKK.out.1.trans HJ.out.1.symm, HKK.out.2.trans HJ.out.2.symm, rfl, HF.out.1⟩, HF.out.2⟩
      · have hA : Below w2.heap.size w2 (w2.alloc (.cells #[.slice (some ⟨p, off, none⟩) k cap, .slice (some ⟨p, off + (k + 1) * 2, none⟩) (n - (k + 1)) (cap - (k + 1))] 24)).drew := ((Below.refl _ _).alloc (Nat.le_refl _) _).drew
        obtain ⟨g0, g1⟩ := bx2 w2 (.slice (some ⟨p, off, none⟩) k cap) (.slice (some ⟨p, off + (k + 1) * 2, none⟩) (n - (k + 1)) (cap - (k + 1))) 24
        have hCC := concat_any w2.heap.size _ _ k (n - (k + 1)) _ _ (fk f k) (fun j => f (k + 1 + j)) _ (keepc ((Below.refl _ _).drew) g0) (keepc ((Below.refl _ _).drew) g1) (hsr1.below hA) ((hsr2 _).below hA) hee hnn
        have hsl1 := fun W => sl_head p off n cap k hkc W
        have hsl2 := fun W => sl_tail p off n cap k hkn2 W
        simp only [if_neg hcap] at hsl2
        clear g0 g1 hsr1 hsr2 hsr3 hee hcap hnc hcm hcm2 hkc
        go_wp2
        go_region_held3 (fun w' => w'.cell? ⟨w.heap.size, 0, none⟩ = some (.int .i64 N) ∧ w'.cell? ⟨w.heap.size, 1, none⟩ = some (.slice (some ⟨p, off, none⟩) n cap)) (first | exact ⟨x0, x1⟩ | exact ⟨keepc hA x0, keepc hA x1⟩ | exact ⟨keepc hb3 (keepc hA x0), keepc hb3 (keepc hA x1)⟩ | exact ⟨(other_set (by omega)).trans ((other_set (by omega)).trans (keepc hb3 (keepc hA x0))), (other_set (by omega)).trans ((other_set (by omega)).trans (keepc hb3 (keepc hA x1)))⟩) (first | (go_at_call 42; refine hCC.mono ?_; rintro e w3 ⟨u, rfl, hou, hb3⟩; obtain ⟨ua, uc, rfl⟩ := own_form hou; have HB3 := hide ((HB2.out.next hA).next hb3); obtain ⟨fr, r0, r1⟩ := row2_facts HB3.out.res))
        have HF : Hid (Orow ((w3.setCell ⟨w.heap.size + 1, 0, none⟩ (.int .i64 N)).setCell ⟨w.heap.size + 1, 1, none⟩ (.slice ua (k + (n - (k + 1))) uc)) (w.heap.size + 1) 31 2 (.slice ua (k + (n - (k + 1))) uc) (n - 1) (n - 1) (fk f k) ∧ Below w.heap.size w ((w3.setCell ⟨w.heap.size + 1, 0, none⟩ (.int .i64 N)).setCell ⟨w.heap.size + 1, 1, none⟩ (.slice ua (k + (n - (k + 1))) uc))) := by
          refine hide ⟨?_, HB3.out.fin _ _⟩
          have hbz := lt_of_block HB2.out.res
          have e : k + (n - (k + 1)) = n - 1 := by omega
          rw [e] at hou ⊢
          have h9 : Orow w3 (w.heap.size + 1 + 1) 31 2 (.slice ua (n - 1) uc) (n - 1) (n - 1) (fk f k) := hou.lower (by simp; omega)
          exact ((h9.far (by omega)).far (by omega)).lower (by omega)
        clear HB2 HB3 hou hb3 hA x0 x1 hsl1 hsl2
        go_wp2
        refine bodyPost_ret (v := .tuple #[.agg (nt N (.slice ua (k + (n - (k + 1))) uc)), .bool true]) (by simp [results, Try.results22, go_sem, r0, r1]) rfl ⟨.inl ⟨HN.out, k, _, by omega, HKK.out.1.trans HJ.out.1.symm, HKK.out.2.trans HJ.out.2.symm, rfl, HF.out.1⟩, HF.out.2⟩
    · obtain ⟨rfl, hno⟩ := hk
      have HB2 := hide (HB1.out.next hb2)
      have HNO : Hid (jn n f lo hi = false) := hide (jn_no (fun j hj => by rw [HJ.out.1, HJ.out.2]; exact hno j hj)).symm
      obtain ⟨fr, r0, r1⟩ := row2_facts HB2.out.res
      have HF := hide (HB2.out.fin (.int .i64 0) nilS)
      clear HB1 HB2 hno hb2 x0 x1
      go_wp2
      refine bodyPost_ret (v := .tuple #[.agg (nt 0 nilS), .bool false]) (by simp [results, Try.results22, go_sem, r0, r1]) rfl ⟨.inr ⟨.inr HNO.out, rfl⟩, HF.out⟩
  · rintro e w2 ⟨hk | hk, hb2⟩
    · obtain ⟨k, hkn, rfl, f0, f1⟩ := hk
      have HB2 := hide (HB1.out.next hb2)
      have HKK := hide (And.intro f0 f1)
      clear HB1 hb2 x0 x1 f0 f1
      obtain ⟨_, x0, x1⟩ := row2_facts HB2.out.box
      obtain ⟨p, off, rfl, HC⟩ : ∃ p off, ad = some ⟨p, off, none⟩ ∧ Hid (∀ j, j < n → ∀ i, i < 2 → w.cell? ⟨p, off + j * 2 + i, none⟩ = some (.int .i64 (f j i))) := by
        obtain ⟨ad', cap', e', hcc⟩ := HS.out
        obtain ⟨p, off, e'', hcell⟩ := hcc (by omega)
        simp only [Value.slice.injEq] at e'
        exact ⟨p, off, e'.1.trans e'', hide hcell⟩
      have hsr1 : Sr w2 (.slice (some ⟨p, off, none⟩) k cap) 2 k (fk f k) := ⟨_, _, rfl, fun hp => ⟨p, off, rfl, fun j hj i hi2 => by rw [fk, if_pos hj]; exact Below.keep HB2.out.bl _ _ (HC.out j (by omega) i hi2)⟩⟩
      have hsr2 : ∀ c', Sr w2 (.slice (some ⟨p, off + (k + 1) * 2, none⟩) (n - (k + 1)) c') 2 (n - (k + 1)) (fun j => f (k + 1 + j)) := fun c' => ⟨_, _, rfl, fun hp => ⟨p, _, rfl, fun j hj i hi2 => by
        have := Below.keep HB2.out.bl _ _ (HC.out (k + 1 + j) (by omega) i hi2)
        rw [show off + (k + 1) * 2 + j * 2 + i = off + (k + 1 + j) * 2 + i by omega]; exact this⟩⟩
      have hsr3 : ∀ c', cap = k + 1 → Sr w2 (.slice (some ⟨p, off, none⟩) (n - (k + 1)) c') 2 (n - (k + 1)) (fun j => f (k + 1 + j)) := fun c' hcap => ⟨_, _, rfl, fun hp => by omega⟩
      have hee : ∀ j, j < n - (k + 1) → ∀ i, i < 2 → f (k + 1 + j) i = fk f k (k + j) i := fun j hj i hi2 => by rw [fk, if_neg (by omega), show k + 1 + j = k + j + 1 by omega]
      have hkd : decide ((k : Int) < 0) = false := by simp
      have hw1 : wrap64 ((k : Int) + 1) = (k : Int) + 1 := Go.IntWalk.wrap64_in _ (by omega)
      have hw2 : IntKind.i64.wrap ((k : Int) + 1) = (k : Int) + 1 := (Go.IntWalk.i64_left _).trans hw1
      have hcm2 : (cap : Int) ≤ 9223372036854775807 := by unfold maxLen at hcm; omega
      have hkc : k ≤ cap := by omega
      have hkn2 : k + 1 ≤ n := by omega
      have hnn : k + (n - (k + 1)) ≤ 1048576 := by omega
      by_cases hcap : cap = k + 1
      · have hA : Below w2.heap.size w2 (w2.alloc (.cells #[.slice (some ⟨p, off, none⟩) k cap, .slice (some ⟨p, off, none⟩) (n - (k + 1)) (cap - (k + 1))] 24)).drew := ((Below.refl _ _).alloc (Nat.le_refl _) _).drew
        obtain ⟨g0, g1⟩ := bx2 w2 (.slice (some ⟨p, off, none⟩) k cap) (.slice (some ⟨p, off, none⟩) (n - (k + 1)) (cap - (k + 1))) 24
        have hCC := concat_any w2.heap.size _ _ k (n - (k + 1)) _ _ (fk f k) (fun j => f (k + 1 + j)) _ (keepc ((Below.refl _ _).drew) g0) (keepc ((Below.refl _ _).drew) g1) (hsr1.below hA) ((hsr3 _ hcap).below hA) hee hnn
        have hsl1 := fun W => sl_head p off n cap k hkc W
        have hsl2 := fun W => sl_tail p off n cap k hkn2 W
        simp only [if_pos hcap] at hsl2
        clear g0 g1 hsr1 hsr2 hsr3 hee hcap hnc hcm hcm2 hkc
        go_wp2
        go_region_held3 (fun w' => w'.cell? ⟨w.heap.size, 0, none⟩ = some (.int .i64 N) ∧ w'.cell? ⟨w.heap.size, 1, none⟩ = some (.slice (some ⟨p, off, none⟩) n cap)) (first | exact ⟨x0, x1⟩ | exact ⟨keepc hA x0, keepc hA x1⟩ | exact ⟨keepc hb3 (keepc hA x0), keepc hb3 (keepc hA x1)⟩ | exact ⟨(other_set (by omega)).trans ((other_set (by omega)).trans (keepc hb3 (keepc hA x0))), (other_set (by omega)).trans ((other_set (by omega)).trans (keepc hb3 (keepc hA x1)))⟩) (first | (go_at_call 42; refine hCC.mono ?_; rintro e w3 ⟨u, rfl, hou, hb3⟩; obtain ⟨ua, uc, rfl⟩ := own_form hou; have HB3 := hide ((HB2.out.next hA).next hb3); obtain ⟨fr, r0, r1⟩ := row2_facts HB3.out.res))
        have HF : Hid (Orow ((w3.setCell ⟨w.heap.size + 1, 0, none⟩ (.int .i64 N)).setCell ⟨w.heap.size + 1, 1, none⟩ (.slice ua (k + (n - (k + 1))) uc)) (w.heap.size + 1) 31 2 (.slice ua (k + (n - (k + 1))) uc) (n - 1) (n - 1) (fk f k) ∧ Below w.heap.size w ((w3.setCell ⟨w.heap.size + 1, 0, none⟩ (.int .i64 N)).setCell ⟨w.heap.size + 1, 1, none⟩ (.slice ua (k + (n - (k + 1))) uc))) := by
          refine hide ⟨?_, HB3.out.fin _ _⟩
          have hbz := lt_of_block HB2.out.res
          have e : k + (n - (k + 1)) = n - 1 := by omega
          rw [e] at hou ⊢
          have h9 : Orow w3 (w.heap.size + 1 + 1) 31 2 (.slice ua (n - 1) uc) (n - 1) (n - 1) (fk f k) := hou.lower (by simp; omega)
          exact ((h9.far (by omega)).far (by omega)).lower (by omega)
        clear HB2 HB3 hou hb3 hA x0 x1 hsl1 hsl2
        go_wp2
        refine bodyPost_ret (v := .tuple #[.agg (nt N (.slice ua (k + (n - (k + 1))) uc)), .bool true]) (by simp [results, Try.results22, go_sem, r0, r1]) rfl ⟨.inl ⟨HN.out, k, _, by omega, HKK.out.1.trans HJ.out.1.symm, HKK.out.2.trans HJ.out.2.symm, rfl, HF.out.1⟩, HF.out.2⟩
      · have hA : Below w2.heap.size w2 (w2.alloc (.cells #[.slice (some ⟨p, off, none⟩) k cap, .slice (some ⟨p, off + (k + 1) * 2, none⟩) (n - (k + 1)) (cap - (k + 1))] 24)).drew := ((Below.refl _ _).alloc (Nat.le_refl _) _).drew
        obtain ⟨g0, g1⟩ := bx2 w2 (.slice (some ⟨p, off, none⟩) k cap) (.slice (some ⟨p, off + (k + 1) * 2, none⟩) (n - (k + 1)) (cap - (k + 1))) 24
        have hCC := concat_any w2.heap.size _ _ k (n - (k + 1)) _ _ (fk f k) (fun j => f (k + 1 + j)) _ (keepc ((Below.refl _ _).drew) g0) (keepc ((Below.refl _ _).drew) g1) (hsr1.below hA) ((hsr2 _).below hA) hee hnn
        have hsl1 := fun W => sl_head p off n cap k hkc W
        have hsl2 := fun W => sl_tail p off n cap k hkn2 W
        simp only [if_neg hcap] at hsl2
        clear g0 g1 hsr1 hsr2 hsr3 hee hcap hnc hcm hcm2 hkc
        go_wp2
        go_region_held3 (fun w' => w'.cell? ⟨w.heap.size, 0, none⟩ = some (.int .i64 N) ∧ w'.cell? ⟨w.heap.size, 1, none⟩ = some (.slice (some ⟨p, off, none⟩) n cap)) (first | exact ⟨x0, x1⟩ | exact ⟨keepc hA x0, keepc hA x1⟩ | exact ⟨keepc hb3 (keepc hA x0), keepc hb3 (keepc hA x1)⟩ | exact ⟨(other_set (by omega)).trans ((other_set (by omega)).trans (keepc hb3 (keepc hA x0))), (other_set (by omega)).trans ((other_set (by omega)).trans (keepc hb3 (keepc hA x1)))⟩) (first | (go_at_call 42; refine hCC.mono ?_; rintro e w3 ⟨u, rfl, hou, hb3⟩; obtain ⟨ua, uc, rfl⟩ := own_form hou; have HB3 := hide ((HB2.out.next hA).next hb3); obtain ⟨fr, r0, r1⟩ := row2_facts HB3.out.res))
        have HF : Hid (Orow ((w3.setCell ⟨w.heap.size + 1, 0, none⟩ (.int .i64 N)).setCell ⟨w.heap.size + 1, 1, none⟩ (.slice ua (k + (n - (k + 1))) uc)) (w.heap.size + 1) 31 2 (.slice ua (k + (n - (k + 1))) uc) (n - 1) (n - 1) (fk f k) ∧ Below w.heap.size w ((w3.setCell ⟨w.heap.size + 1, 0, none⟩ (.int .i64 N)).setCell ⟨w.heap.size + 1, 1, none⟩ (.slice ua (k + (n - (k + 1))) uc))) := by
          refine hide ⟨?_, HB3.out.fin _ _⟩
          have hbz := lt_of_block HB2.out.res
          have e : k + (n - (k + 1)) = n - 1 := by omega
          rw [e] at hou ⊢
          have h9 : Orow w3 (w.heap.size + 1 + 1) 31 2 (.slice ua (n - 1) uc) (n - 1) (n - 1) (fk f k) := hou.lower (by simp; omega)
          exact ((h9.far (by omega)).far (by omega)).lower (by omega)
        clear HB2 HB3 hou hb3 hA x0 x1 hsl1 hsl2
        go_wp2
        refine bodyPost_ret (v := .tuple #[.agg (nt N (.slice ua (k + (n - (k + 1))) uc)), .bool true]) (by simp [results, Try.results22, go_sem, r0, r1]) rfl ⟨.inl ⟨HN.out, k, _, by omega, HKK.out.1.trans HJ.out.1.symm, HKK.out.2.trans HJ.out.2.symm, rfl, HF.out.1⟩, HF.out.2⟩
    · obtain ⟨rfl, hno⟩ := hk
      have HB2 := hide (HB1.out.next hb2)
      have HNO : Hid (jn n f hi lo = false) := hide (jn_no (fun j hj => by rw [HJ.out.1, HJ.out.2]; exact hno j hj)).symm
      obtain ⟨fr, r0, r1⟩ := row2_facts HB2.out.res
      have HF := hide (HB2.out.fin (.int .i64 0) nilS)
      clear HB1 HB2 hno hb2 x0 x1
      go_wp2
      refine bodyPost_ret (v := .tuple #[.agg (nt 0 nilS), .bool false]) (by simp [results, Try.results22, go_sem, r0, r1]) rfl ⟨.inr ⟨.inr HNO.out, rfl⟩, HF.out⟩
  · rintro e w2 ⟨hk | hk, hb2⟩
    · obtain ⟨k, hkn, rfl, f0, f1⟩ := hk
      have HB2 := hide (HB1.out.next hb2)
      have HKK := hide (And.intro f0 f1)
      clear HB1 hb2 x0 x1 f0 f1
      obtain ⟨_, x0, x1⟩ := row2_facts HB2.out.box
      obtain ⟨p, off, rfl, HC⟩ : ∃ p off, ad = some ⟨p, off, none⟩ ∧ Hid (∀ j, j < n → ∀ i, i < 2 → w.cell? ⟨p, off + j * 2 + i, none⟩ = some (.int .i64 (f j i))) := by
        obtain ⟨ad', cap', e', hcc⟩ := HS.out
        obtain ⟨p, off, e'', hcell⟩ := hcc (by omega)
        simp only [Value.slice.injEq] at e'
        exact ⟨p, off, e'.1.trans e'', hide hcell⟩
      have hsr1 : Sr w2 (.slice (some ⟨p, off, none⟩) k cap) 2 k (fk f k) := ⟨_, _, rfl, fun hp => ⟨p, off, rfl, fun j hj i hi2 => by rw [fk, if_pos hj]; exact Below.keep HB2.out.bl _ _ (HC.out j (by omega) i hi2)⟩⟩
      have hsr2 : ∀ c', Sr w2 (.slice (some ⟨p, off + (k + 1) * 2, none⟩) (n - (k + 1)) c') 2 (n - (k + 1)) (fun j => f (k + 1 + j)) := fun c' => ⟨_, _, rfl, fun hp => ⟨p, _, rfl, fun j hj i hi2 => by
        have := Below.keep HB2.out.bl _ _ (HC.out (k + 1 + j) (by omega) i hi2)
        rw [show off + (k + 1) * 2 + j * 2 + i = off + (k + 1 + j) * 2 + i by omega]; exact this⟩⟩
      have hsr3 : ∀ c', cap = k + 1 → Sr w2 (.slice (some ⟨p, off, none⟩) (n - (k + 1)) c') 2 (n - (k + 1)) (fun j => f (k + 1 + j)) := fun c' hcap => ⟨_, _, rfl, fun hp => by omega⟩
      have hee : ∀ j, j < n - (k + 1) → ∀ i, i < 2 → f (k + 1 + j) i = fk f k (k + j) i := fun j hj i hi2 => by rw [fk, if_neg (by omega), show k + 1 + j = k + j + 1 by omega]
      have hkd : decide ((k : Int) < 0) = false := by simp
      have hw1 : wrap64 ((k : Int) + 1) = (k : Int) + 1 := Go.IntWalk.wrap64_in _ (by omega)
      have hw2 : IntKind.i64.wrap ((k : Int) + 1) = (k : Int) + 1 := (Go.IntWalk.i64_left _).trans hw1
      have hcm2 : (cap : Int) ≤ 9223372036854775807 := by unfold maxLen at hcm; omega
      have hkc : k ≤ cap := by omega
      have hkn2 : k + 1 ≤ n := by omega
      have hnn : k + (n - (k + 1)) ≤ 1048576 := by omega
      by_cases hcap : cap = k + 1
      · have hA : Below w2.heap.size w2 (w2.alloc (.cells #[.slice (some ⟨p, off, none⟩) k cap, .slice (some ⟨p, off, none⟩) (n - (k + 1)) (cap - (k + 1))] 24)).drew := ((Below.refl _ _).alloc (Nat.le_refl _) _).drew
        obtain ⟨g0, g1⟩ := bx2 w2 (.slice (some ⟨p, off, none⟩) k cap) (.slice (some ⟨p, off, none⟩) (n - (k + 1)) (cap - (k + 1))) 24
        have hCC := concat_any w2.heap.size _ _ k (n - (k + 1)) _ _ (fk f k) (fun j => f (k + 1 + j)) _ (keepc ((Below.refl _ _).drew) g0) (keepc ((Below.refl _ _).drew) g1) (hsr1.below hA) ((hsr3 _ hcap).below hA) hee hnn
        have hsl1 := fun W => sl_head p off n cap k hkc W
        have hsl2 := fun W => sl_tail p off n cap k hkn2 W
        simp only [if_pos hcap] at hsl2
        clear g0 g1 hsr1 hsr2 hsr3 hee hcap hnc hcm hcm2 hkc
        go_wp2
        go_region_held3 (fun w' => w'.cell? ⟨w.heap.size, 0, none⟩ = some (.int .i64 N) ∧ w'.cell? ⟨w.heap.size, 1, none⟩ = some (.slice (some ⟨p, off, none⟩) n cap)) (first | exact ⟨x0, x1⟩ | exact ⟨keepc hA x0, keepc hA x1⟩ | exact ⟨keepc hb3 (keepc hA x0), keepc hb3 (keepc hA x1)⟩ | exact ⟨(other_set (by omega)).trans ((other_set (by omega)).trans (keepc hb3 (keepc hA x0))), (other_set (by omega)).trans ((other_set (by omega)).trans (keepc hb3 (keepc hA x1)))⟩) (first | (go_at_call 42; refine hCC.mono ?_; rintro e w3 ⟨u, rfl, hou, hb3⟩; obtain ⟨ua, uc, rfl⟩ := own_form hou; have HB3 := hide ((HB2.out.next hA).next hb3); obtain ⟨fr, r0, r1⟩ := row2_facts HB3.out.res))
        have HF : Hid (Orow ((w3.setCell ⟨w.heap.size + 1, 0, none⟩ (.int .i64 N)).setCell ⟨w.heap.size + 1, 1, none⟩ (.slice ua (k + (n - (k + 1))) uc)) (w.heap.size + 1) 31 2 (.slice ua (k + (n - (k + 1))) uc) (n - 1) (n - 1) (fk f k) ∧ Below w.heap.size w ((w3.setCell ⟨w.heap.size + 1, 0, none⟩ (.int .i64 N)).setCell ⟨w.heap.size + 1, 1, none⟩ (.slice ua (k + (n - (k + 1))) uc))) := by
          refine hide ⟨?_, HB3.out.fin _ _⟩
          have hbz := lt_of_block HB2.out.res
          have e : k + (n - (k + 1)) = n - 1 := by omega
          rw [e] at hou ⊢
          have h9 : Orow w3 (w.heap.size + 1 + 1) 31 2 (.slice ua (n - 1) uc) (n - 1) (n - 1) (fk f k) := hou.lower (by simp; omega)
          exact ((h9.far (by omega)).far (by omega)).lower (by omega)
        clear HB2 HB3 hou hb3 hA x0 x1 hsl1 hsl2
        go_wp2
        refine bodyPost_ret (v := .tuple #[.agg (nt N (.slice ua (k + (n - (k + 1))) uc)), .bool true]) (by simp [results, Try.results22, go_sem, r0, r1]) rfl ⟨.inl ⟨HN.out, k, _, by omega, HKK.out.1.trans HJ.out.1.symm, HKK.out.2.trans HJ.out.2.symm, rfl, HF.out.1⟩, HF.out.2⟩
      · have hA : Below w2.heap.size w2 (w2.alloc (.cells #[.slice (some ⟨p, off, none⟩) k cap, .slice (some ⟨p, off + (k + 1) * 2, none⟩) (n - (k + 1)) (cap - (k + 1))] 24)).drew := ((Below.refl _ _).alloc (Nat.le_refl _) _).drew
        obtain ⟨g0, g1⟩ := bx2 w2 (.slice (some ⟨p, off, none⟩) k cap) (.slice (some ⟨p, off + (k + 1) * 2, none⟩) (n - (k + 1)) (cap - (k + 1))) 24
        have hCC := concat_any w2.heap.size _ _ k (n - (k + 1)) _ _ (fk f k) (fun j => f (k + 1 + j)) _ (keepc ((Below.refl _ _).drew) g0) (keepc ((Below.refl _ _).drew) g1) (hsr1.below hA) ((hsr2 _).below hA) hee hnn
        have hsl1 := fun W => sl_head p off n cap k hkc W
        have hsl2 := fun W => sl_tail p off n cap k hkn2 W
        simp only [if_neg hcap] at hsl2
        clear g0 g1 hsr1 hsr2 hsr3 hee hcap hnc hcm hcm2 hkc
        go_wp2
        go_region_held3 (fun w' => w'.cell? ⟨w.heap.size, 0, none⟩ = some (.int .i64 N) ∧ w'.cell? ⟨w.heap.size, 1, none⟩ = some (.slice (some ⟨p, off, none⟩) n cap)) (first | exact ⟨x0, x1⟩ | exact ⟨keepc hA x0, keepc hA x1⟩ | exact ⟨keepc hb3 (keepc hA x0), keepc hb3 (keepc hA x1)⟩ | exact ⟨(other_set (by omega)).trans ((other_set (by omega)).trans (keepc hb3 (keepc hA x0))), (other_set (by omega)).trans ((other_set (by omega)).trans (keepc hb3 (keepc hA x1)))⟩) (first | (go_at_call 42; refine hCC.mono ?_; rintro e w3 ⟨u, rfl, hou, hb3⟩; obtain ⟨ua, uc, rfl⟩ := own_form hou; have HB3 := hide ((HB2.out.next hA).next hb3); obtain ⟨fr, r0, r1⟩ := row2_facts HB3.out.res))
        have HF : Hid (Orow ((w3.setCell ⟨w.heap.size + 1, 0, none⟩ (.int .i64 N)).setCell ⟨w.heap.size + 1, 1, none⟩ (.slice ua (k + (n - (k + 1))) uc)) (w.heap.size + 1) 31 2 (.slice ua (k + (n - (k + 1))) uc) (n - 1) (n - 1) (fk f k) ∧ Below w.heap.size w ((w3.setCell ⟨w.heap.size + 1, 0, none⟩ (.int .i64 N)).setCell ⟨w.heap.size + 1, 1, none⟩ (.slice ua (k + (n - (k + 1))) uc))) := by
          refine hide ⟨?_, HB3.out.fin _ _⟩
          have hbz := lt_of_block HB2.out.res
          have e : k + (n - (k + 1)) = n - 1 := by omega
          rw [e] at hou ⊢
          have h9 : Orow w3 (w.heap.size + 1 + 1) 31 2 (.slice ua (n - 1) uc) (n - 1) (n - 1) (fk f k) := hou.lower (by simp; omega)
          exact ((h9.far (by omega)).far (by omega)).lower (by omega)
        clear HB2 HB3 hou hb3 hA x0 x1 hsl1 hsl2
        go_wp2
        refine bodyPost_ret (v := .tuple #[.agg (nt N (.slice ua (k + (n - (k + 1))) uc)), .bool true]) (by simp [results, Try.results22, go_sem, r0, r1]) rfl ⟨.inl ⟨HN.out, k, _, by omega, HKK.out.1.trans HJ.out.1.symm, HKK.out.2.trans HJ.out.2.symm, rfl, HF.out.1⟩, HF.out.2⟩
    · obtain ⟨rfl, hno⟩ := hk
      have HB2 := hide (HB1.out.next hb2)
      have HNO : Hid (jn n f hi hi = false) := hide (jn_no (fun j hj => by rw [HJ.out.1, HJ.out.2]; exact hno j hj)).symm
      obtain ⟨fr, r0, r1⟩ := row2_facts HB2.out.res
      have HF := hide (HB2.out.fin (.int .i64 0) nilS)
      clear HB1 HB2 hno hb2 x0 x1
      go_wp2
      refine bodyPost_ret (v := .tuple #[.agg (nt 0 nilS), .bool false]) (by simp [results, Try.results22, go_sem, r0, r1]) rfl ⟨.inr ⟨.inr HNO.out, rfl⟩, HF.out⟩

end Go.Proofs.Ytgafpepmmjjaaaa
