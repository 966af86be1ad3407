/- the reader's pair (written by mkPdB.py) -/
import Derived.Test.YtplnfddleaoimaaPdA
import Derived.Test.YtplnfddleaoimaaPrM
import Derived.Test.YtplnfddleaoimaaPrQ
namespace Go.Proofs.Ytplnfddleaoimaa
open Go.RowKit
set_option linter.unusedVariables false
set_option linter.unusedSimpArgs false

theorem grown_any {w w' : World} {row : Option Nat} (hb : Below w.heap.size w w') : w.grownBy w' row := ⟨hb.os, hb.tape, hb.output, hb.size, fun k hk _ => hb.block k hk⟩
theorem grown_young {w V V' : World} {g : Nat} {row : Option Nat} (h : w.grownBy V (some g)) (hg : V.grownBy V' row) (hr : ∀ k, row = some k → w.heap.size ≤ k) : w.grownBy V' (some g) :=
  ⟨hg.os.trans h.os, hg.tape.trans h.tape, hg.output.trans h.output, Nat.le_trans h.size hg.size, fun j hj hne => (hg.block j (Nat.lt_of_lt_of_le hj h.size) (fun e => by have := hr j e.symm; omega)).trans (h.block j hj hne)⟩
theorem grown_set (w : World) (B i : Nat) (v : Value) : w.grownBy (w.setCell ⟨B, i, none⟩ v) (some B) := by
  have hb : Below 0 w (w.setCell ⟨B, i, none⟩ v) := (Below.refl 0 w).setCell (Nat.zero_le _) v
  exact ⟨hb.os, hb.tape, hb.output, hb.size, fun j hj hne => heap_setCell_other _ _ _ _ (fun e => hne (by rw [e]))⟩
theorem Ow.grown {w w' : World} {lo g : Nat} {v : Value} {zs : List Int} (h : Ow w lo v zs) (hg : w.grownBy w' (some g)) (hr : ∀ k, v.ownBlock = some k → k ≠ g) : Ow w' lo v zs := by
  refine World.ownsRow.kept h hg ?_
  cases hv : v.ownBlock with
  | none => exact .inl rfl
  | some k => exact .inr (fun e => hr k hv (by simpa using e))
theorem Pw.grown {w w' : World} {lo hi g : Nat} {L R : Value} {zl zr : List Int} (h : Pw w lo hi L R zl zr) (hg : w.grownBy w' (some g)) (hr : g < lo) : Pw w' lo hi L R zl zr :=
  ⟨h.l.grown hg (fun k hk e => by have := (h.l.lt k hk).1; omega), h.r.grown hg (fun k hk e => by have := (h.r.lt k hk).1; omega), h.ne, h.lh, h.rh⟩

/-- a pair in a variable b, the answer's variable ahead of it (the world's first block), beside an elder reader g -/
structure Dp (w V : World) (g b : Nat) (L R : Value) (zl zr : List Int) (lu ru : Bool) : Prop where
  res : V.heap[w.heap.size]? = some (.cells (pq nilS nilS false false) 26 (0, 0))
  box : V.heap[b]? = some (.cells (pq L R lu ru) 26 (0, 0))
  pw : Pw V (w.heap.size + 1) V.heap.size L R zl zr
  nl : ∀ k, L.ownBlock = some k → k ≠ b
  nr : ∀ k, R.ownBlock = some k → k ≠ b
  rd : Rdr V g
  gr : w.grownBy V (some g)
  lo : g < w.heap.size ∧ w.heap.size < b
  len : zl.length ≤ 4 ∧ zr.length ≤ 4
theorem Dp.below {w V V' : World} {g b : Nat} {L R : Value} {zl zr : List Int} {lu ru : Bool} (h : Dp w V g b L R zl zr lu ru) (hb : Below V.heap.size V V') : Dp w V' g b L R zl zr lu ru :=
  ⟨(hb.block _ (lt_of_block h.res)).trans h.res, (hb.block _ (lt_of_block h.box)).trans h.box, (h.pw.below hb).wide (Nat.le_refl _) hb.size, h.nl, h.nr, h.rd.below hb, grown_young h.gr (grown_any (row := none) hb) (fun k hk => by cases hk), h.lo, h.len⟩
theorem Dp.read {w V V' : World} {g b : Nat} {L R : Value} {zl zr : List Int} {lu ru : Bool} (h : Dp w V g b L R zl zr lu ru) (hr : Rdr V' g) (hg : V.grownBy V' (some g)) : Dp w V' g b L R zl zr lu ru := by
  have hlo := h.lo
  exact ⟨(hg.block _ (lt_of_block h.res) (by simp; omega)).trans h.res, (hg.block _ (lt_of_block h.box) (by simp; omega)).trans h.box, (h.pw.grown hg (by omega)).wide (Nat.le_refl _) hg.size, h.nl, h.nr, hr, grown_trans h.gr hg, h.lo, h.len⟩
/-- a store into another variable -/
theorem Dp.other {w V : World} {g b B i : Nat} {L R u : Value} {zl zr : List Int} {lu ru : Bool} (h : Dp w V g b L R zl zr lu ru) (h1 : w.heap.size < B) (h2 : B ≠ b) (h3 : ∀ k, L.ownBlock = some k → k ≠ B) (h4 : ∀ k, R.ownBlock = some k → k ≠ B) : Dp w (V.setCell ⟨B, i, none⟩ u) g b L R zl zr lu ru := by
  have hlo := h.lo
  have hgs := grown_set V B i u
  refine ⟨(hgs.block _ (lt_of_block h.res) (by simp; omega)).trans h.res, (hgs.block _ (lt_of_block h.box) (by simp; omega)).trans h.box, ?_, h.nl, h.nr, h.rd.grown hgs (fun k hk => by simp at hk; omega), grown_young h.gr hgs (fun k hk => by simp at hk; omega), h.lo, h.len⟩
  exact ⟨h.pw.l.set h3, h.pw.r.set h4, h.pw.ne, by simpa using h.pw.lh, by simpa using h.pw.rh⟩
/-- another pair is put into the variable -/
theorem Dp.put {w V : World} {g b lo : Nat} {L R L' R' : Value} {zl zr al ar : List Int} {lu ru xu yu : Bool} (h : Dp w V g b L R zl zr lu ru) (p : Pw V lo V.heap.size L' R' al ar) (hb : b < lo) (hl : al.length ≤ 4 ∧ ar.length ≤ 4) :
    Dp w ((((V.setCell ⟨b, 0, none⟩ L').setCell ⟨b, 1, none⟩ R').setCell ⟨b, 2, none⟩ (.bool xu)).setCell ⟨b, 3, none⟩ (.bool yu)) g b L' R' al ar xu yu := by
  have hlo := h.lo
  have h1 : ∀ k, L'.ownBlock = some k → k ≠ b := fun k hk => by have := (p.l.lt k hk).1; omega
  have h2 : ∀ k, R'.ownBlock = some k → k ≠ b := fun k hk => by have := (p.r.lt k hk).1; omega
  have hgr : V.grownBy ((((V.setCell ⟨b, 0, none⟩ L').setCell ⟨b, 1, none⟩ R').setCell ⟨b, 2, none⟩ (.bool xu)).setCell ⟨b, 3, none⟩ (.bool yu)) (some b) := grown_trans (grown_trans (grown_trans (grown_set _ _ _ _) (grown_set _ _ _ _)) (grown_set _ _ _ _)) (grown_set _ _ _ _)
  refine ⟨(hgr.block _ (lt_of_block h.res) (by simp; omega)).trans h.res, ?_, ?_, h1, h2, h.rd.grown hgr (fun k hk => by simp at hk; omega), grown_young h.gr hgr (fun k hk => by simp at hk; omega), h.lo, hl⟩
  · rw [heap_setCell_same _ _ 3 _ _ _ (heap_setCell_same _ _ 2 _ _ _ (heap_setCell_same _ _ 1 _ _ _ (heap_setCell_same _ _ 0 _ _ _ h.box)))]; rfl
  · simp only [World.size_setCell]
    refine Pw.wide (lo := lo) (hi := V.heap.size) ?_ (by omega) (Nat.le_refl _)
    iterate 4 (refine Pw.setne ?_ h1 h2)
    exact p
/-- a number of the left list is another one -/
theorem Dp.poke {w V : World} {g b p n c j : Nat} {R : Value} {zl zr : List Int} {lu ru : Bool} (h : Dp w V g b (.slice (some ⟨p, 0, none⟩) n c) R zl zr lu ru) (hj : j < zl.length) (v : Int) :
    Dp w (V.setCell ⟨p, j, none⟩ (.int .i64 v)) g b (.slice (some ⟨p, 0, none⟩) n c) R (zl.set j v) zr lu ru := by
  have hlo := h.lo
  have hp := h.pw.l.lt p rfl
  have hpb := h.nl p rfl
  have hgs := grown_set V p j (.int .i64 v)
  have h2 := h.pw.putL hj v
  refine ⟨(hgs.block _ (lt_of_block h.res) (by simp; omega)).trans h.res, (hgs.block _ (lt_of_block h.box) (by simp; omega)).trans h.box, ⟨h2.l, h2.r, h2.ne, by simpa using h2.lh, by simpa using h2.rh⟩, h.nl, h.nr, h.rd.grown hgs (fun k hk => by simp at hk; omega), grown_young h.gr hgs (fun k hk => by simp at hk; omega), h.lo, by simpa using h.len⟩
theorem Dp.fin {w V : World} {g b : Nat} {L R : Value} {zl zr : List Int} {lu ru : Bool} (h : Dp w V g b L R zl zr lu ru) :
    B4 ((((V.setCell ⟨w.heap.size, 0, none⟩ L).setCell ⟨w.heap.size, 1, none⟩ R).setCell ⟨w.heap.size, 2, none⟩ (.bool lu)).setCell ⟨w.heap.size, 3, none⟩ (.bool ru)) w.heap.size L R (.bool lu) (.bool ru) ∧ Pw ((((V.setCell ⟨w.heap.size, 0, none⟩ L).setCell ⟨w.heap.size, 1, none⟩ R).setCell ⟨w.heap.size, 2, none⟩ (.bool lu)).setCell ⟨w.heap.size, 3, none⟩ (.bool ru)) w.heap.size ((((V.setCell ⟨w.heap.size, 0, none⟩ L).setCell ⟨w.heap.size, 1, none⟩ R).setCell ⟨w.heap.size, 2, none⟩ (.bool lu)).setCell ⟨w.heap.size, 3, none⟩ (.bool ru)).heap.size L R zl zr ∧
    Rdr ((((V.setCell ⟨w.heap.size, 0, none⟩ L).setCell ⟨w.heap.size, 1, none⟩ R).setCell ⟨w.heap.size, 2, none⟩ (.bool lu)).setCell ⟨w.heap.size, 3, none⟩ (.bool ru)) g ∧ w.grownBy ((((V.setCell ⟨w.heap.size, 0, none⟩ L).setCell ⟨w.heap.size, 1, none⟩ R).setCell ⟨w.heap.size, 2, none⟩ (.bool lu)).setCell ⟨w.heap.size, 3, none⟩ (.bool ru)) (some g) := by
  have hlo := h.lo
  have hgr : V.grownBy ((((V.setCell ⟨w.heap.size, 0, none⟩ L).setCell ⟨w.heap.size, 1, none⟩ R).setCell ⟨w.heap.size, 2, none⟩ (.bool lu)).setCell ⟨w.heap.size, 3, none⟩ (.bool ru)) (some w.heap.size) := grown_trans (grown_trans (grown_trans (grown_set _ _ _ _) (grown_set _ _ _ _)) (grown_set _ _ _ _)) (grown_set _ _ _ _)
  refine ⟨?_, ?_, h.rd.grown hgr (fun k hk => by simp at hk; omega), grown_young h.gr hgr (fun k hk => by simp at hk; omega)⟩
  · have hx : ((((V.setCell ⟨w.heap.size, 0, none⟩ L).setCell ⟨w.heap.size, 1, none⟩ R).setCell ⟨w.heap.size, 2, none⟩ (.bool lu)).setCell ⟨w.heap.size, 3, none⟩ (.bool ru)).heap[w.heap.size]? = some (.cells #[L, R, .bool lu, .bool ru] 26 (0, 0)) := by
      rw [heap_setCell_same _ _ 3 _ _ _ (heap_setCell_same _ _ 2 _ _ _ (heap_setCell_same _ _ 1 _ _ _ (heap_setCell_same _ _ 0 _ _ _ h.res)))]; rfl
    exact (row4_facts hx).2
  · simp only [World.size_setCell]
    refine Pw.wide (lo := w.heap.size + 1) (hi := V.heap.size) ?_ (by omega) (Nat.le_refl _)
    iterate 4 (refine Pw.set ?_ (by omega))
    exact h.pw
theorem Dp.form {w V : World} {g b : Nat} {L R : Value} {zl zr : List Int} {lu ru : Bool} (h : Dp w V g b L R zl zr lu ru) : ∃ ad ac bd bc, L = .slice ad zl.length ac ∧ R = .slice bd zr.length bc := by
  obtain ⟨ad, ac, e1, _⟩ := h.pw.l.form
  obtain ⟨bd, bc, e2, _⟩ := h.pw.r.form
  exact ⟨ad, ac, bd, bc, e1, e2⟩
theorem aNew_len4 (n : Int) : (aNew n).zl.length ≤ 4 ∧ (aNew n).zr.length ≤ 4 := by
  unfold aNew
  split
  · simp; omega
  · simp [PA.no]
theorem aFail_len4 (zl zr : List Int) (lu ru lf : Bool) : (aFail zl zr lu ru lf).zl.length ≤ 4 ∧ (aFail zl zr lu ru lf).zr.length ≤ 4 := by
  unfold aFail
  cases hb : pairB zl zr lu ru
  · exact ⟨Nat.zero_le _, Nat.zero_le _⟩
  · have := pairB_len hb
    cases lf <;> cases lu <;> cases ru <;> first | exact ⟨Nat.zero_le _, Nat.zero_le _⟩ | exact ⟨this.1, Nat.zero_le _⟩ | exact ⟨Nat.zero_le _, this.2⟩
theorem aMend_len4 (zl zr : List Int) (lu ru : Bool) : (aMend zl zr lu ru).zl.length ≤ 4 ∧ (aMend zl zr lu ru).zr.length ≤ 4 := by
  unfold aMend
  cases hb : pairB zl zr lu ru
  · exact ⟨Nat.zero_le _, Nat.zero_le _⟩
  · have := pairB_len hb
    cases lu <;> cases ru <;> first | exact ⟨Nat.zero_le _, Nat.zero_le _⟩ | exact ⟨this.1, this.1⟩ | exact ⟨this.2, this.2⟩
theorem aWrite_len4 (zl zr : List Int) (lu ru : Bool) (line value : Int) : (aWrite zl zr lu ru line value).zl.length ≤ 4 ∧ (aWrite zl zr lu ru line value).zr.length ≤ 4 := by
  unfold aWrite
  cases hb : kWrite zl zr lu ru line value
  · exact ⟨Nat.zero_le _, Nat.zero_le _⟩
  · have h2 : pairB zl zr lu ru = true := by
      unfold kWrite at hb
      simp only [Bool.and_eq_true] at hb
      exact hb.1.1
    have := pairB_len h2
    cases lu <;> cases ru <;> simp <;> omega

/-- the answer is put into the second variable -/
theorem put6 {w V : World} {g b b6 lo : Nat} {L R X Y : Value} {zl zr al ar : List Int} {lu ru xu yu : Bool} {o : Array Value} (d : Dp w V g b L R zl zr lu ru) (P : Pw V lo V.heap.size X Y al ar) (q6 : V.heap[b6]? = some (.cells o 26 (0, 0))) (ho : o.size = 4) (h1 : w.heap.size < b6) (h2 : b6 ≠ b) (h3 : (∀ k, L.ownBlock = some k → k ≠ b6) ∧ (∀ k, R.ownBlock = some k → k ≠ b6)) (h4 : b6 < lo) :
    Dp w ((((V.setCell ⟨b6, 0, none⟩ X).setCell ⟨b6, 1, none⟩ Y).setCell ⟨b6, 2, none⟩ (.bool xu)).setCell ⟨b6, 3, none⟩ (.bool yu)) g b L R zl zr lu ru ∧ Pw ((((V.setCell ⟨b6, 0, none⟩ X).setCell ⟨b6, 1, none⟩ Y).setCell ⟨b6, 2, none⟩ (.bool xu)).setCell ⟨b6, 3, none⟩ (.bool yu)) lo ((((V.setCell ⟨b6, 0, none⟩ X).setCell ⟨b6, 1, none⟩ Y).setCell ⟨b6, 2, none⟩ (.bool xu)).setCell ⟨b6, 3, none⟩ (.bool yu)).heap.size X Y al ar ∧ ((((V.setCell ⟨b6, 0, none⟩ X).setCell ⟨b6, 1, none⟩ Y).setCell ⟨b6, 2, none⟩ (.bool xu)).setCell ⟨b6, 3, none⟩ (.bool yu)).heap[b6]? = some (.cells (pq X Y xu yu) 26 (0, 0)) := by
  refine ⟨?_, ?_, ?_⟩
  · iterate 4 (refine Dp.other ?_ h1 h2 h3.1 h3.2)
    exact d
  · simp only [World.size_setCell]
    iterate 4 (refine Pw.set ?_ (by omega))
    exact P
  · rw [heap_setCell_same _ _ 3 _ _ _ (heap_setCell_same _ _ 2 _ _ _ (heap_setCell_same _ _ 1 _ _ _ (heap_setCell_same _ _ 0 _ _ _ q6)))]
    obtain ⟨l⟩ := o
    match l, ho with
    | [_, _, _, _], _ => rfl

set_option maxHeartbeats 8000000 in
set_option maxRecDepth 20000 in
theorem rdPair_any (g : Nat) (w : World) (h : Rdr w g) :
    Calls Try.prog 27 #[.pointer (some ⟨g, 0, none⟩)] w fun e w' => ∃ ad ac bd bc zl zr lu ru, e = .returned (.agg (pq (.slice ad (List.length zl) ac) (.slice bd (List.length zr) bc) lu ru)) ∧ Pw w' w.heap.size w'.heap.size (.slice ad zl.length ac) (.slice bd zr.length bc) zl zr ∧ (zl.length ≤ 4 ∧ zr.length ≤ 4) ∧ Rdr w' g ∧ w.grownBy w' (some g) := by
  have hA0 : Below w.heap.size w (w.alloc (.cells (pq nilS nilS false false) 26)) := (Below.refl _ _).alloc (Nat.le_refl _) _
  have hres := heap_alloc_new w (.cells (pq nilS nilS false false) 26)
  have hsz : (w.alloc (.cells (pq nilS nilS false false) 26)).heap.size = w.heap.size + 1 := by simp
  have hgl := h.lt
  have hr0 := h.below hA0
  have HX := hide (And.intro hA0 (And.intro hres hsz))
  clear h hA0 hres hsz
  go_enter Try.func27, Try.ntmps27
  go_wp2_with fail
  generalize (World.alloc _ _) = W at HX hr0 ⊢
  refine (below_any g 3 _ hr0 (by decide) (by decide)).mono ?_
  rintro e w1 ⟨c, rfl, hc0, hc3, hr1, hg1⟩
  have hS := fun W => specNew_any (1 + c) W
  have hlen := aNew_len4 (1 + c)
  generalize aNew (1 + c) = a at hS hlen
  obtain ⟨zl, zr, lu, ru, ok⟩ := a
  delta Post at hS
  dsimp only at hS hlen
  have hwc : wrap64 (1 + c) = 1 + c := Go.IntWalk.wrap64_in _ (by omega)
  go_wp2_with fail
  refine (hS _).mono ?_
  rintro e w2 ⟨ad, ac, bd, bc, rfl, P, hb2⟩
  have hd : Dp w (w2.alloc (.cells (pq (.slice ad zl.length ac) (.slice bd zr.length bc) lu ru) 26)) g w2.heap.size (.slice ad zl.length ac) (.slice bd zr.length bc) zl zr lu ru := by
    obtain ⟨hA0, hres, hsz⟩ := HX.out
    have hA : Below w2.heap.size w2 (w2.alloc (.cells (pq (.slice ad zl.length ac) (.slice bd zr.length bc) lu ru) 26)) := (Below.refl _ _).alloc (Nat.le_refl _) _
    have hs1 := hg1.size
    have hs2 := hb2.size
    have r1 := (hg1.block _ (by omega) (by simp; omega)).trans hres
    have r2 := (hb2.block _ (by omega)).trans r1
    refine ⟨(hA.block _ (by omega)).trans r2, heap_alloc_new _ _, ((P.below hA).wide (by omega) (by simp)), ?_, ?_, (hr1.below hb2).below hA, ?_, ⟨hgl, by omega⟩, hlen⟩
    · intro k hk; have := P.lh k hk; omega
    · intro k hk; have := P.rh k hk; omega
    · exact grown_trans (grown_trans (grown_trans (grown_any hA0) hg1) (grown_any hb2)) (grown_any hA)
  have HD := hide hd
  clear hd hS P hb2 hr1 hg1 hr0 HX hlen hwc hc0 hc3
  generalize hb0 : w2.heap.size = b at HD
  go_wp2_with fail
  generalize (World.alloc _ _) = V at HD ⊢
  clear hb0
  refine (below_any g 10 _ HD.out.rd (by decide) (by decide)).mono ?_
  rintro e w3 ⟨c, rfl, hc0, hc10, hr3, hg3⟩
  replace HD := hide (HD.out.read hr3 hg3)
  clear hr3 hg3
  obtain ⟨kk, rfl⟩ := Int.eq_ofNat_of_zero_le hc0
  go_wp2
  go_loopw [5] (fun i wr => ∃ (k : Nat) (ad : Option Addr) (ac : Nat) (bd : Option Addr) (bc : Nat) (zl zr : List Int) (lu ru : Bool), k ≤ 10 ∧ i = .int .i64 k ∧ Hid (Dp w wr g b (.slice ad zl.length ac) (.slice bd zr.length bc) zl zr lu ru)) (fun i _ => (intOf i).toNat)
  case atStart => exact ⟨kk, ad, ac, bd, bc, zl, zr, lu, ru, by omega, rfl, HD⟩
  case round =>
    clear HD
    obtain ⟨k, ad, ac, bd, bc, zl, zr, lu, ru, hk, rfl, HD⟩ := hrel
    by_cases hpos : 0 < k
    · have hbx := (row4_facts HD.out.box).2
      obtain ⟨x0, x1, x2, x3⟩ := hbx
      have hA : Below wr.heap.size wr (wr.alloc (.cells (pq (.slice ad zl.length ac) (.slice bd zr.length bc) lu ru) 26)) := (Below.refl _ _).alloc (Nat.le_refl _) _
      have q60 := heap_alloc_new wr (.cells (pq (.slice ad zl.length ac) (.slice bd zr.length bc) lu ru) 26)
      have hlo := HD.out.lo
      have hbl := lt_of_block HD.out.box
      have hrl := HD.out.rd.lt
      have H6 : Hid ((w.heap.size < wr.heap.size ∧ wr.heap.size ≠ b ∧ (∀ k, (Value.slice ad zl.length ac).ownBlock = some k → k ≠ wr.heap.size) ∧ (∀ k, (Value.slice bd zr.length bc).ownBlock = some k → k ≠ wr.heap.size)) ∧ wr.heap.size ≠ g) := hide ⟨⟨by omega, by omega, fun k hk => by have := HD.out.pw.lh k hk; omega, fun k hk => by have := HD.out.pw.rh k hk; omega⟩, by omega⟩
      have HLn := hide HD.out.len
      have HQ := hide (And.intro (HD.out.below hA) q60)
      have hkw : wrap64 ((k : Int) - 1) = ((k - 1 : Nat) : Int) := by rw [Go.IntWalk.wrap64_in _ (by omega)]; omega
      clear hA q60 hlo hbl hrl HD
      go_wp2_with fail
      generalize hb6 : wr.heap.size = b6 at H6 HQ
      generalize (World.alloc _ _) = V1 at HQ ⊢
      refine (below_any g 6 _ HQ.out.1.rd (by decide) (by decide)).mono ?_
      rintro e V ⟨c, rfl, hc0, hc6, hr, hg⟩
      have d := HQ.out.1.read hr hg
      have q6 := (hg.block _ (lt_of_block HQ.out.2) (by have := H6.out.2; simp; omega)).trans HQ.out.2
      have h6 := H6.out.1
      have h6g := H6.out.2
      clear HQ hr hg x0 x1 x2 x3 H6
      clear hb6
      by_cases e0 : c = 0
      · subst e0
        clear hc0 hc6
        go_wp2
        refine wp_region_held_drew (S := fun w' => w'.cell? ⟨b, 0, none⟩ = some (.slice ad zl.length ac) ∧ w'.cell? ⟨b, 1, none⟩ = some (.slice bd zr.length bc) ∧ w'.cell? ⟨b, 2, none⟩ = some (.bool lu) ∧ w'.cell? ⟨b, 3, none⟩ = some (.bool ru)) (by kernel_rfl) (row4_facts d.box).2 (fun hHeld => ?_)
        replace q6 : V.drew.heap[b6]? = some (.cells (pq (.slice ad zl.length ac) (.slice bd zr.length bc) lu ru) 26 (0, 0)) := q6
        replace d := d.below ((Below.refl _ _).drew)
        obtain ⟨V0, hV0⟩ : ∃ V0, V.drew = V0 := ⟨_, rfl⟩
        rw [hV0] at q6 d hHeld ⊢
        clear hV0
        refine wpAnyH_take (i := 0) (v := .agg (pq (.slice ad zl.length ac) (.slice bd zr.length bc) lu ru)) rfl (by kernel_rfl) (by kernel_rfl) (by kernel_rfl) (fun _ _ _ h => h) (Or.inl ⟨by rfl, fun w' hSw => ?_⟩) (by assumption) ?_
        · (try dsimp only at hSw); obtain ⟨z0, z1, z2, z3⟩ := hSw; go_simp
        try simp only [Act.put, List.getElem_toArray, List.getElem_cons_zero, List.getElem_cons_succ, List.setIfInBounds_toArray, List.set_cons_zero, List.set_cons_succ]
        refine wpAnyH_take (i := 1) (v := .pointer (some ⟨g, 0, none⟩)) rfl (by kernel_rfl) (by kernel_rfl) (by kernel_rfl) (fun _ _ _ h => h) (Or.inl ⟨by rfl, fun w' hSw => ?_⟩) (by assumption) ?_
        · (try dsimp only at hSw); skip; go_simp
        try simp only [Act.put, List.getElem_toArray, List.getElem_cons_zero, List.getElem_cons_succ, List.setIfInBounds_toArray, List.set_cons_zero, List.set_cons_succ]
        refine wpAnyH_ready (rs := [2]) (by kernel_rfl) (by simp) ?_
        refine AllReadyH.cons rfl (fun K hK => ?_) AllReadyH.nil
        go_simp
        refine (once_any g 2 _ d.rd (by decide) (by decide)).mono ?_
        rintro e V2 ⟨bl, rfl, hr, hg⟩
        replace q6 := (hg.block _ (lt_of_block q6) (by simp; omega)).trans q6
        replace d := d.read hr hg
        refine hK.out _ _ (row4_facts d.box).2 (fun hHeld => ?_)
        clear hK K hr hg
        try simp only [Act.put, List.getElem_toArray, List.getElem_cons_zero, List.getElem_cons_succ, List.setIfInBounds_toArray, List.set_cons_zero, List.set_cons_succ]
        have hF := fun W h h' => specFail_any (.slice ad zl.length ac) (.slice bd zr.length bc) zl zr lu ru bl W h h' (by have := HLn.out; omega)
        have hlen6 := aFail_len4 zl zr lu ru bl 
        generalize aFail zl zr lu ru bl = a at hF hlen6
        obtain ⟨al, ar, xu, yu, ok⟩ := a
        delta Post at hF
        dsimp only at hF hlen6
        refine wpAnyH_ready (rs := [3]) (by kernel_rfl) (by simp) ?_
        refine AllReadyH.cons rfl (fun K hK => ?_) AllReadyH.nil
        go_simp
        refine (hF _ d.pw.l.sl d.pw.r.sl).mono ?_
        rintro e V3 ⟨xd, xc, yd, yc, rfl, P, hb⟩
        clear hF
        have hlo6 := Nat.lt_of_lt_of_le (lt_of_block d.box) (Nat.le_refl _)
        have hlo7 := lt_of_block q6
        replace q6 := (hb.block _ (lt_of_block q6)).trans q6
        replace d := d.below hb
        refine hK.out _ _ (row4_facts d.box).2 (fun hHeld => ?_)
        clear hK K hb
        try simp only [Act.put, List.getElem_toArray, List.getElem_cons_zero, List.getElem_cons_succ, List.setIfInBounds_toArray, List.set_cons_zero, List.set_cons_succ]
        refine wpAnyH_take (i := 4) (v := .tuple #[.agg (pq (.slice xd al.length xc) (.slice yd ar.length yc) xu yu), .bool ok]) rfl (by kernel_rfl) (by kernel_rfl) (by kernel_rfl) (fun _ _ _ h => h) (Or.inl ⟨by rfl, fun w' hSw => ?_⟩) (by assumption) ?_
        · (try dsimp only at hSw); skip; go_simp
        try simp only [Act.put, List.getElem_toArray, List.getElem_cons_zero, List.getElem_cons_succ, List.setIfInBounds_toArray, List.set_cons_zero, List.set_cons_succ]
        refine wpAnyH_take (i := 5) (v := .agg (pq (.slice xd al.length xc) (.slice yd ar.length yc) xu yu)) rfl (by kernel_rfl) (by kernel_rfl) (by kernel_rfl) (fun _ _ _ h => h) (Or.inl ⟨by rfl, fun w' hSw => ?_⟩) (by assumption) ?_
        · (try dsimp only at hSw); skip; go_simp
        try simp only [Act.put, List.getElem_toArray, List.getElem_cons_zero, List.getElem_cons_succ, List.setIfInBounds_toArray, List.set_cons_zero, List.set_cons_succ]
        refine wpAnyH_take (i := 6) (v := .bool ok) rfl (by kernel_rfl) (by kernel_rfl) (by kernel_rfl) (fun _ _ _ h => h) (Or.inl ⟨by rfl, fun w' hSw => ?_⟩) (by assumption) ?_
        · (try dsimp only at hSw); skip; go_simp
        try simp only [Act.put, List.getElem_toArray, List.getElem_cons_zero, List.getElem_cons_succ, List.setIfInBounds_toArray, List.set_cons_zero, List.set_cons_succ]
        refine wpAnyH_ready (rs := [7]) (by kernel_rfl) (by simp) ?_
        refine AllReadyH.cons rfl (fun K hK => ?_) AllReadyH.nil
        obtain ⟨f6, s0, s1, s2, s3⟩ := row4_facts q6
        go_simp
        obtain ⟨d, P, q6⟩ := put6 (xu := xu) (yu := yu) d P q6 rfl h6.1 h6.2.1 h6.2.2 hlo7
        generalize (World.setCell _ _ _) = U at d P q6 ⊢
        refine hK.out _ _ (row4_facts d.box).2 (fun hHeld => ?_)
        clear hK K f6 s0 s1 s2 s3
        try simp only [Act.put, List.getElem_toArray, List.getElem_cons_zero, List.getElem_cons_succ, List.setIfInBounds_toArray, List.set_cons_zero, List.set_cons_succ]
        refine wpAnyH_take (i := 8) (v := .bool ok) rfl (by kernel_rfl) (by kernel_rfl) (by kernel_rfl) (fun _ _ _ h => h) (Or.inl ⟨by rfl, fun w' hSw => ?_⟩) (by assumption) ?_
        · (try dsimp only at hSw); skip; go_simp
        try simp only [Act.put, List.getElem_toArray, List.getElem_cons_zero, List.getElem_cons_succ, List.setIfInBounds_toArray, List.set_cons_zero, List.set_cons_succ]
        refine wpAnyH_done (by kernel_rfl) ?_ _
        clear hHeld hlo7
        cases ok with
        | false =>
          have HD := hide d
          clear d q6 P hlen6 hlo6
          go_wp2
          go_roundw
          case rel => exact ⟨k - 1, _, _, _, _, _, _, _, _, by omega, by first | rfl | go_num | (rw [hkw]), HD⟩
          case measure => simp [intOf]; omega
        | true =>
          obtain ⟨_, s0, s1, s2, s3⟩ := row4_facts q6
          obtain ⟨fb, t0, t1, t2, t3⟩ := row4_facts d.box
          have HD := hide (d.put (xu := xu) (yu := yu) P hlo6 hlen6)
          clear d q6 P
          go_wp2
          go_roundw
          case rel => exact ⟨k - 1, _, _, _, _, _, _, _, _, by omega, by first | rfl | go_num | (rw [hkw]), HD⟩
          case measure => simp [intOf]; omega
      · have e0' : (c == 0) = false := by simpa using e0
        by_cases e1 : c = 1
        · subst e1
          clear hc0 hc6 e0
          obtain ⟨x0, x1, x2, x3⟩ := (row4_facts d.box).2
          have hF := fun W h h' => specMend_any (.slice ad zl.length ac) (.slice bd zr.length bc) zl zr lu ru W h h' (by have := HLn.out; omega)
          have hlen6 := aMend_len4 zl zr lu ru 
          generalize aMend zl zr lu ru = a at hF hlen6
          obtain ⟨al, ar, xu, yu, ok⟩ := a
          delta Post at hF
          dsimp only at hF hlen6
          go_wp2_with fail
          refine (hF _ d.pw.l.sl d.pw.r.sl).mono ?_
          rintro e V3 ⟨xd, xc, yd, yc, rfl, P, hb⟩
          clear hF x0 x1 x2 x3
          have hlo6 := lt_of_block d.box
          have hlo7 := lt_of_block q6
          replace q6 := (hb.block _ (lt_of_block q6)).trans q6
          replace d := d.below hb
          clear hb
          obtain ⟨f6, s0, s1, s2, s3⟩ := row4_facts q6
          obtain ⟨fb, t0, t1, t2, t3⟩ := row4_facts d.box
          obtain ⟨d, P, q6⟩ := put6 (xu := xu) (yu := yu) d P q6 rfl h6.1 h6.2.1 h6.2.2 hlo7
          have HZ := hide (And.intro d (And.intro P q6))
          clear d P q6
          cases ok with
          | false =>
            go_wp2
            go_roundw
            case rel => exact ⟨k - 1, _, _, _, _, _, _, _, _, by omega, by first | rfl | go_num | (rw [hkw]) , hide HZ.out.1⟩
            case measure => simp [intOf]; omega
          | true =>
            have HF := hide (HZ.out.1.put (xu := xu) (yu := yu) HZ.out.2.1 hlo6 hlen6)
            have hne6 : ¬ b6 = b := h6.2.1
            have hne7 : ¬ b = b6 := fun e => h6.2.1 e.symm
            clear HZ
            go_wp2
            go_roundw
            case rel => exact ⟨k - 1, _, _, _, _, _, _, _, _, by omega, by first | rfl | go_num | (rw [hkw]) , HF⟩
            case measure => simp [intOf]; omega
        · have e1' : (c == 1) = false := by simpa using e1
          clear hc0 hc6 e0 e1
          go_wp2
          refine wp_region_held_drew (S := fun w' => w'.cell? ⟨b, 0, none⟩ = some (.slice ad zl.length ac) ∧ w'.cell? ⟨b, 1, none⟩ = some (.slice bd zr.length bc) ∧ w'.cell? ⟨b, 2, none⟩ = some (.bool lu) ∧ w'.cell? ⟨b, 3, none⟩ = some (.bool ru)) (by kernel_rfl) (row4_facts d.box).2 (fun hHeld => ?_)
          replace q6 : V.drew.heap[b6]? = some (.cells (pq (.slice ad zl.length ac) (.slice bd zr.length bc) lu ru) 26 (0, 0)) := q6
          replace d := d.below ((Below.refl _ _).drew)
          obtain ⟨V0, hV0⟩ : ∃ V0, V.drew = V0 := ⟨_, rfl⟩
          rw [hV0] at q6 d hHeld ⊢
          clear hV0
          refine wpAnyH_take (i := 0) (v := .agg (pq (.slice ad zl.length ac) (.slice bd zr.length bc) lu ru)) rfl (by kernel_rfl) (by kernel_rfl) (by kernel_rfl) (fun _ _ _ h => h) (Or.inl ⟨by rfl, fun w' hSw => ?_⟩) (by assumption) ?_
          · (try dsimp only at hSw); obtain ⟨z0, z1, z2, z3⟩ := hSw; go_simp
          try simp only [Act.put, List.getElem_toArray, List.getElem_cons_zero, List.getElem_cons_succ, List.setIfInBounds_toArray, List.set_cons_zero, List.set_cons_succ]
          refine wpAnyH_take (i := 1) (v := .pointer (some ⟨g, 0, none⟩)) rfl (by kernel_rfl) (by kernel_rfl) (by kernel_rfl) (fun _ _ _ h => h) (Or.inl ⟨by rfl, fun w' hSw => ?_⟩) (by assumption) ?_
          · (try dsimp only at hSw); skip; go_simp
          try simp only [Act.put, List.getElem_toArray, List.getElem_cons_zero, List.getElem_cons_succ, List.setIfInBounds_toArray, List.set_cons_zero, List.set_cons_succ]
          refine wpAnyH_take (i := 3) (v := .pointer (some ⟨g, 0, none⟩)) rfl (by kernel_rfl) (by kernel_rfl) (by kernel_rfl) (fun _ _ _ h => h) (Or.inl ⟨by rfl, fun w' hSw => ?_⟩) (by assumption) ?_
          · (try dsimp only at hSw); skip; go_simp
          try simp only [Act.put, List.getElem_toArray, List.getElem_cons_zero, List.getElem_cons_succ, List.setIfInBounds_toArray, List.set_cons_zero, List.set_cons_succ]
          refine wpAnyH_ready (rs := [2]) (by kernel_rfl) (by simp) ?_
          refine AllReadyH.cons rfl (fun K hK => ?_) AllReadyH.nil
          go_simp
          refine (below_any g 3 _ d.rd (by decide) (by decide)).mono ?_
          rintro e V2 ⟨ln, rfl, hl0, hl1, hr, hg⟩
          replace q6 := (hg.block _ (lt_of_block q6) (by simp; omega)).trans q6
          replace d := d.read hr hg
          refine hK.out _ _ (row4_facts d.box).2 (fun hHeld => ?_)
          clear hK K hr hg
          try simp only [Act.put, List.getElem_toArray, List.getElem_cons_zero, List.getElem_cons_succ, List.setIfInBounds_toArray, List.set_cons_zero, List.set_cons_succ]
          refine wpAnyH_ready (rs := [4]) (by kernel_rfl) (by simp) ?_
          refine AllReadyH.cons rfl (fun K hK => ?_) AllReadyH.nil
          go_simp
          refine (below_any g 50 _ d.rd (by decide) (by decide)).mono ?_
          rintro e V3 ⟨vl, rfl, hv0, hv1, hr, hg⟩
          replace q6 := (hg.block _ (lt_of_block q6) (by simp; omega)).trans q6
          replace d := d.read hr hg
          refine hK.out _ _ (row4_facts d.box).2 (fun hHeld => ?_)
          clear hK K hr hg
          try simp only [Act.put, List.getElem_toArray, List.getElem_cons_zero, List.getElem_cons_succ, List.setIfInBounds_toArray, List.set_cons_zero, List.set_cons_succ]
          have hF := fun W h h' => specWrite_any (.slice ad zl.length ac) (.slice bd zr.length bc) zl zr lu ru ln vl W h h' (by have := HLn.out; omega)
          have hlen6 := aWrite_len4 zl zr lu ru ln vl 
          generalize aWrite zl zr lu ru ln vl = a at hF hlen6
          obtain ⟨al, ar, xu, yu, ok⟩ := a
          delta Post at hF
          dsimp only at hF hlen6
          refine wpAnyH_ready (rs := [5]) (by kernel_rfl) (by simp) ?_
          refine AllReadyH.cons rfl (fun K hK => ?_) AllReadyH.nil
          go_simp
          refine (hF _ d.pw.l.sl d.pw.r.sl).mono ?_
          rintro e V4 ⟨xd, xc, yd, yc, rfl, P, hb⟩
          clear hF
          have hlo6 := Nat.lt_of_lt_of_le (lt_of_block d.box) (Nat.le_refl _)
          have hlo7 := lt_of_block q6
          replace q6 := (hb.block _ (lt_of_block q6)).trans q6
          replace d := d.below hb
          refine hK.out _ _ (row4_facts d.box).2 (fun hHeld => ?_)
          clear hK K hb
          try simp only [Act.put, List.getElem_toArray, List.getElem_cons_zero, List.getElem_cons_succ, List.setIfInBounds_toArray, List.set_cons_zero, List.set_cons_succ]
          refine wpAnyH_take (i := 6) (v := .tuple #[.agg (pq (.slice xd al.length xc) (.slice yd ar.length yc) xu yu), .bool ok]) rfl (by kernel_rfl) (by kernel_rfl) (by kernel_rfl) (fun _ _ _ h => h) (Or.inl ⟨by rfl, fun w' hSw => ?_⟩) (by assumption) ?_
          · (try dsimp only at hSw); skip; go_simp
          try simp only [Act.put, List.getElem_toArray, List.getElem_cons_zero, List.getElem_cons_succ, List.setIfInBounds_toArray, List.set_cons_zero, List.set_cons_succ]
          refine wpAnyH_take (i := 7) (v := .agg (pq (.slice xd al.length xc) (.slice yd ar.length yc) xu yu)) rfl (by kernel_rfl) (by kernel_rfl) (by kernel_rfl) (fun _ _ _ h => h) (Or.inl ⟨by rfl, fun w' hSw => ?_⟩) (by assumption) ?_
          · (try dsimp only at hSw); skip; go_simp
          try simp only [Act.put, List.getElem_toArray, List.getElem_cons_zero, List.getElem_cons_succ, List.setIfInBounds_toArray, List.set_cons_zero, List.set_cons_succ]
          refine wpAnyH_take (i := 8) (v := .bool ok) rfl (by kernel_rfl) (by kernel_rfl) (by kernel_rfl) (fun _ _ _ h => h) (Or.inl ⟨by rfl, fun w' hSw => ?_⟩) (by assumption) ?_
          · (try dsimp only at hSw); skip; go_simp
          try simp only [Act.put, List.getElem_toArray, List.getElem_cons_zero, List.getElem_cons_succ, List.setIfInBounds_toArray, List.set_cons_zero, List.set_cons_succ]
          refine wpAnyH_ready (rs := [9]) (by kernel_rfl) (by simp) ?_
          refine AllReadyH.cons rfl (fun K hK => ?_) AllReadyH.nil
          obtain ⟨f6, s0, s1, s2, s3⟩ := row4_facts q6
          go_simp
          obtain ⟨d, P, q6⟩ := put6 (xu := xu) (yu := yu) d P q6 rfl h6.1 h6.2.1 h6.2.2 hlo7
          generalize (World.setCell _ _ _) = U at d P q6 ⊢
          refine hK.out _ _ (row4_facts d.box).2 (fun hHeld => ?_)
          clear hK K f6 s0 s1 s2 s3
          try simp only [Act.put, List.getElem_toArray, List.getElem_cons_zero, List.getElem_cons_succ, List.setIfInBounds_toArray, List.set_cons_zero, List.set_cons_succ]
          refine wpAnyH_take (i := 10) (v := .bool ok) rfl (by kernel_rfl) (by kernel_rfl) (by kernel_rfl) (fun _ _ _ h => h) (Or.inl ⟨by rfl, fun w' hSw => ?_⟩) (by assumption) ?_
          · (try dsimp only at hSw); skip; go_simp
          try simp only [Act.put, List.getElem_toArray, List.getElem_cons_zero, List.getElem_cons_succ, List.setIfInBounds_toArray, List.set_cons_zero, List.set_cons_succ]
          refine wpAnyH_done (by kernel_rfl) ?_ _
          clear hHeld hlo7
          cases ok with
          | false =>
            have HD := hide d
            clear d q6 P hlen6 hlo6
            go_wp2
            go_roundw
            case rel => exact ⟨k - 1, _, _, _, _, _, _, _, _, by omega, by first | rfl | go_num | (rw [hkw]), HD⟩
            case measure => simp [intOf]; omega
          | true =>
            obtain ⟨_, s0, s1, s2, s3⟩ := row4_facts q6
            obtain ⟨fb, t0, t1, t2, t3⟩ := row4_facts d.box
            have HD := hide (d.put (xu := xu) (yu := yu) P hlo6 hlen6)
            clear d q6 P
            go_wp2
            go_roundw
            case rel => exact ⟨k - 1, _, _, _, _, _, _, _, _, by omega, by first | rfl | go_num | (rw [hkw]), HD⟩
            case measure => simp [intOf]; omega
    · have e : k = 0 := by omega
      subst e
      clear hk hpos
      have hbx := (row4_facts HD.out.box).2
      obtain ⟨x0, x1, x2, x3⟩ := hbx
      go_wp2_with fail
      refine (once_any g 30 _ HD.out.rd (by decide) (by decide)).mono ?_
      rintro e V ⟨bl, rfl, hr, hg⟩
      have d := HD.out.read hr hg
      clear HD hr hg x0 x1 x2 x3
      cases bl with
      | false =>
        obtain ⟨x0, x1, x2, x3⟩ := (row4_facts d.box).2
        obtain ⟨fr, r0, r1, r2, r3⟩ := row4_facts d.res
        have hfin := d.fin
        have HLen := hide d.len
        clear d
        obtain ⟨⟨q0, q1, q2, q3⟩, f1, f2, f3⟩ := hfin
        have HF := hide (And.intro f1 (And.intro f2 f3))
        have HQ := hide (And.intro q0 (And.intro q1 (And.intro q2 q3)))
        clear f1 f2 f3 q0 q1 q2 q3
        go_wp2
        generalize (World.setCell _ _ _) = Y at HF HQ ⊢
        obtain ⟨q0, q1, q2, q3⟩ := HQ.out
        exact bodyPost_ret (v := .agg (pq (.slice ad zl.length ac) (.slice bd zr.length bc) lu ru)) (by simp [results, Try.results27, go_sem, q0, q1, q2, q3]) rfl ⟨ad, ac, bd, bc, zl, zr, lu, ru, rfl, HF.out.1, HLen.out, HF.out.2.1, HF.out.2.2⟩
      | true =>
        by_cases hz : 0 < zl.length
        · obtain ⟨ad2, ac2, e2, hg2⟩ := d.pw.l.form
          simp only [Value.slice.injEq, true_and] at e2
          obtain ⟨rfl, rfl⟩ := e2
          obtain ⟨p, rfl⟩ := hg2 hz
          clear hg2
          obtain ⟨n, hn⟩ : ∃ n, zl.length = n := ⟨_, rfl⟩
          have hn0 : 0 < n := by omega
          obtain ⟨x0, x1, x2, x3⟩ := (row4_facts d.box).2
          rw [hn] at x0
          go_wp2
          clear x0 x1 x2 x3
          refine wp_region_held_drew (S := fun w' => w'.cell? ⟨b, 0, none⟩ = some (.slice (some ⟨p, 0, none⟩) n ac)) (by kernel_rfl) (by rw [← hn]; exact (row4_facts d.box).2.1) (fun hHeld => ?_)
          replace d := d.below ((Below.refl _ _).drew)
          obtain ⟨V0, hV0⟩ : ∃ V0, V.drew = V0 := ⟨_, rfl⟩
          rw [hV0] at d hHeld ⊢
          clear hV0
          refine wpAnyH_take (i := 0) (v := .pointer (some ⟨b, 0, none⟩)) rfl (by kernel_rfl) (by kernel_rfl) (by kernel_rfl) (fun _ _ _ h => h) (Or.inl ⟨by rfl, fun w' hSw => ?_⟩) (by assumption) ?_
          · (try dsimp only at hSw); skip; go_simp
          try simp only [Act.put, List.getElem_toArray, List.getElem_cons_zero, List.getElem_cons_succ, List.setIfInBounds_toArray, List.set_cons_zero, List.set_cons_succ]
          refine wpAnyH_take (i := 1) (v := .slice (some ⟨p, 0, none⟩) n ac) rfl (by kernel_rfl) (by kernel_rfl) (by kernel_rfl) (fun _ _ _ h => h) (Or.inl ⟨by rfl, fun w' hSw => ?_⟩) (by assumption) ?_
          · (try dsimp only at hSw); have z0 := hSw; go_simp
          try simp only [Act.put, List.getElem_toArray, List.getElem_cons_zero, List.getElem_cons_succ, List.setIfInBounds_toArray, List.set_cons_zero, List.set_cons_succ]
          refine wpAnyH_take (i := 2) (v := .pointer (some ⟨g, 0, none⟩)) rfl (by kernel_rfl) (by kernel_rfl) (by kernel_rfl) (fun _ _ _ h => h) (Or.inl ⟨by rfl, fun w' hSw => ?_⟩) (by assumption) ?_
          · (try dsimp only at hSw); skip; go_simp
          try simp only [Act.put, List.getElem_toArray, List.getElem_cons_zero, List.getElem_cons_succ, List.setIfInBounds_toArray, List.set_cons_zero, List.set_cons_succ]
          refine wpAnyH_ready (rs := [3]) (by kernel_rfl) (by simp) ?_
          refine AllReadyH.cons rfl (fun K hK => ?_) AllReadyH.nil
          go_simp
          refine (off_any g 0 60 _ d.rd (by decide) (by decide) (by decide)).mono ?_
          rintro e V2 ⟨z, rfl, hr, hg⟩
          replace d := d.read hr hg
          refine hK.out _ _ (by rw [← hn]; exact (row4_facts d.box).2.1) (fun hHeld => ?_)
          clear hK K hr hg
          try simp only [Act.put, List.getElem_toArray, List.getElem_cons_zero, List.getElem_cons_succ, List.setIfInBounds_toArray, List.set_cons_zero, List.set_cons_succ]
          refine wpAnyH_take (i := 4) (v := .pointer (some ⟨p, 0, none⟩)) rfl (by kernel_rfl) (by kernel_rfl) (by kernel_rfl) (fun _ _ _ h => h) (Or.inl ⟨by rfl, fun w' hSw => ?_⟩) (by assumption) ?_
          · (try dsimp only at hSw); skip; go_simp
          try simp only [Act.put, List.getElem_toArray, List.getElem_cons_zero, List.getElem_cons_succ, List.setIfInBounds_toArray, List.set_cons_zero, List.set_cons_succ]
          refine wpAnyH_ready (rs := [5]) (by kernel_rfl) (by simp) ?_
          refine AllReadyH.cons rfl (fun K hK => ?_) AllReadyH.nil
          obtain ⟨_, fz, o, hold⟩ := d.pw.l.put hz z
          go_simp
          replace d := d.poke hz z
          generalize (World.setCell _ _ _) = U at d ⊢
          refine hK.out _ _ (by rw [← hn]; exact (row4_facts d.box).2.1) (fun hHeld => ?_)
          clear hK K fz hold
          try simp only [Act.put, List.getElem_toArray, List.getElem_cons_zero, List.getElem_cons_succ, List.setIfInBounds_toArray, List.set_cons_zero, List.set_cons_succ]
          refine wpAnyH_done (by kernel_rfl) ?_ _
          clear hHeld
          subst hn
          obtain ⟨x0, x1, x2, x3⟩ := (row4_facts d.box).2
          obtain ⟨fr, r0, r1, r2, r3⟩ := row4_facts d.res
          have hfin := d.fin
          have HLen := hide d.len
          clear d
          obtain ⟨⟨q0, q1, q2, q3⟩, f1, f2, f3⟩ := hfin
          have HF := hide (And.intro f1 (And.intro f2 f3))
          have HQ := hide (And.intro q0 (And.intro q1 (And.intro q2 q3)))
          clear f1 f2 f3 q0 q1 q2 q3
          go_wp2
          generalize (World.setCell _ _ _) = Y at HF HQ ⊢
          obtain ⟨q0, q1, q2, q3⟩ := HQ.out
          exact bodyPost_ret (v := .agg (pq (.slice (some ⟨p, 0, none⟩) zl.length ac) (.slice bd zr.length bc) lu ru)) (by simp [results, Try.results27, go_sem, q0, q1, q2, q3]) rfl ⟨some ⟨p, 0, none⟩, ac, bd, bc, zl.set 0 z, zr, lu, ru, by simp, by simpa using HF.out.1, HLen.out, HF.out.2.1, HF.out.2.2⟩
        · have hzi : ¬ ((0 : Int) < (zl.length : Int)) := by omega
          clear hz
          obtain ⟨x0, x1, x2, x3⟩ := (row4_facts d.box).2
          obtain ⟨fr, r0, r1, r2, r3⟩ := row4_facts d.res
          have hfin := d.fin
          have HLen := hide d.len
          clear d
          obtain ⟨⟨q0, q1, q2, q3⟩, f1, f2, f3⟩ := hfin
          have HF := hide (And.intro f1 (And.intro f2 f3))
          have HQ := hide (And.intro q0 (And.intro q1 (And.intro q2 q3)))
          clear f1 f2 f3 q0 q1 q2 q3
          go_wp2
          generalize (World.setCell _ _ _) = Y at HF HQ ⊢
          obtain ⟨q0, q1, q2, q3⟩ := HQ.out
          exact bodyPost_ret (v := .agg (pq (.slice ad zl.length ac) (.slice bd zr.length bc) lu ru)) (by simp [results, Try.results27, go_sem, q0, q1, q2, q3]) rfl ⟨ad, ac, bd, bc, zl, zr, lu, ru, rfl, HF.out.1, HLen.out, HF.out.2.1, HF.out.2.2⟩

end Go.Proofs.Ytplnfddleaoimaa
