/- PyA, PyB, PyC, DtG, DtH, in one text (written by mkMerge.py) -/
import Derived.Test.YtneofegnbflfiaaStX
/- acts played one behind the other: what comes of them; impl.TsoPlay's world between two rounds -/
namespace Go.Proofs.Ytneofegnbflfiaa
open Go.RowKit
set_option linter.unusedVariables false
set_option linter.unusedSimpArgs false

/-- after the first acts of a row -/
def pl (d : Td) (C : Nat) (f : Nat → Nat → Int) : Nat → Td
  | 0 => d
  | n + 1 => nxt (pl d C f n) C (f n 0) (f n 1) (f n 2) (f n 3) (f n 4)
/-- their codes -/
def pcs (d : Td) (C : Nat) (f : Nat → Nat → Int) : Nat → List Int
  | 0 => []
  | n + 1 => pcs d C f n ++ [okc (pl d C f n) C (f n 0) (f n 1) (f n 2) (f n 3) (f n 4)]
theorem pcs_len (d : Td) (C : Nat) (f : Nat → Nat → Int) (n : Nat) : (pcs d C f n).length = n := by
  induction n with
  | zero => rfl
  | succ n ih => rw [pcs, List.length_append, ih]; rfl
theorem pl_tok {d : Td} {C : Nat} {f : Nat → Nat → Int} (h : tokD d C = true) (n : Nat) : tokD (pl d C f n) C = true := by
  induction n with
  | zero => exact h
  | succ n ih => exact nxt_tok ih
theorem pl_add (d : Td) (C : Nat) (f : Nat → Nat → Int) (k : Nat) : ∀ n, pl (pl d C f k) C (fun j => f (k + j)) n = pl d C f (k + n)
  | 0 => rfl
  | n + 1 => by rw [pl, pl_add d C f k n]; rfl
theorem pcs_add (d : Td) (C : Nat) (f : Nat → Nat → Int) (k : Nat) : ∀ n, pcs d C f k ++ pcs (pl d C f k) C (fun j => f (k + j)) n = pcs d C f (k + n)
  | 0 => by rw [pcs, List.append_nil]; rfl
  | n + 1 => by rw [pcs, ← List.append_assoc, pcs_add d C f k n, pl_add]; rfl

theorem own_keep {w w' : World} {base m n : Nat} {T : TypeId} {v : Value} {xs : List Value} (h : w.ownsRow base T m v n xs) (hk : ∀ g, v.ownBlock = some g → g < w.heap.size → w'.heap[g]? = w.heap[g]?) : w'.ownsRow base T m v n xs := by
  refine ⟨h.1, ?_⟩
  rcases h.2 with h' | ⟨g, cap, cur, e, hb, hg, h1, h2, h3, h4⟩
  · exact .inl h'
  · exact .inr ⟨g, cap, cur, e, hb, (hk g (by rw [e]; rfl) (lt_of_block hg)).trans hg, h1, h2, h3, h4⟩
theorem own_at {w : World} {base m n : Nat} {T : TypeId} {v : Value} {xs : List Value} (h : w.ownsRow base T m v n xs) {g : Nat} (e : v.ownBlock = some g) : base ≤ g ∧ g < w.heap.size := World.ownsRow.lt h g e

/-- between two rounds: the Tso of the call's own in its variable NB, the codes so far, the answer's variable -/
structure Py (w : World) (NB base : Nat) (m b r : Value) (d : Td) (C : Nat) (vb vr : Nat → Value) (tag : Nat → Nat) (cv : Value) (cs : List Int) (wr : World) : Prop where
  ta : TaD wr base m b r d C vb vr tag
  rm : ∀ c, c < C → Rm wr base (vb c) (d.L c) tag (3 + 2 * c)
  bx : wr.heap[NB]? = some (.cells #[m, b, r] 28 (0, 0))
  bt : tag NB = 100
  res : wr.heap[w.heap.size + 1]? = some (.cells #[nil3, nil3, nil3] 28 (0, 0))
  ow : Ow wr base cv cs
  ot : ∀ g, cv.ownBlock = some g → tag g = 100 ∧ g ≠ NB
  bel : Below w.heap.size w wr
  lo : w.heap.size + 1 < base ∧ base ≤ wr.heap.size ∧ base ≤ NB
theorem Py.below {w : World} {NB base : Nat} {m b r : Value} {d : Td} {C : Nat} {vb vr : Nat → Value} {tag : Nat → Nat} {cv : Value} {cs : List Int} {wr wr' : World} (h : Py w NB base m b r d C vb vr tag cv cs wr) (hb : Below wr.heap.size wr wr') : Py w NB base m b r d C vb vr tag cv cs wr' :=
  ⟨Ta.below h.ta hb, fun c hc => (h.rm c hc).below hb, heap_b h.bx hb, h.bt, heap_b h.res hb, own_keep h.ow (fun g _ hg => hb.block g hg), h.ot, h.bel.trans (hb.mono h.bel.size), h.lo.1, Nat.le_trans h.lo.2.1 hb.size, h.lo.2.2⟩
theorem Py.tr {w : World} {NB base : Nat} {m b r : Value} {d : Td} {C : Nat} {vb vr : Nat → Value} {tag : Nat → Nat} {cv : Value} {cs : List Int} {wr : World} (h : Py w NB base m b r d C vb vr tag cv cs wr) : Tr tag wr.heap.size wr base m b r d.zs C d.L d.F C d.Z vb vr tag := ⟨h.ta, h.rm, fun _ _ _ => rfl, Nat.le_refl _⟩
/-- an act was done -/
theorem Py.did {w : World} {NB base : Nat} {m b r : Value} {d d' : Td} {C : Nat} {vb vb' vr : Nat → Value} {tag tag' : Nat → Nat} {cv : Value} {cs : List Int} {wr w2 : World} (h : Py w NB base m b r d C vb vr tag cv cs wr) (tr : Tr tag wr.heap.size w2 base m b r d'.zs C d'.L d'.F C d'.Z vb' vr tag') (hb : Below base wr w2) (hk : Kp tag wr w2) : Py w NB base m b r d' C vb' vr tag' cv cs w2 := by
  obtain ⟨l1, l2, l3⟩ := h.lo
  have hNB := lt_of_block h.bx
  have hs := hb.size
  refine ⟨tr.ta, tr.rm, (hk NB hNB (by rw [h.bt]; omega)).trans h.bx, (tr.kt NB hNB (by rw [h.bt]; omega)).trans h.bt, (hb.block _ (by omega)).trans h.res, own_keep h.ow (fun g e hg => hk g hg (by rw [(h.ot g e).1]; omega)), fun g e => ?_, h.bel.trans (hb.mono (by omega)), l1, by omega, l3⟩
  have hg := own_at h.ow e
  exact ⟨(tr.kt g hg.2 (by rw [(h.ot g e).1]; omega)).trans (h.ot g e).1, (h.ot g e).2⟩
/-- a code was appended -/
theorem Py.app {w : World} {NB base : Nat} {m b r : Value} {d : Td} {C : Nat} {vb vr : Nat → Value} {tag : Nat → Nat} {cv : Value} {cs : List Int} {wr w3 : World} {g cap : Nat} {z : Int} (h : Py w NB base m b r d C vb vr tag cv cs wr) (hC : C ≤ 40) (hown : w3.ownsRow base 2 1 (.slice (some ⟨g, 0, none⟩) (cs.length + 1) cap) (cs.length + 1) (cs.map (Value.int .i64) ++ [.int .i64 z])) (hgrow : wr.grownBy w3 cv.ownBlock) (hat : cv.ownBlock = some g ∨ g = wr.heap.size) :
    ∃ tag', Py w NB base m b r d C vb vr tag' (.slice (some ⟨g, 0, none⟩) (cs.length + 1) cap) (cs ++ [z]) w3 := by
  obtain ⟨l1, l2, l3⟩ := h.lo
  have hNB := lt_of_block h.bx
  have hres := lt_of_block h.res
  have hro : ∀ x, cv.ownBlock = some x → base ≤ x ∧ x < wr.heap.size := fun x e => own_at h.ow e
  obtain ⟨tag', hlo, hhi⟩ : ∃ tag' : Nat → Nat, (∀ x, x < wr.heap.size → tag' x = tag x) ∧ ∀ x, wr.heap.size ≤ x → tag' x = 100 := ⟨fun x => if x < wr.heap.size then tag x else 100, fun x hx => if_pos hx, fun x hx => if_neg (by omega)⟩
  refine ⟨tag', Ta.tagged (Ta.retag h.ta hlo) hgrow (fun x e => by rw [hlo x (hro x e).2]; exact (h.ot x e).1) hC hC, fun c hc => (h.rm c hc).wk (fun x len hw e => hw.grown hgrow (fun q => by have := (h.ot x q).1; omega)) (fun x hx e => by rw [hlo x hx]; exact e), (hgrow.block NB hNB (fun e => (h.ot NB e.symm).2 rfl)).trans h.bx, (hlo NB hNB).trans h.bt, (hgrow.block _ hres (fun e => by have := (hro _ e.symm).1; omega)).trans h.res, ?_, fun x e => ?_, h.bel.grown hgrow h.bel.size (fun x e => by have := (hro x e).1; omega), l1, Nat.le_trans l2 hgrow.size, l3⟩
  · unfold Ow
    rw [List.length_append, List.map_append]
    exact hown
  · simp only [Value.ownBlock, Option.some.injEq] at e
    subst e
    rcases hat with hat | hat
    · exact ⟨(hlo g (hro g hat).2).trans (h.ot g hat).1, (h.ot g hat).2⟩
    · exact ⟨hhi g (by omega), by omega⟩

/-- what impl.TsoPlay answers -/
def PlPost (d : Td) (C R n : Nat) (f : Nat → Nat → Int) (w : World) (e : Ending) (w' : World) : Prop :=
  ((tokB d.zs C d.L d.F R d.Z = false ∨ 200 < n) ∧ e = .returned (.tuple #[.agg #[nil3, nil3, nil3], nil3]) ∧ Below w.heap.size w w') ∨
  ((tokB d.zs C d.L d.F R d.Z = true ∧ n ≤ 200) ∧ ∃ m b r vb vr tag cv, e = .returned (.tuple #[.agg #[m, b, r], cv]) ∧ TaD w' w.heap.size m b r (pl d C f n) C vb vr tag ∧ Ow w' w.heap.size cv (pcs d C f n) ∧ (∀ g, cv.ownBlock = some g → tag g = 100) ∧ Below w.heap.size w w')
theorem Py.fin {w : World} {NB base : Nat} {m b r : Value} {d : Td} {C : Nat} {vb vr : Nat → Value} {tag : Nat → Nat} {cv : Value} {cs : List Int} {V : World} (h : Py w NB base m b r d C vb vr tag cv cs V) :
    TaD (((V.setCell ⟨w.heap.size + 1, 0, none⟩ m).setCell ⟨w.heap.size + 1, 1, none⟩ b).setCell ⟨w.heap.size + 1, 2, none⟩ r) w.heap.size m b r d C vb vr tag ∧ Ow (((V.setCell ⟨w.heap.size + 1, 0, none⟩ m).setCell ⟨w.heap.size + 1, 1, none⟩ b).setCell ⟨w.heap.size + 1, 2, none⟩ r) w.heap.size cv cs ∧ Below w.heap.size w (((V.setCell ⟨w.heap.size + 1, 0, none⟩ m).setCell ⟨w.heap.size + 1, 1, none⟩ b).setCell ⟨w.heap.size + 1, 2, none⟩ r) := by
  obtain ⟨l1, l2, l3⟩ := h.lo
  have h3 := fin3 (w := w) (RB := w.heap.size + 1) h.ta l1 (by omega) h.bel (by omega)
  refine ⟨h3.1, ?_, h3.2⟩
  have hgr : V.grownBy (((V.setCell ⟨w.heap.size + 1, 0, none⟩ m).setCell ⟨w.heap.size + 1, 1, none⟩ b).setCell ⟨w.heap.size + 1, 2, none⟩ r) (some (w.heap.size + 1)) := grown_trans (grown_trans (grown_set _ _ _ _) (grown_set _ _ _ _)) (grown_set _ _ _ _)
  have := own_keep h.ow (w' := ((V.setCell ⟨w.heap.size + 1, 0, none⟩ m).setCell ⟨w.heap.size + 1, 1, none⟩ b).setCell ⟨w.heap.size + 1, 2, none⟩ r) (fun g e hg => hgr.block g hg (by have := own_at h.ow e; simp; omega))
  refine ⟨this.1, ?_⟩
  rcases this.2 with q | ⟨g, cap, cur, e, hb, q⟩
  · exact .inl q
  · exact .inr ⟨g, cap, cur, e, by omega, q⟩

end Go.Proofs.Ytneofegnbflfiaa

/- impl.TsoPlay (written by mkPyB.py) -/
namespace Go.Proofs.Ytneofegnbflfiaa
open Go.RowKit
set_option linter.unusedVariables false
set_option linter.unusedSimpArgs false

set_option maxHeartbeats 8000000 in
set_option maxRecDepth 20000 in
theorem implTsoPlay_any (mv bv rv : Value) (d : Td) (C R : Nat) (la : Option Addr) (n lc : Nat) (f : Nat → Nat → Int) (w : World) (h : Tv w mv bv rv d.zs C d.L d.F R d.Z) (hl : Sr w (.slice la n lc) 5 n f) (hn : n ≤ 1048576) :
    Calls Try.prog 28 #[.agg #[mv, bv, rv], .slice la n lc] w fun e w' => PlPost d C R n f w e w' := by
  obtain ⟨⟨ma, mc, rfl⟩, ⟨ba, bc, rfl⟩, ⟨ra, rc, rfl⟩⟩ := three_of h
  have HT := hide h
  have HLL := hide hl
  have HL0 := hide hl
  clear h hl
  obtain ⟨W, hW⟩ : ∃ W, (w.alloc (.cells #[.slice ma d.zs.length mc, .slice ba C bc, .slice ra R rc] 28)).alloc (.cells #[nil3, nil3, nil3] 28) = W := ⟨_, rfl⟩
  have hWs : W.heap.size = w.heap.size + 1 + 1 := by rw [← hW]; simp
  have hB0 : Below w.heap.size w W := by rw [← hW]; exact ((Below.refl _ _).alloc (Nat.le_refl _) _).alloc (by simp) _
  have g1 : W.heap[w.heap.size]? = some (.cells #[.slice ma d.zs.length mc, .slice ba C bc, .slice ra R rc] 28 (0, 0)) := by rw [← hW, Below.heap_alloc _ _ _ (by simp)]; exact heap_alloc_new _ _
  have g3 : W.heap[w.heap.size + 1]? = some (.cells #[nil3, nil3, nil3] 28 (0, 0)) := by
    rw [← hW]
    have := heap_alloc_new (w.alloc (.cells #[.slice ma d.zs.length mc, .slice ba C bc, .slice ra R rc] 28)) (.cells #[nil3, nil3, nil3] 28)
    simpa only [World.size_alloc] using this
  have HE := hide (And.intro hWs (And.intro hB0 (And.intro g1 g3)))
  have hokc := fun W h => implTsoOk_any (.slice ma d.zs.length mc) (.slice ba C bc) (.slice ra R rc) d.zs C d.L d.F R d.Z W h
  subst hW
  clear hWs hB0 g1 g3
  by_cases hno : tokB d.zs C d.L d.F R d.Z = false ∨ 200 < n
  · have hd : tokB d.zs C d.L d.F R d.Z = false ∨ (tokB d.zs C d.L d.F R d.Z = true ∧ decide ((200 : Int) < (n : Int)) = true) := by
      rcases hno with h | h
      · exact .inl h
      · cases hq : tokB d.zs C d.L d.F R d.Z
        · exact .inl rfl
        · exact .inr ⟨rfl, by simp; omega⟩
    have HNO := hide hno
    clear hno
    rcases hd with hx | ⟨hx, hd⟩
    · rw [hx] at hokc
      go_enter Try.func28, Try.ntmps28
      go_wp2_with fail
      refine (hokc _ (HT.out.below HE.out.2.1)).mono ?_
      rintro e w1 ⟨rfl, hb1⟩
      obtain ⟨e1, e2, e3, e5⟩ := HE.out
      have hB1 := e2.trans (hb1.mono e2.size)
      have g3 := heap_b e5 hb1
      obtain ⟨fr, r0, r1, r2⟩ := row3_facts g3
      have HB := hide ((((hB1.setCell (p := ⟨w.heap.size + 1, 0, none⟩) (by show w.heap.size ≤ w.heap.size + 1; omega) nil3).setCell (p := ⟨w.heap.size + 1, 1, none⟩) (by show w.heap.size ≤ w.heap.size + 1; omega) nil3).setCell (p := ⟨w.heap.size + 1, 2, none⟩) (by show w.heap.size ≤ w.heap.size + 1; omega) nil3))
      clear e1 e2 e3 e5 hB1 g3 hb1 HE HT hokc HLL hx
      go_wp2
      refine bodyPost_ret (v := .tuple #[.agg #[nil3, nil3, nil3], nil3]) (by simp [results, Try.results28, go_sem, r0, r1, r2]) rfl (.inl ⟨HNO.out, rfl, HB.out⟩)
    · rw [hx] at hokc
      go_enter Try.func28, Try.ntmps28
      go_wp2_with fail
      refine (hokc _ (HT.out.below HE.out.2.1)).mono ?_
      rintro e w1 ⟨rfl, hb1⟩
      obtain ⟨e1, e2, e3, e5⟩ := HE.out
      have hB1 := e2.trans (hb1.mono e2.size)
      have g3 := heap_b e5 hb1
      obtain ⟨fr, r0, r1, r2⟩ := row3_facts g3
      have HB := hide ((((hB1.setCell (p := ⟨w.heap.size + 1, 0, none⟩) (by show w.heap.size ≤ w.heap.size + 1; omega) nil3).setCell (p := ⟨w.heap.size + 1, 1, none⟩) (by show w.heap.size ≤ w.heap.size + 1; omega) nil3).setCell (p := ⟨w.heap.size + 1, 2, none⟩) (by show w.heap.size ≤ w.heap.size + 1; omega) nil3))
      clear e1 e2 e3 e5 hB1 g3 hb1 HE HT hokc HLL hx
      go_wp2
      refine bodyPost_ret (v := .tuple #[.agg #[nil3, nil3, nil3], nil3]) (by simp [results, Try.results28, go_sem, r0, r1, r2]) rfl (.inl ⟨HNO.out, rfl, HB.out⟩)
  · have hx : tokB d.zs C d.L d.F R d.Z = true := by
      cases hq : tokB d.zs C d.L d.F R d.Z
      · exact absurd (.inl hq) hno
      · rfl
    have hn2 : n ≤ 200 := by
      rcases Nat.lt_or_ge 200 n with q | q
      · exact absurd (.inr q) hno
      · exact q
    have hd : decide ((200 : Int) < (n : Int)) = false := by simp; omega
    have HY := hide (And.intro hx hn2)
    clear hno
    have hpa := tok_parts hx
    have hR : R = C := hpa.2.1
    subst hR
    have hR3 : 1 ≤ R ∧ R ≤ 3 := hpa.1
    have HX := hide hx
    rw [hx] at hokc
    have hcp := fun W h => tsoCopy_any (.slice ma d.zs.length mc) (.slice ba R bc) (.slice ra R rc) d.zs R d.L d.F d.Z W h (by omega) (by omega) (fun c hc => by have := (hpa.2.2.2.2 c hc).1; omega) (fun c hc => by have := (hpa.2.2.2.2 c hc).2.2.1; omega)
    clear hx hpa
    go_enter Try.func28, Try.ntmps28
    go_wp2_with fail
    refine (hokc _ (HT.out.below HE.out.2.1)).mono ?_
    rintro e w1 ⟨rfl, hb1⟩
    obtain ⟨e1, e2, e3, e5⟩ := HE.out
    have hB1 := e2.trans (hb1.mono e2.size)
    have g1 := heap_b e3 hb1
    have g3 := heap_b e5 hb1
    obtain ⟨_, x0, x1, x2⟩ := row3_facts g1
    have hT1 := HT.out.below hB1
    have hl1 := Sr.below HLL.out hB1
    clear e1 e2 e3 e5 hb1 HE HT hokc HLL
    go_wp2_with fail
    refine (hcp _ hT1).mono ?_
    rintro e w2 ⟨m, b, r, vb, vr, tag, rfl, tc, hb2⟩
    obtain ⟨⟨ma2, mc2, rfl⟩, ⟨ba2, bc2, rfl⟩, ⟨ra2, rc2, rfl⟩⟩ := three_of tc.ta.tv
    have hA2 : Below w2.heap.size w2 (w2.alloc (.cells #[.slice ma2 d.zs.length mc2, .slice ba2 R bc2, .slice ra2 R rc2] 28)) := (Below.refl _ _).alloc (Nat.le_refl _) _
    have g4 : (w2.alloc (.cells #[.slice ma2 d.zs.length mc2, .slice ba2 R bc2, .slice ra2 R rc2] 28)).heap[w2.heap.size]? = some (.cells #[.slice ma2 d.zs.length mc2, .slice ba2 R bc2, .slice ra2 R rc2] 28 (0, 0)) := heap_alloc_new _ _
    have hB2 := hB1.trans (hb2.mono hB1.size)
    have hB3 := hB2.trans (hA2.mono hB2.size)
    have g3' := heap_b (heap_b g3 hb2) hA2
    have tc' := (tc.retag (tag' := fun g => if g = w2.heap.size then 100 else tag g) (fun g hg => if_neg (by omega))).below hA2
    have hs2 := hb2.size
    have hs3 := hA2.size
    have hl3 := lt_of_block g3
    generalize htg : (fun g => if g = w2.heap.size then 100 else tag g) = tg at tc'
    have htB : tg w2.heap.size = 100 := by rw [← htg]; show (if w2.heap.size = w2.heap.size then 100 else tag w2.heap.size) = 100; rw [if_pos rfl]
    have tr0 := Tr.of_tc tc'
    generalize hnz : d.zs.length = nz at *
    have HS : Hid (Py w w2.heap.size w1.heap.size (.slice ma2 nz mc2) (.slice ba2 R bc2) (.slice ra2 R rc2) (pl d R f 0) R vb vr tg nil3 (pcs d R f 0) (w2.alloc (.cells #[.slice ma2 nz mc2, .slice ba2 R bc2, .slice ra2 R rc2] 28))) := hide ⟨tr0.ta, tr0.rm, g4, htB, g3', ⟨rfl, .inl ⟨rfl, rfl⟩⟩, (fun g e => by cases e), hB3, by omega, by omega, by omega⟩
    clear g1 hb2 tc hA2 hcp hT1 x0 x1 x2 tc' htg g3' hB3 hB2 hB1 g3 g4 hnz hs2 hs3 tr0 hl1 htB
    obtain ⟨i0, hi, hz0, hz1, hz2⟩ := info_parts infoI
    go_wp2
    go_loopw [7, 23] (fun x i wr => ∃ (k : Nat) (cv : Value) (vb : Nat → Value) (tg : Nat → Nat), k ≤ n ∧ x = cv ∧ i = .int .i64 k ∧ Hid (Py w w2.heap.size w1.heap.size (.slice ma2 nz mc2) (.slice ba2 R bc2) (.slice ra2 R rc2) (pl d R f k) R vb vr tg cv (pcs d R f k) wr)) (fun _ i _ => n - (intOf i).toNat)
    case atStart => exact ⟨0, nil3, vb, tg, Nat.zero_le _, rfl, rfl, HS⟩
    case round =>
      clear HS
      obtain ⟨k, cv, vb, tg, hk, rfl, rfl, HS⟩ := hrel
      by_cases hlt : k < n
      · have hlw : Sr wr (.slice la n lc) 5 n f := (Sr.below HL0.out HS.out.bel)
        obtain ⟨ad, cap, e, hsr⟩ := hlw
        obtain ⟨rfl, rfl⟩ : la = ad ∧ lc = cap := by simp at e; exact e
        clear e
        obtain ⟨p, off, rfl, hcc⟩ := hsr (by omega)
        have q0 : wr.cell? ⟨p, off + k * 5, none⟩ = some (.int .i64 (f k 0)) := hcc k hlt 0 (by decide)
        have q1 : wr.cell? ⟨p, off + k * 5 + 1, none⟩ = some (.int .i64 (f k 1)) := hcc k hlt 1 (by decide)
        have q2 : wr.cell? ⟨p, off + k * 5 + 2, none⟩ = some (.int .i64 (f k 2)) := hcc k hlt 2 (by decide)
        have q3 : wr.cell? ⟨p, off + k * 5 + 3, none⟩ = some (.int .i64 (f k 3)) := hcc k hlt 3 (by decide)
        have q4 : wr.cell? ⟨p, off + k * 5 + 4, none⟩ = some (.int .i64 (f k 4)) := hcc k hlt 4 (by decide)
        clear hcc hsr
        have hA : Below wr.heap.size wr (wr.alloc (.cells (five (f k 0) (f k 1) (f k 2) (f k 3) (f k 4)) 37)) := (Below.refl _ _).alloc (Nat.le_refl _) _
        have HS1 := hide (Py.below HS.out hA)
        have HSU : Hid (nxt (pl d R f k) R (f k 0) (f k 1) (f k 2) (f k 3) (f k 4) = pl d R f (k + 1) ∧ pcs d R f k ++ [okc (pl d R f k) R (f k 0) (f k 1) (f k 2) (f k 3) (f k 4)] = pcs d R f (k + 1) ∧ (pcs d R f k).length = k) := hide ⟨rfl, rfl, pcs_len d R f k⟩
        have HOK := hide (pl_tok (f := f) HX.out k)
        obtain ⟨_, n0, n1, n2⟩ := row3_facts HS1.out.bx
        clear HS hA
        generalize pcs d R f k = cs at HS1 HSU
        generalize f k 0 = a0 at *
        generalize f k 1 = a1 at *
        generalize f k 2 = a2 at *
        generalize f k 3 = a3 at *
        generalize f k 4 = a4 at *
        go_wp2_with fail
        refine (do_rm _ _ _ (pl d R f k) R vb vr tg w1.heap.size a0 a1 a2 a3 a4 _ HS1.out.tr HOK.out HS1.out.lo.2.1).mono ?_
        rintro e w3 ⟨rfl, ⟨vb', tg', tr3⟩, hb3, hk3⟩
        have HS2 := hide (Py.below (Py.did HS1.out tr3 hb3 hk3) ((Below.refl _ _).alloc (Nat.le_refl _) (.cells #[.int .i64 (okc (pl d R f k) R a0 a1 a2 a3 a4)] 2)))
        rw [HSU.out.1] at HS2
        have hkl := HSU.out.2.2
        generalize hcode : okc (pl d R f k) R a0 a1 a2 a3 a4 = code at *
        clear tr3 hb3 hk3 HS1 HOK n0 n1 n2 q0 q1 q2 q3 q4 hcode
        have how := HS2.out.ow
        unfold Ow at how
        rw [hkl] at how
        have hnw := World.news_of_block (cs := #[.int .i64 code]) (t := 2) (fr := (0, 0)) (heap_alloc_new w3 (.cells #[.int .i64 code] 2))
        go_wp2_with (at_builtin; (refine wpList_append_lies _ rfl _ _ 24 rfl w1.heap.size 2 i0 (.int .i64 0) 1 8 Try.underlying24 hi hz0 hz1 hz2 rfl (by decide) u7 k _ rfl how ⟨w3.heap.size, 0, none⟩ 1 1 [.int .i64 code] rfl rfl hnw (by intro u hu; simp at hu; subst hu; rfl) (by omega) (by unfold maxLen; omega) (by omega) HS2.out.lo.2.1 _ rfl ?_))
        intro g cap w4 hown hgrow hat _
        rw [← hkl] at hown
        obtain ⟨tg2, hpy⟩ := Py.app HS2.out (by omega) hown hgrow (hat.imp id (fun q => by rw [q]; simp))
        rw [HSU.out.2.1, hkl] at hpy
        have HS3 := hide hpy
        clear hpy hown hgrow hat how HS2 hkl HSU
        go_wp2
        go_roundw
        case rel => exact ⟨k + 1, _, _, _, by omega, rfl, by go_num, HS3⟩
        case measure => simp [intOf]; omega
      · have e3 : k = n := by omega
        subst e3
        obtain ⟨_, n0, n1, n2⟩ := row3_facts HS.out.bx
        obtain ⟨fr, r0, r1, r2⟩ := row3_facts HS.out.res
        have HF := hide HS.out.fin
        have HOT := hide (fun g e => (HS.out.ot g e).1)
        clear HS
        go_wp2
        refine bodyPost_ret (v := .tuple #[.agg #[.slice ma2 nz mc2, .slice ba2 R bc2, .slice ra2 R rc2], u7]) (by simp [results, Try.results28, go_sem, r0, r1, r2]) rfl (.inr ⟨HY.out, _, _, _, _, _, _, _, rfl, HF.out.1, HF.out.2.1, HOT.out, HF.out.2.2⟩)

end Go.Proofs.Ytneofegnbflfiaa

/- spec.TsoPlay (written by mkPyC.py) -/
namespace Go.Proofs.Ytneofegnbflfiaa
open Go.RowKit
set_option linter.unusedVariables false
set_option linter.unusedSimpArgs false

theorem Ta.side {w w' : World} {base : Nat} {mv bv rv : Value} {zs : List Int} {C : Nat} {L : Nat → Nat} {F : Nat → Nat → Nat → Int} {R : Nat} {Z : Nat → List Int} {vb vr : Nat → Value} {tag : Nat → Nat} {row : Option Nat} (h : Ta w base mv bv rv zs C L F R Z vb vr tag) (hg : w.grownBy w' row) (hr : ∀ g, row = some g → g < base ∨ tag g = 100) (hC : C ≤ 40) (hR : R ≤ 40) : Ta w' base mv bv rv zs C L F R Z vb vr tag := by
  cases row with
  | none => exact h.grown hg (fun g e => by cases e)
  | some g =>
    rcases hr g rfl with q | q
    · exact h.grown hg (fun x e => by simp only [Option.some.injEq] at e; omega)
    · exact h.tagged hg (fun x e => by simp only [Option.some.injEq] at e; subst e; exact q) hC hR
/-- between two rounds: the Tso so far in its variable NB, the codes so far, the answer's variable -/
structure Pz (w : World) (NB base : Nat) (m b r : Value) (d : Td) (C : Nat) (vb vr : Nat → Value) (tag : Nat → Nat) (cv : Value) (cs : List Int) (wr : World) : Prop where
  ta : TaD wr base m b r d C vb vr tag
  cp : Cpd vb C
  bx : wr.heap[NB]? = some (.cells #[m, b, r] 28 (0, 0))
  res : wr.heap[w.heap.size + 1]? = some (.cells #[nil3, nil3, nil3] 28 (0, 0))
  ow : Ow wr (w.heap.size + 2) cv cs
  ot : ∀ g, cv.ownBlock = some g → (g < base ∨ tag g = 100) ∧ g ≠ NB
  bel : Below w.heap.size w wr
  lo : w.heap.size + 1 < base ∧ base ≤ wr.heap.size ∧ w.heap.size + 1 < NB
theorem Pz.below {w : World} {NB base : Nat} {m b r : Value} {d : Td} {C : Nat} {vb vr : Nat → Value} {tag : Nat → Nat} {cv : Value} {cs : List Int} {wr wr' : World} (h : Pz w NB base m b r d C vb vr tag cv cs wr) (hb : Below wr.heap.size wr wr') : Pz w NB base m b r d C vb vr tag cv cs wr' :=
  ⟨Ta.below h.ta hb, h.cp, heap_b h.bx hb, heap_b h.res hb, own_keep h.ow (fun g _ hg => hb.block g hg), h.ot, h.bel.trans (hb.mono h.bel.size), h.lo.1, Nat.le_trans h.lo.2.1 hb.size, h.lo.2.2⟩
theorem Pz.did {w : World} {NB base base2 : Nat} {m b r m2 b2 r2 : Value} {d d' : Td} {C : Nat} {vb vr vb2 vr2 : Nat → Value} {tag tag2 : Nat → Nat} {cv : Value} {cs : List Int} {wr w6 : World} (h : Pz w NB base m b r d C vb vr tag cv cs wr) (hb : Below wr.heap.size wr w6) (h1 : wr.heap.size ≤ base2) (h2 : base2 ≤ w6.heap.size) (ta : TaD w6 base2 m2 b2 r2 d' C vb2 vr2 tag2) (cp : Cpd vb2 C) :
    Pz w NB base2 m2 b2 r2 d' C vb2 vr2 tag2 cv cs (((w6.setCell ⟨NB, 0, none⟩ m2).setCell ⟨NB, 1, none⟩ b2).setCell ⟨NB, 2, none⟩ r2) := by
  obtain ⟨l1, l2, l3⟩ := h.lo
  have hNB := lt_of_block h.bx
  have hgr : w6.grownBy (((w6.setCell ⟨NB, 0, none⟩ m2).setCell ⟨NB, 1, none⟩ b2).setCell ⟨NB, 2, none⟩ r2) (some NB) := grown_trans (grown_trans (grown_set _ _ _ _) (grown_set _ _ _ _)) (grown_set _ _ _ _)
  have hbx := heap_b h.bx hb
  have hre := heap_b h.res hb
  refine ⟨Ta.grown ta hgr (fun g e => by simp only [Option.some.injEq] at e; omega), cp, ?_, (hgr.block _ (lt_of_block hre) (by simp; omega)).trans hre, own_keep (own_keep h.ow (fun g _ hg => hb.block g hg)) (fun g e hg => hgr.block g hg (by simp only [ne_eq, Option.some.injEq]; exact (h.ot g e).2)), fun g e => ⟨.inl (Nat.lt_of_lt_of_le (own_at h.ow e).2 h1), (h.ot g e).2⟩, (h.bel.trans (hb.mono h.bel.size)).grown hgr (Nat.le_trans h.bel.size hb.size) (fun g e => by simp only [Option.some.injEq] at e; omega), by omega, Nat.le_trans h2 hgr.size, l3⟩
  rw [heap_setCell_same _ _ 2 _ _ _ (heap_setCell_same _ _ 1 _ _ _ (heap_setCell_same _ _ 0 _ _ _ hbx))]; rfl
theorem Pz.app {w : World} {NB base : Nat} {m b r : Value} {d : Td} {C : Nat} {vb vr : Nat → Value} {tag : Nat → Nat} {cv : Value} {cs : List Int} {wr w3 : World} {g cap : Nat} {z : Int} (h : Pz w NB base m b r d C vb vr tag cv cs wr) (hC : C ≤ 40) (hown : w3.ownsRow (w.heap.size + 2) 2 1 (.slice (some ⟨g, 0, none⟩) (cs.length + 1) cap) (cs.length + 1) (cs.map (Value.int .i64) ++ [.int .i64 z])) (hgrow : wr.grownBy w3 cv.ownBlock) (hat : cv.ownBlock = some g ∨ g = wr.heap.size) :
    ∃ tag', Pz w NB base m b r d C vb vr tag' (.slice (some ⟨g, 0, none⟩) (cs.length + 1) cap) (cs ++ [z]) w3 := by
  obtain ⟨l1, l2, l3⟩ := h.lo
  have hNB := lt_of_block h.bx
  have hres := lt_of_block h.res
  have hro : ∀ x, cv.ownBlock = some x → w.heap.size + 2 ≤ x ∧ x < wr.heap.size := fun x e => own_at h.ow e
  obtain ⟨tag', hlo, hhi⟩ : ∃ tag' : Nat → Nat, (∀ x, x < wr.heap.size → tag' x = tag x) ∧ ∀ x, wr.heap.size ≤ x → tag' x = 100 := ⟨fun x => if x < wr.heap.size then tag x else 100, fun x hx => if_pos hx, fun x hx => if_neg (by omega)⟩
  refine ⟨tag', Ta.side (Ta.retag h.ta hlo) hgrow (fun x e => by rw [hlo x (hro x e).2]; exact (h.ot x e).1) hC hC, h.cp, (hgrow.block NB hNB (fun e => (h.ot NB e.symm).2 rfl)).trans h.bx, (hgrow.block _ hres (fun e => by have := (hro _ e.symm).1; omega)).trans h.res, ?_, fun x e => ?_, h.bel.grown hgrow h.bel.size (fun x e => by have := (hro x e).1; omega), l1, Nat.le_trans l2 hgrow.size, l3⟩
  · unfold Ow
    rw [List.length_append, List.map_append]
    exact hown
  · simp only [Value.ownBlock, Option.some.injEq] at e
    subst e
    rcases hat with hat | hat
    · exact ⟨by rw [hlo g (hro g hat).2]; exact (h.ot g hat).1, (h.ot g hat).2⟩
    · exact ⟨.inr (hhi g (by omega)), by omega⟩
/-- what spec.TsoPlay answers -/
def SpPost (d : Td) (C R n : Nat) (f : Nat → Nat → Int) (w : World) (e : Ending) (w' : World) : Prop :=
  ((tokB d.zs C d.L d.F R d.Z = false ∨ 200 < n) ∧ e = .returned (.tuple #[.agg #[nil3, nil3, nil3], nil3]) ∧ Below w.heap.size w w') ∨
  ((tokB d.zs C d.L d.F R d.Z = true ∧ n ≤ 200) ∧ ∃ m b r cv, e = .returned (.tuple #[.agg #[m, b, r], cv]) ∧ Tv w' m b r (pl d C f n).zs C (pl d C f n).L (pl d C f n).F C (pl d C f n).Z ∧ Sl w' cv (pcs d C f n) ∧ Below w.heap.size w w')
theorem Pz.fin {w : World} {NB base : Nat} {m b r : Value} {d : Td} {C : Nat} {vb vr : Nat → Value} {tag : Nat → Nat} {cv : Value} {cs : List Int} {V : World} (h : Pz w NB base m b r d C vb vr tag cv cs V) :
    Tv (((V.setCell ⟨w.heap.size + 1, 0, none⟩ m).setCell ⟨w.heap.size + 1, 1, none⟩ b).setCell ⟨w.heap.size + 1, 2, none⟩ r) m b r d.zs C d.L d.F C d.Z ∧ Sl (((V.setCell ⟨w.heap.size + 1, 0, none⟩ m).setCell ⟨w.heap.size + 1, 1, none⟩ b).setCell ⟨w.heap.size + 1, 2, none⟩ r) cv cs ∧ Below w.heap.size w (((V.setCell ⟨w.heap.size + 1, 0, none⟩ m).setCell ⟨w.heap.size + 1, 1, none⟩ b).setCell ⟨w.heap.size + 1, 2, none⟩ r) := by
  obtain ⟨l1, l2, l3⟩ := h.lo
  have h3 := fin3 (w := w) (RB := w.heap.size + 1) h.ta l1 (by omega) h.bel (by omega)
  have hgr : V.grownBy (((V.setCell ⟨w.heap.size + 1, 0, none⟩ m).setCell ⟨w.heap.size + 1, 1, none⟩ b).setCell ⟨w.heap.size + 1, 2, none⟩ r) (some (w.heap.size + 1)) := grown_trans (grown_trans (grown_set _ _ _ _) (grown_set _ _ _ _)) (grown_set _ _ _ _)
  have ho := own_keep h.ow (w' := ((V.setCell ⟨w.heap.size + 1, 0, none⟩ m).setCell ⟨w.heap.size + 1, 1, none⟩ b).setCell ⟨w.heap.size + 1, 2, none⟩ r) (fun g e hg => hgr.block g hg (by have := own_at h.ow e; simp; omega))
  exact ⟨Ta.tv h3.1, Ow.sl ho, h3.2⟩

set_option maxHeartbeats 8000000 in
set_option maxRecDepth 20000 in
theorem specTsoPlay_any (mv bv rv : Value) (d : Td) (C R : Nat) (la : Option Addr) (n lc : Nat) (f : Nat → Nat → Int) (w : World) (h : Tv w mv bv rv d.zs C d.L d.F R d.Z) (hl : Sr w (.slice la n lc) 5 n f) (hn : n ≤ 1048576) :
    Calls Try.prog 29 #[.agg #[mv, bv, rv], .slice la n lc] w fun e w' => SpPost d C R n f w e w' := by
  obtain ⟨⟨ma, mc, rfl⟩, ⟨ba, bc, rfl⟩, ⟨ra, rc, rfl⟩⟩ := three_of h
  have HT := hide h
  have HLL := hide hl
  have HL0 := hide hl
  clear h hl
  obtain ⟨W, hW⟩ : ∃ W, (w.alloc (.cells #[.slice ma d.zs.length mc, .slice ba C bc, .slice ra R rc] 28)).alloc (.cells #[nil3, nil3, nil3] 28) = W := ⟨_, rfl⟩
  have hWs : W.heap.size = w.heap.size + 1 + 1 := by rw [← hW]; simp
  have hB0 : Below w.heap.size w W := by rw [← hW]; exact ((Below.refl _ _).alloc (Nat.le_refl _) _).alloc (by simp) _
  have g1 : W.heap[w.heap.size]? = some (.cells #[.slice ma d.zs.length mc, .slice ba C bc, .slice ra R rc] 28 (0, 0)) := by rw [← hW, Below.heap_alloc _ _ _ (by simp)]; exact heap_alloc_new _ _
  have g3 : W.heap[w.heap.size + 1]? = some (.cells #[nil3, nil3, nil3] 28 (0, 0)) := by
    rw [← hW]
    have := heap_alloc_new (w.alloc (.cells #[.slice ma d.zs.length mc, .slice ba C bc, .slice ra R rc] 28)) (.cells #[nil3, nil3, nil3] 28)
    simpa only [World.size_alloc] using this
  have HE := hide (And.intro hWs (And.intro hB0 (And.intro g1 g3)))
  have hokc := fun W h => specTsoOk_any (.slice ma d.zs.length mc) (.slice ba C bc) (.slice ra R rc) d.zs C d.L d.F R d.Z W h
  subst hW
  clear hWs hB0 g1 g3
  by_cases hno : tokB d.zs C d.L d.F R d.Z = false ∨ 200 < n
  · have hd : tokB d.zs C d.L d.F R d.Z = false ∨ (tokB d.zs C d.L d.F R d.Z = true ∧ decide ((200 : Int) < (n : Int)) = true) := by
      rcases hno with h | h
      · exact .inl h
      · cases hq : tokB d.zs C d.L d.F R d.Z
        · exact .inl rfl
        · exact .inr ⟨rfl, by simp; omega⟩
    have HNO := hide hno
    clear hno
    rcases hd with hx | ⟨hx, hd⟩
    · rw [hx] at hokc
      go_enter Try.func29, Try.ntmps29
      go_wp2_with fail
      refine (hokc _ (HT.out.below HE.out.2.1)).mono ?_
      rintro e w1 ⟨rfl, hb1⟩
      obtain ⟨e1, e2, e3, e5⟩ := HE.out
      have hB1 := e2.trans (hb1.mono e2.size)
      have g3 := heap_b e5 hb1
      obtain ⟨fr, r0, r1, r2⟩ := row3_facts g3
      have HB := hide ((((hB1.setCell (p := ⟨w.heap.size + 1, 0, none⟩) (by show w.heap.size ≤ w.heap.size + 1; omega) nil3).setCell (p := ⟨w.heap.size + 1, 1, none⟩) (by show w.heap.size ≤ w.heap.size + 1; omega) nil3).setCell (p := ⟨w.heap.size + 1, 2, none⟩) (by show w.heap.size ≤ w.heap.size + 1; omega) nil3))
      clear e1 e2 e3 e5 hB1 g3 hb1 HE HT hokc HLL hx
      go_wp2
      refine bodyPost_ret (v := .tuple #[.agg #[nil3, nil3, nil3], nil3]) (by simp [results, Try.results29, go_sem, r0, r1, r2]) rfl (.inl ⟨HNO.out, rfl, HB.out⟩)
    · rw [hx] at hokc
      go_enter Try.func29, Try.ntmps29
      go_wp2_with fail
      refine (hokc _ (HT.out.below HE.out.2.1)).mono ?_
      rintro e w1 ⟨rfl, hb1⟩
      obtain ⟨e1, e2, e3, e5⟩ := HE.out
      have hB1 := e2.trans (hb1.mono e2.size)
      have g3 := heap_b e5 hb1
      obtain ⟨fr, r0, r1, r2⟩ := row3_facts g3
      have HB := hide ((((hB1.setCell (p := ⟨w.heap.size + 1, 0, none⟩) (by show w.heap.size ≤ w.heap.size + 1; omega) nil3).setCell (p := ⟨w.heap.size + 1, 1, none⟩) (by show w.heap.size ≤ w.heap.size + 1; omega) nil3).setCell (p := ⟨w.heap.size + 1, 2, none⟩) (by show w.heap.size ≤ w.heap.size + 1; omega) nil3))
      clear e1 e2 e3 e5 hB1 g3 hb1 HE HT hokc HLL hx
      go_wp2
      refine bodyPost_ret (v := .tuple #[.agg #[nil3, nil3, nil3], nil3]) (by simp [results, Try.results29, go_sem, r0, r1, r2]) rfl (.inl ⟨HNO.out, rfl, HB.out⟩)
  · have hx : tokB d.zs C d.L d.F R d.Z = true := by
      cases hq : tokB d.zs C d.L d.F R d.Z
      · exact absurd (.inl hq) hno
      · rfl
    have hn2 : n ≤ 200 := by
      rcases Nat.lt_or_ge 200 n with q | q
      · exact absurd (.inr q) hno
      · exact q
    have hd : decide ((200 : Int) < (n : Int)) = false := by simp; omega
    have HY := hide (And.intro hx hn2)
    clear hno
    have hpa := tok_parts hx
    have hR : R = C := hpa.2.1
    subst hR
    have hR3 : 1 ≤ R ∧ R ≤ 3 := hpa.1
    have HX := hide hx
    rw [hx] at hokc
    have hcp := fun W h => l10Copy_any (.slice ma d.zs.length mc) (.slice ba R bc) (.slice ra R rc) d.zs R d.L d.F d.Z W h (by omega) (by omega) (by omega) (fun c hc => by have := (hpa.2.2.2.2 c hc).1; omega) (fun c hc => by have := (hpa.2.2.2.2 c hc).2.2.1; omega)
    clear hx hpa
    go_enter Try.func29, Try.ntmps29
    go_wp2_with fail
    refine (hokc _ (HT.out.below HE.out.2.1)).mono ?_
    rintro e w1 ⟨rfl, hb1⟩
    obtain ⟨e1, e2, e3, e5⟩ := HE.out
    have hB1 := e2.trans (hb1.mono e2.size)
    have g1 := heap_b e3 hb1
    have g3 := heap_b e5 hb1
    obtain ⟨_, x0, x1, x2⟩ := row3_facts g1
    have hT1 := HT.out.below hB1
    have hl1 := Sr.below HLL.out hB1
    clear e1 e2 e3 e5 hb1 HE HT hokc HLL
    go_wp2_with fail
    refine (hcp _ hT1).mono ?_
    rintro e w2 ⟨m, b, r, vb, vr, tag, rfl, tc, hb2⟩
    obtain ⟨⟨ma2, mc2, rfl⟩, ⟨ba2, bc2, rfl⟩, ⟨ra2, rc2, rfl⟩⟩ := three_of tc.ta.tv
    have hA2 : Below w2.heap.size w2 (w2.alloc (.cells #[.slice ma2 d.zs.length mc2, .slice ba2 R bc2, .slice ra2 R rc2] 28)) := (Below.refl _ _).alloc (Nat.le_refl _) _
    have g4 : (w2.alloc (.cells #[.slice ma2 d.zs.length mc2, .slice ba2 R bc2, .slice ra2 R rc2] 28)).heap[w2.heap.size]? = some (.cells #[.slice ma2 d.zs.length mc2, .slice ba2 R bc2, .slice ra2 R rc2] 28 (0, 0)) := heap_alloc_new _ _
    have hA3 : Below (w2.alloc (.cells #[.slice ma2 d.zs.length mc2, .slice ba2 R bc2, .slice ra2 R rc2] 28)).heap.size (w2.alloc (.cells #[.slice ma2 d.zs.length mc2, .slice ba2 R bc2, .slice ra2 R rc2] 28)) ((w2.alloc (.cells #[.slice ma2 d.zs.length mc2, .slice ba2 R bc2, .slice ra2 R rc2] 28)).alloc (.cells #[] 2)) := (Below.refl _ _).alloc (Nat.le_refl _) _
    have hemp := empty_own (w2.alloc (.cells #[.slice ma2 d.zs.length mc2, .slice ba2 R bc2, .slice ra2 R rc2] 28)) 2 1
    have hB2 := hB1.trans (hb2.mono hB1.size)
    have hA4 := hA2.trans (hA3.mono hA2.size)
    have hB3 := hB2.trans (hA4.mono hB2.size)
    have g3' := heap_b (heap_b g3 hb2) hA4
    have g4' := heap_b g4 hA3
    have hcpd : Cpd vb R := fun c hc => own_cap (tc.bo c hc)
    have ta' := Ta.below (Ta.retag (tag' := fun g => if g < w2.heap.size then tag g else 100) tc.ta (fun g hg => if_pos hg)) hA4
    have hs2 := hb2.size
    have hs3 := hA4.size
    have hl3 := lt_of_block g3
    have hsz1 : (w2.alloc (.cells #[.slice ma2 d.zs.length mc2, .slice ba2 R bc2, .slice ra2 R rc2] 28)).heap.size = w2.heap.size + 1 := by simp
    rw [hsz1] at hemp
    have hown0 := own_base hemp (show w.heap.size + 2 ≤ w2.heap.size + 1 by omega)
    generalize hnz : d.zs.length = nz at *
    have HS : Hid (∃ vb vr tg, Pz w w2.heap.size w1.heap.size (.slice ma2 nz mc2) (.slice ba2 R bc2) (.slice ra2 R rc2) (pl d R f 0) R vb vr tg (.slice (some ⟨w2.heap.size + 1, 0, none⟩) 0 0) (pcs d R f 0) ((w2.alloc (.cells #[.slice ma2 nz mc2, .slice ba2 R bc2, .slice ra2 R rc2] 28)).alloc (.cells #[] 2))) := hide ⟨_, _, _, ta', hcpd, g4', g3', hown0, (fun g e => by
      simp only [Value.ownBlock, Option.some.injEq] at e
      subst e
      exact ⟨.inr (if_neg (by omega)), by omega⟩), hB3, by omega, by omega, by omega⟩
    clear g1 hb2 tc hA2 hcp hT1 x0 x1 x2 ta' g3' hB3 hB2 hB1 g3 g4 g4' hnz hs2 hs3 hl1 hA3 hA4 hemp hown0 hcpd hsz1
    obtain ⟨i0, hi, hz0, hz1, hz2⟩ := info_parts infoI
    go_wp2
    go_loopw [7, 8] (fun x i wr => ∃ (k : Nat) (cv : Value) (base : Nat) (m b r : Value), k ≤ n ∧ x = cv ∧ i = .int .i64 k ∧ Hid (∃ vb vr tg, Pz w w2.heap.size base m b r (pl d R f k) R vb vr tg cv (pcs d R f k) wr)) (fun _ i _ => n - (intOf i).toNat)
    case atStart => exact ⟨0, _, _, _, _, _, Nat.zero_le _, rfl, rfl, HS⟩
    case round =>
      clear HS
      obtain ⟨k, cv, base, m, b, r, hk, rfl, rfl, HS⟩ := hrel
      obtain ⟨vb2, vr2, tg2, hPZ⟩ := HS.out
      clear HS
      obtain ⟨⟨xm, ym, rfl⟩, ⟨xb, yb, rfl⟩, ⟨xr, yr, rfl⟩⟩ := three_of (Ta.tv hPZ.ta)
      generalize hnk : (pl d R f k).zs.length = nk at hPZ
      have HS := hide hPZ
      clear hPZ hnk
      by_cases hlt : k < n
      · have hlw : Sr wr (.slice la n lc) 5 n f := (Sr.below HL0.out HS.out.bel)
        obtain ⟨ad, cap, e, hsr⟩ := hlw
        obtain ⟨rfl, rfl⟩ : la = ad ∧ lc = cap := by simp at e; exact e
        clear e
        obtain ⟨p, off, rfl, hcc⟩ := hsr (by omega)
        have q0 : wr.cell? ⟨p, off + k * 5, none⟩ = some (.int .i64 (f k 0)) := hcc k hlt 0 (by decide)
        have q1 : wr.cell? ⟨p, off + k * 5 + 1, none⟩ = some (.int .i64 (f k 1)) := hcc k hlt 1 (by decide)
        have q2 : wr.cell? ⟨p, off + k * 5 + 2, none⟩ = some (.int .i64 (f k 2)) := hcc k hlt 2 (by decide)
        have q3 : wr.cell? ⟨p, off + k * 5 + 3, none⟩ = some (.int .i64 (f k 3)) := hcc k hlt 3 (by decide)
        have q4 : wr.cell? ⟨p, off + k * 5 + 4, none⟩ = some (.int .i64 (f k 4)) := hcc k hlt 4 (by decide)
        clear hcc hsr
        have HSU : Hid (nxt (pl d R f k) R (f k 0) (f k 1) (f k 2) (f k 3) (f k 4) = pl d R f (k + 1) ∧ pcs d R f k ++ [okc (pl d R f k) R (f k 0) (f k 1) (f k 2) (f k 3) (f k 4)] = pcs d R f (k + 1) ∧ (pcs d R f k).length = k) := hide ⟨rfl, rfl, pcs_len d R f k⟩
        have HOK := hide (pl_tok (f := f) HX.out k)
        obtain ⟨_, n0, n1, n2⟩ := row3_facts HS.out.bx
        have hk0 : (0 : Int) ≤ (k : Int) := by omega
        have hk1 : (k : Int) < (n : Int) := by omega
        generalize pcs d R f k = cs at HS HSU
        generalize f k 0 = a0 at *
        generalize f k 1 = a1 at *
        generalize f k 2 = a2 at *
        generalize f k 3 = a3 at *
        generalize f k 4 = a4 at *
        go_wp2
        refine wp_region_held_drew (S := fun w' => Below wr.heap.size wr w') (by kernel_rfl) ((Below.refl _ _).drew) (fun hHeld => ?_)
        refine wpAnyH_take (i := 0) (v := .agg #[.slice xm nk ym, .slice xb R yb, .slice xr R yr]) rfl (by kernel_rfl) (by kernel_rfl) (by kernel_rfl) (fun _ _ _ h => h) (Or.inl ⟨by rfl, fun w' hSw => ?_⟩) (by assumption) ?_
        · (try dsimp only at hSw); have z0 := keepc hSw n0; have z1 := keepc hSw n1; have z2 := keepc hSw n2; have z3 := keepc hSw q0; have z4 := keepc hSw q1; have z5 := keepc hSw q2; have z6 := keepc hSw q3; have z7 := keepc hSw q4; go_simp
        try simp only [Act.put, List.getElem_toArray, List.getElem_cons_zero, List.getElem_cons_succ, List.setIfInBounds_toArray, List.set_cons_zero, List.set_cons_succ]
        refine wpAnyH_take (i := 1) (v := .slice (some ⟨p, off, none⟩) n lc) rfl (by kernel_rfl) (by kernel_rfl) (by kernel_rfl) (fun _ _ _ h => h) (Or.inl ⟨by rfl, fun w' hSw => ?_⟩) (by assumption) ?_
        · (try dsimp only at hSw); skip; go_simp
        try simp only [Act.put, List.getElem_toArray, List.getElem_cons_zero, List.getElem_cons_succ, List.setIfInBounds_toArray, List.set_cons_zero, List.set_cons_succ]
        refine wpAnyH_take (i := 2) (v := .int .i64 k) rfl (by kernel_rfl) (by kernel_rfl) (by kernel_rfl) (fun _ _ _ h => h) (Or.inl ⟨by rfl, fun w' hSw => ?_⟩) (by assumption) ?_
        · (try dsimp only at hSw); skip; go_simp
        try simp only [Act.put, List.getElem_toArray, List.getElem_cons_zero, List.getElem_cons_succ, List.setIfInBounds_toArray, List.set_cons_zero, List.set_cons_succ]
        refine wpAnyH_take (i := 3) (v := .pointer (some ⟨p, off + k * 5, none⟩)) rfl (by kernel_rfl) (by kernel_rfl) (by kernel_rfl) (fun _ _ _ h => h) (Or.inl ⟨by rfl, fun w' hSw => ?_⟩) (by assumption) ?_
        · (try dsimp only at hSw); skip; go_simp
        try simp only [Act.put, List.getElem_toArray, List.getElem_cons_zero, List.getElem_cons_succ, List.setIfInBounds_toArray, List.set_cons_zero, List.set_cons_succ]
        refine wpAnyH_take (i := 4) (v := .agg (five a0 a1 a2 a3 a4)) rfl (by kernel_rfl) (by kernel_rfl) (by kernel_rfl) (fun _ _ _ h => h) (Or.inl ⟨by rfl, fun w' hSw => ?_⟩) (by assumption) ?_
        · (try dsimp only at hSw); have z0 := keepc hSw n0; have z1 := keepc hSw n1; have z2 := keepc hSw n2; have z3 := keepc hSw q0; have z4 := keepc hSw q1; have z5 := keepc hSw q2; have z6 := keepc hSw q3; have z7 := keepc hSw q4; go_simp
        try simp only [Act.put, List.getElem_toArray, List.getElem_cons_zero, List.getElem_cons_succ, List.setIfInBounds_toArray, List.set_cons_zero, List.set_cons_succ]
        obtain ⟨V0, hV0⟩ : ∃ V, wr.drew = V := ⟨_, rfl⟩
        rw [hV0] at hHeld ⊢
        clear hV0
        have hHe0 := hHeld
        refine wpAnyH_ready (rs := [5, 9]) (by kernel_rfl) (by simp) ?_
        refine AllReadyH.cons rfl (fun K hK => ?_) (AllReadyH.cons rfl (fun K hK => ?_) AllReadyH.nil)
        · go_simp
          have HP := hide (Pz.below HS.out hHeld)
          refine (l10Do_any _ _ _ (pl d R f k) R a0 a1 a2 a3 a4 _ (Ta.tv HP.out.ta) HOK.out (Bcap.of HP.out.ta.bs HP.out.cp)).mono ?_
          rintro e w5 ⟨m2, b2, r2, vb5, vr5, tag5, rfl, ta5, hb5, hcp5⟩
          rw [HSU.out.1] at ta5
          obtain ⟨⟨xm2, ym2, rfl⟩, ⟨xb2, yb2, rfl⟩, ⟨xr2, yr2, rfl⟩⟩ := three_of (Ta.tv ta5)
          generalize hnk2 : (pl d R f (k + 1)).zs.length = nk2 at ta5
          generalize hcode : okc (pl d R f k) R a0 a1 a2 a3 a4 = code at HSU
          have hHe2 := hHeld.trans (hb5.mono hHeld.size)
          refine hK.out _ _ hHe2 (fun hHeld => ?_)
          clear hK K
          try simp only [Act.put, List.getElem_toArray, List.getElem_cons_zero, List.getElem_cons_succ, List.setIfInBounds_toArray, List.set_cons_zero, List.set_cons_succ]
          refine wpAnyH_take (i := 6) (v := .tuple #[.agg #[.slice xm2 nk2 ym2, .slice xb2 R yb2, .slice xr2 R yr2], .int .i64 code]) rfl (by kernel_rfl) (by kernel_rfl) (by kernel_rfl) (fun _ _ _ h => h) (Or.inl ⟨by rfl, fun w' hSw => ?_⟩) (by assumption) ?_
          · (try dsimp only at hSw); skip; go_simp
          try simp only [Act.put, List.getElem_toArray, List.getElem_cons_zero, List.getElem_cons_succ, List.setIfInBounds_toArray, List.set_cons_zero, List.set_cons_succ]
          refine wpAnyH_take (i := 7) (v := .agg #[.slice xm2 nk2 ym2, .slice xb2 R yb2, .slice xr2 R yr2]) rfl (by kernel_rfl) (by kernel_rfl) (by kernel_rfl) (fun _ _ _ h => h) (Or.inl ⟨by rfl, fun w' hSw => ?_⟩) (by assumption) ?_
          · (try dsimp only at hSw); skip; go_simp
          try simp only [Act.put, List.getElem_toArray, List.getElem_cons_zero, List.getElem_cons_succ, List.setIfInBounds_toArray, List.set_cons_zero, List.set_cons_succ]
          refine wpAnyH_take (i := 8) (v := .int .i64 code) rfl (by kernel_rfl) (by kernel_rfl) (by kernel_rfl) (fun _ _ _ h => h) (Or.inl ⟨by rfl, fun w' hSw => ?_⟩) (by assumption) ?_
          · (try dsimp only at hSw); skip; go_simp
          try simp only [Act.put, List.getElem_toArray, List.getElem_cons_zero, List.getElem_cons_succ, List.setIfInBounds_toArray, List.set_cons_zero, List.set_cons_succ]
          refine wpAnyH_ready (rs := [9]) (by kernel_rfl) (by simp) ?_
          refine AllReadyH.cons rfl (fun K hK => ?_) AllReadyH.nil
          go_simp
          have hA9 : Below w5.heap.size w5 (w5.alloc (.cells #[nil3, nil3, nil3] 28)) := (Below.refl _ _).alloc (Nat.le_refl _) _
          refine hK.out _ _ (hHeld.trans (hA9.mono hHeld.size)) (fun hHeld => ?_)
          clear hK K
          try simp only [Act.put, List.getElem_toArray, List.getElem_cons_zero, List.getElem_cons_succ, List.setIfInBounds_toArray, List.set_cons_zero, List.set_cons_succ]
          have hz6 : wr.heap.size ≤ V0.heap.size := hHe0.size
          have hA6 : Below w5.heap.size w5 (w5.alloc (.cells #[.slice xm2 nk2 ym2, .slice xb2 R yb2, .slice xr2 R yr2] 28)) := (Below.refl _ _).alloc (Nat.le_refl _) _
          have ta6 := Ta.below ta5 hA6
          have hb6 := hHe2.trans (hA6.mono hHe2.size)
          have hbs1 := hz6
          have hbs2 : V0.heap.size ≤ ((w5.alloc (.cells #[.slice xm2 nk2 ym2, .slice xb2 R yb2, .slice xr2 R yr2] 28))).heap.size := Nat.le_trans hb5.size hA6.size
          have qB : ((w5.alloc (.cells #[.slice xm2 nk2 ym2, .slice xb2 R yb2, .slice xr2 R yr2] 28))).heap[w5.heap.size]? = some (.cells #[.slice xm2 nk2 ym2, .slice xb2 R yb2, .slice xr2 R yr2] 28 (0, 0)) := heap_alloc_new _ _
          clear ta5 hb5 hA6 hHe2 hA9
          refine wpAnyH_ready (rs := [10]) (by kernel_rfl) (by simp) ?_
          refine AllReadyH.cons rfl (fun K hK => ?_) AllReadyH.nil
          go_simp
          refine hK.out _ _ hb6 (fun hHeld => ?_)
          clear hK K
          try simp only [Act.put, List.getElem_toArray, List.getElem_cons_zero, List.getElem_cons_succ, List.setIfInBounds_toArray, List.set_cons_zero, List.set_cons_succ]
          refine wpAnyH_ready (rs := [11]) (by kernel_rfl) (by simp) ?_
          refine AllReadyH.cons rfl (fun K hK => ?_) AllReadyH.nil
          go_simp
          refine hK.out _ _ hHeld (fun hHeld => ?_)
          clear hK K hHeld
          try simp only [Act.put, List.getElem_toArray, List.getElem_cons_zero, List.getElem_cons_succ, List.setIfInBounds_toArray, List.set_cons_zero, List.set_cons_succ]
          refine wpAnyH_done (by kernel_rfl) ?_ _
          have HD := hide (Pz.did HS.out hb6 hbs1 hbs2 ta6 hcp5)
          have hkl := HSU.out.2.2
          obtain ⟨_, c0, c1, c2⟩ := row3_facts qB
          obtain ⟨fz, n0, n1, n2⟩ := row3_facts (heap_b HS.out.bx hb6)
          clear ta6 hb6 hbs1 hbs2 qB HS HOK q0 q1 q2 q3 q4
          have HA := hide (Pz.below HD.out ((Below.refl _ _).alloc (Nat.le_refl _) (.cells #[.int .i64 code] 2)))
          have how := HA.out.ow
          unfold Ow at how
          rw [hkl] at how
          have hnw := World.news_of_block (cs := #[.int .i64 code]) (t := 2) (fr := (0, 0)) (heap_alloc_new ((((w5.alloc (.cells #[.slice xm2 nk2 ym2, .slice xb2 R yb2, .slice xr2 R yr2] 28)).setCell ⟨w2.heap.size, 0, none⟩ (.slice xm2 nk2 ym2)).setCell ⟨w2.heap.size, 1, none⟩ (.slice xb2 R yb2)).setCell ⟨w2.heap.size, 2, none⟩ (.slice xr2 R yr2)) (.cells #[.int .i64 code] 2))
          have hbz : w.heap.size + 2 ≤ ((((w5.alloc (.cells #[.slice xm2 nk2 ym2, .slice xb2 R yb2, .slice xr2 R yr2] 28)).setCell ⟨w2.heap.size, 0, none⟩ (.slice xm2 nk2 ym2)).setCell ⟨w2.heap.size, 1, none⟩ (.slice xb2 R yb2)).setCell ⟨w2.heap.size, 2, none⟩ (.slice xr2 R yr2)).heap.size := by have := HD.out.lo; omega
          have hsz7 : ((((w5.alloc (.cells #[.slice xm2 nk2 ym2, .slice xb2 R yb2, .slice xr2 R yr2] 28)).setCell ⟨w2.heap.size, 0, none⟩ (.slice xm2 nk2 ym2)).setCell ⟨w2.heap.size, 1, none⟩ (.slice xb2 R yb2)).setCell ⟨w2.heap.size, 2, none⟩ (.slice xr2 R yr2)).heap.size = w5.heap.size + 1 := by simp
          rw [hsz7] at hnw
          rw [hsz7] at hbz
          clear HD hsz7
          go_wp2_with (at_builtin; refine wpList_append_lies _ rfl _ _ 24 rfl (w.heap.size + 2) 2 i0 (.int .i64 0) 1 8 Try.underlying24 hi hz0 hz1 hz2 rfl (by decide) u7 k _ rfl how ⟨w5.heap.size + 1, 0, none⟩ 1 1 [.int .i64 code] rfl rfl hnw (by intro u hu; simp at hu; subst hu; rfl) (by omega) (by unfold maxLen; omega) (by omega) (by simp; omega) _ rfl ?_)
          intro g cap w8 hown hgrow hat _
          rw [← hkl] at hown
          obtain ⟨tg3, hpy⟩ := Pz.app HA.out (by omega) hown hgrow (hat.imp id (fun q => by rw [q]; simp))
          rw [HSU.out.2.1, hkl] at hpy
          have HS3 := hide hpy
          clear hpy hown hgrow hat how HA hkl HSU hnw hbz c0 c1 c2 fz n0 n1 n2
          go_wp2
          go_roundw
          case rel => exact ⟨k + 1, _, _, _, _, _, by omega, rfl, by go_num, hide ⟨_, _, _, HS3.out⟩⟩
          case measure => simp [intOf]; omega
        · go_simp
          have hA9 : Below V0.heap.size V0 (V0.alloc (.cells #[nil3, nil3, nil3] 28)) := (Below.refl _ _).alloc (Nat.le_refl _) _
          have qB9 : (V0.alloc (.cells #[nil3, nil3, nil3] 28)).heap[V0.heap.size]? = some (.cells #[nil3, nil3, nil3] 28 (0, 0)) := heap_alloc_new _ _
          have sz0 := hHeld.size
          refine hK.out _ _ (hHeld.trans (hA9.mono hHeld.size)) (fun hHeld => ?_)
          clear hK K
          try simp only [Act.put, List.getElem_toArray, List.getElem_cons_zero, List.getElem_cons_succ, List.setIfInBounds_toArray, List.set_cons_zero, List.set_cons_succ]
          refine wpAnyH_ready (rs := [5]) (by kernel_rfl) (by simp) ?_
          refine AllReadyH.cons rfl (fun K hK => ?_) AllReadyH.nil
          go_simp
          have HP := hide (Pz.below HS.out hHeld)
          refine (l10Do_any _ _ _ (pl d R f k) R a0 a1 a2 a3 a4 _ (Ta.tv HP.out.ta) HOK.out (Bcap.of HP.out.ta.bs HP.out.cp)).mono ?_
          rintro e w5 ⟨m2, b2, r2, vb5, vr5, tag5, rfl, ta5, hb5, hcp5⟩
          rw [HSU.out.1] at ta5
          obtain ⟨⟨xm2, ym2, rfl⟩, ⟨xb2, yb2, rfl⟩, ⟨xr2, yr2, rfl⟩⟩ := three_of (Ta.tv ta5)
          generalize hnk2 : (pl d R f (k + 1)).zs.length = nk2 at ta5
          generalize hcode : okc (pl d R f k) R a0 a1 a2 a3 a4 = code at HSU
          have hHe2 := hHeld.trans (hb5.mono hHeld.size)
          have qB5 := heap_b qB9 hb5
          obtain ⟨fz9, c90, c91, c92⟩ := row3_facts qB5
          refine hK.out _ _ hHe2 (fun hHeld => ?_)
          clear hK K
          try simp only [Act.put, List.getElem_toArray, List.getElem_cons_zero, List.getElem_cons_succ, List.setIfInBounds_toArray, List.set_cons_zero, List.set_cons_succ]
          refine wpAnyH_take (i := 6) (v := .tuple #[.agg #[.slice xm2 nk2 ym2, .slice xb2 R yb2, .slice xr2 R yr2], .int .i64 code]) rfl (by kernel_rfl) (by kernel_rfl) (by kernel_rfl) (fun _ _ _ h => h) (Or.inl ⟨by rfl, fun w' hSw => ?_⟩) (by assumption) ?_
          · (try dsimp only at hSw); skip; go_simp
          try simp only [Act.put, List.getElem_toArray, List.getElem_cons_zero, List.getElem_cons_succ, List.setIfInBounds_toArray, List.set_cons_zero, List.set_cons_succ]
          refine wpAnyH_take (i := 7) (v := .agg #[.slice xm2 nk2 ym2, .slice xb2 R yb2, .slice xr2 R yr2]) rfl (by kernel_rfl) (by kernel_rfl) (by kernel_rfl) (fun _ _ _ h => h) (Or.inl ⟨by rfl, fun w' hSw => ?_⟩) (by assumption) ?_
          · (try dsimp only at hSw); skip; go_simp
          try simp only [Act.put, List.getElem_toArray, List.getElem_cons_zero, List.getElem_cons_succ, List.setIfInBounds_toArray, List.set_cons_zero, List.set_cons_succ]
          refine wpAnyH_take (i := 8) (v := .int .i64 code) rfl (by kernel_rfl) (by kernel_rfl) (by kernel_rfl) (fun _ _ _ h => h) (Or.inl ⟨by rfl, fun w' hSw => ?_⟩) (by assumption) ?_
          · (try dsimp only at hSw); skip; go_simp
          try simp only [Act.put, List.getElem_toArray, List.getElem_cons_zero, List.getElem_cons_succ, List.setIfInBounds_toArray, List.set_cons_zero, List.set_cons_succ]
          have hgr9 : w5.grownBy (((w5.setCell ⟨V0.heap.size, 0, none⟩ (.slice xm2 nk2 ym2)).setCell ⟨V0.heap.size, 1, none⟩ (.slice xb2 R yb2)).setCell ⟨V0.heap.size, 2, none⟩ (.slice xr2 R yr2)) (some V0.heap.size) := grown_trans (grown_trans (grown_set _ _ _ _) (grown_set _ _ _ _)) (grown_set _ _ _ _)
          have ta6 := Ta.grown ta5 hgr9 (fun g e => by simp only [Option.some.injEq] at e; simp; omega)
          have hb6 : Below wr.heap.size wr (((w5.setCell ⟨V0.heap.size, 0, none⟩ (.slice xm2 nk2 ym2)).setCell ⟨V0.heap.size, 1, none⟩ (.slice xb2 R yb2)).setCell ⟨V0.heap.size, 2, none⟩ (.slice xr2 R yr2)) := hHe2.grown hgr9 hHe2.size (fun g e => by simp only [Option.some.injEq] at e; omega)
          have hbs1 : wr.heap.size ≤ (V0.alloc (.cells #[nil3, nil3, nil3] 28)).heap.size := by simp; omega
          have hbs2 : (V0.alloc (.cells #[nil3, nil3, nil3] 28)).heap.size ≤ (((w5.setCell ⟨V0.heap.size, 0, none⟩ (.slice xm2 nk2 ym2)).setCell ⟨V0.heap.size, 1, none⟩ (.slice xb2 R yb2)).setCell ⟨V0.heap.size, 2, none⟩ (.slice xr2 R yr2)).heap.size := Nat.le_trans hb5.size hgr9.size
          have qB : (((w5.setCell ⟨V0.heap.size, 0, none⟩ (.slice xm2 nk2 ym2)).setCell ⟨V0.heap.size, 1, none⟩ (.slice xb2 R yb2)).setCell ⟨V0.heap.size, 2, none⟩ (.slice xr2 R yr2)).heap[V0.heap.size]? = some (.cells #[.slice xm2 nk2 ym2, .slice xb2 R yb2, .slice xr2 R yr2] 28 (0, 0)) := by rw [heap_setCell_same _ _ 2 _ _ _ (heap_setCell_same _ _ 1 _ _ _ (heap_setCell_same _ _ 0 _ _ _ qB5))]; rfl
          clear ta5 hb5 hgr9 hHe2 hA9 qB9 qB5
          refine wpAnyH_ready (rs := [10]) (by kernel_rfl) (by simp) ?_
          refine AllReadyH.cons rfl (fun K hK => ?_) AllReadyH.nil
          go_simp
          refine hK.out _ _ hb6 (fun hHeld => ?_)
          clear hK K
          try simp only [Act.put, List.getElem_toArray, List.getElem_cons_zero, List.getElem_cons_succ, List.setIfInBounds_toArray, List.set_cons_zero, List.set_cons_succ]
          refine wpAnyH_ready (rs := [11]) (by kernel_rfl) (by simp) ?_
          refine AllReadyH.cons rfl (fun K hK => ?_) AllReadyH.nil
          go_simp
          refine hK.out _ _ hHeld (fun hHeld => ?_)
          clear hK K hHeld
          try simp only [Act.put, List.getElem_toArray, List.getElem_cons_zero, List.getElem_cons_succ, List.setIfInBounds_toArray, List.set_cons_zero, List.set_cons_succ]
          refine wpAnyH_done (by kernel_rfl) ?_ _
          clear fz9 c90 c91 c92
          have HD := hide (Pz.did HS.out hb6 hbs1 hbs2 ta6 hcp5)
          have hkl := HSU.out.2.2
          obtain ⟨_, c0, c1, c2⟩ := row3_facts qB
          obtain ⟨fz, n0, n1, n2⟩ := row3_facts (heap_b HS.out.bx hb6)
          clear ta6 hb6 hbs1 hbs2 qB HS HOK q0 q1 q2 q3 q4
          have HA := hide (Pz.below HD.out ((Below.refl _ _).alloc (Nat.le_refl _) (.cells #[.int .i64 code] 2)))
          have how := HA.out.ow
          unfold Ow at how
          rw [hkl] at how
          have hnw := World.news_of_block (cs := #[.int .i64 code]) (t := 2) (fr := (0, 0)) (heap_alloc_new ((((((w5.setCell ⟨V0.heap.size, 0, none⟩ (.slice xm2 nk2 ym2)).setCell ⟨V0.heap.size, 1, none⟩ (.slice xb2 R yb2)).setCell ⟨V0.heap.size, 2, none⟩ (.slice xr2 R yr2)).setCell ⟨w2.heap.size, 0, none⟩ (.slice xm2 nk2 ym2)).setCell ⟨w2.heap.size, 1, none⟩ (.slice xb2 R yb2)).setCell ⟨w2.heap.size, 2, none⟩ (.slice xr2 R yr2)) (.cells #[.int .i64 code] 2))
          have hbz : w.heap.size + 2 ≤ ((((((w5.setCell ⟨V0.heap.size, 0, none⟩ (.slice xm2 nk2 ym2)).setCell ⟨V0.heap.size, 1, none⟩ (.slice xb2 R yb2)).setCell ⟨V0.heap.size, 2, none⟩ (.slice xr2 R yr2)).setCell ⟨w2.heap.size, 0, none⟩ (.slice xm2 nk2 ym2)).setCell ⟨w2.heap.size, 1, none⟩ (.slice xb2 R yb2)).setCell ⟨w2.heap.size, 2, none⟩ (.slice xr2 R yr2)).heap.size := by have := HD.out.lo; omega
          have hsz7 : ((((((w5.setCell ⟨V0.heap.size, 0, none⟩ (.slice xm2 nk2 ym2)).setCell ⟨V0.heap.size, 1, none⟩ (.slice xb2 R yb2)).setCell ⟨V0.heap.size, 2, none⟩ (.slice xr2 R yr2)).setCell ⟨w2.heap.size, 0, none⟩ (.slice xm2 nk2 ym2)).setCell ⟨w2.heap.size, 1, none⟩ (.slice xb2 R yb2)).setCell ⟨w2.heap.size, 2, none⟩ (.slice xr2 R yr2)).heap.size = w5.heap.size := by simp
          rw [hsz7] at hnw
          rw [hsz7] at hbz
          clear HD hsz7
          go_wp2_with (at_builtin; refine wpList_append_lies _ rfl _ _ 24 rfl (w.heap.size + 2) 2 i0 (.int .i64 0) 1 8 Try.underlying24 hi hz0 hz1 hz2 rfl (by decide) u7 k _ rfl how ⟨w5.heap.size, 0, none⟩ 1 1 [.int .i64 code] rfl rfl hnw (by intro u hu; simp at hu; subst hu; rfl) (by omega) (by unfold maxLen; omega) (by omega) (by simp; omega) _ rfl ?_)
          intro g cap w8 hown hgrow hat _
          rw [← hkl] at hown
          obtain ⟨tg3, hpy⟩ := Pz.app HA.out (by omega) hown hgrow (hat.imp id (fun q => by rw [q]; simp))
          rw [HSU.out.2.1, hkl] at hpy
          have HS3 := hide hpy
          clear hpy hown hgrow hat how HA hkl HSU hnw hbz c0 c1 c2 fz n0 n1 n2
          go_wp2
          go_roundw
          case rel => exact ⟨k + 1, _, _, _, _, _, by omega, rfl, by go_num, hide ⟨_, _, _, HS3.out⟩⟩
          case measure => simp [intOf]; omega
      · have e3 : k = n := by omega
        subst e3
        obtain ⟨_, n0, n1, n2⟩ := row3_facts HS.out.bx
        obtain ⟨fr, r0, r1, r2⟩ := row3_facts HS.out.res
        have HF := hide HS.out.fin
        clear HS
        go_wp2
        refine bodyPost_ret (v := .tuple #[.agg #[.slice xm nk ym, .slice xb R yb, .slice xr R yr], u7]) (by simp [results, Try.results29, go_sem, r0, r1, r2]) rfl (.inr ⟨HY.out, _, _, _, _, rfl, HF.out.1, HF.out.2.1, HF.out.2.2⟩)

end Go.Proofs.Ytneofegnbflfiaa

/- DrawTsoPlay: a Tso and a row of acts drawn -/
namespace Go.Proofs.Ytneofegnbflfiaa
open Go.RowKit
set_option linter.unusedVariables false
set_option linter.unusedSimpArgs false

def sn5 (f : Nat → Nat → Int) (n : Nat) (a b c d e : Int) : Nat → Nat → Int := upd f n (fun i => if i = 0 then a else if i = 1 then b else if i = 2 then c else if i = 3 then d else e)
theorem rowC5_snoc (f : Nat → Nat → Int) (n : Nat) (a b c d e : Int) : rowC 5 n n f ++ [.int .i64 a, .int .i64 b, .int .i64 c, .int .i64 d, .int .i64 e] = rowC 5 (n + 1) (n + 1) (sn5 f n a b c d e) := by
  apply List.ext_getElem?
  intro x
  by_cases h1 : x < n * 5
  · rw [List.getElem?_append_left (by rw [rowC_length]; exact h1), rowC_get h1, rowC_get (by omega), if_pos (by omega), if_pos (by omega), sn5, upd_ne (by omega)]
  · by_cases h2 : x < (n + 1) * 5
    · rw [List.getElem?_append_right (by rw [rowC_length]; omega), rowC_length, rowC_get h2, if_pos (by omega), sn5]
      have e1 : x / 5 = n := by omega
      rw [e1, upd_at]
      rcases (show x = n * 5 ∨ x = n * 5 + 1 ∨ x = n * 5 + 2 ∨ x = n * 5 + 3 ∨ x = n * 5 + 4 by omega) with h | h | h | h | h
      · have e2 : x % 5 = 0 := by omega
        rw [e2, h, Nat.sub_self]; rfl
      · have e2 : x % 5 = 1 := by omega
        rw [e2, h, Nat.add_sub_cancel_left]; rfl
      · have e2 : x % 5 = 2 := by omega
        rw [e2, h, Nat.add_sub_cancel_left]; rfl
      · have e2 : x % 5 = 3 := by omega
        rw [e2, h, Nat.add_sub_cancel_left]; rfl
      · have e2 : x % 5 = 4 := by omega
        rw [e2, h, Nat.add_sub_cancel_left]; rfl
    · rw [List.getElem?_append_right (by rw [rowC_length]; omega), rowC_length, rowC_none h2]
      exact List.getElem?_eq_none (by simp; omega)
theorem infoA : (Try.prog.info? 37).map (fun i => (i.zero, i.size, i.bytes)) = some (some (.agg #[.int .i64 0, .int .i64 0, .int .i64 0, .int .i64 0, .int .i64 0]), 5, 40) := by kernel_rfl

/-- a Tso drawn, and some acts drawn so far -/
structure Dy (W V : World) (g B base : Nat) (m b r : Value) (d : Td) (C : Nat) (vb vr : Nat → Value) (tag : Nat → Nat) (lv : Value) (k : Nat) (f : Nat → Nat → Int) : Prop where
  dv : Dv W V g B base m b r d C vb vr tag
  ow : Orow V (B + 1) 37 5 lv k k f
  ot : ∀ x, B ≤ x → tag x = 100
theorem Dy.read {W V V' : World} {g B base : Nat} {m b r : Value} {d : Td} {C : Nat} {vb vr : Nat → Value} {tag : Nat → Nat} {lv : Value} {k : Nat} {f : Nat → Nat → Int} (h : Dy W V g B base m b r d C vb vr tag lv k f) (hr : Rdr V' g) (hg : V.grownBy V' (some g)) : Dy W V' g B base m b r d C vb vr tag lv k f :=
  ⟨h.dv.read hr hg, own_keep h.ow (fun x e hx => hg.block x hx (by have := own_at h.ow e; have := h.dv.lo; simp; omega)), h.ot⟩
theorem Dy.below {W V V' : World} {g B base : Nat} {m b r : Value} {d : Td} {C : Nat} {vb vr : Nat → Value} {tag : Nat → Nat} {lv : Value} {k : Nat} {f : Nat → Nat → Int} (h : Dy W V g B base m b r d C vb vr tag lv k f) (hb : Below V.heap.size V V') : Dy W V' g B base m b r d C vb vr tag lv k f :=
  ⟨⟨h.dv.rd.below hb, heap_b h.dv.box hb, Ta.below h.dv.ta hb, h.dv.bel.trans (hb.mono h.dv.bel.size), h.dv.lo⟩, own_keep h.ow (fun x e hx => hb.block x hx), h.ot⟩
theorem Dy.app {W V w3 : World} {g B base : Nat} {m b r : Value} {d : Td} {C : Nat} {vb vr : Nat → Value} {tag : Nat → Nat} {lv lv' : Value} {k : Nat} {f : Nat → Nat → Int} {a0 a1 a2 a3 a4 : Int} (h : Dy W V g B base m b r d C vb vr tag lv k f) (hC : C ≤ 40) (hown : w3.ownsRow (B + 1) 37 5 lv' (k + 1) (rowC 5 k k f ++ [.int .i64 a0, .int .i64 a1, .int .i64 a2, .int .i64 a3, .int .i64 a4])) (hgrow : V.grownBy w3 lv.ownBlock) :
    Dy W w3 g B base m b r d C vb vr tag lv' (k + 1) (sn5 f k a0 a1 a2 a3 a4) := by
  obtain ⟨l1, l2, l3⟩ := h.dv.lo
  have hro : ∀ x, lv.ownBlock = some x → B + 1 ≤ x ∧ x < V.heap.size := fun x e => own_at h.ow e
  refine ⟨⟨h.dv.rd.grown hgrow (fun x e => by have := hro x e; omega), (hgrow.block B (lt_of_block h.dv.box) (fun e => by have := (hro B e.symm).1; omega)).trans h.dv.box, Ta.side h.dv.ta hgrow (fun x e => .inr (h.ot x (by have := hro x e; omega))) hC hC, h.dv.bel.grown hgrow h.dv.bel.size (fun x e => by have := hro x e; omega), h.dv.lo⟩, ?_, h.ot⟩
  unfold Orow
  rw [← rowC5_snoc]
  exact hown
theorem Dy.fin {W V w : World} {g B base p : Nat} {m b r : Value} {d : Td} {C : Nat} {vb vr : Nat → Value} {tag : Nat → Nat} {lv : Value} {k : Nat} {f : Nat → Nat → Int} (h : Dy W V g B base m b r d C vb vr tag lv k f) (hw : Below w.heap.size w W) (h1 : w.heap.size ≤ p) (h2 : p < W.heap.size) :
    TaD (((V.setCell ⟨p, 0, none⟩ m).setCell ⟨p, 1, none⟩ b).setCell ⟨p, 2, none⟩ r) w.heap.size m b r d C vb vr tag ∧ Sr (((V.setCell ⟨p, 0, none⟩ m).setCell ⟨p, 1, none⟩ b).setCell ⟨p, 2, none⟩ r) lv 5 k f ∧ Below w.heap.size w (((V.setCell ⟨p, 0, none⟩ m).setCell ⟨p, 1, none⟩ b).setCell ⟨p, 2, none⟩ r) := by
  obtain ⟨l1, l2, l3⟩ := h.dv.lo
  obtain ⟨_, f1, f2⟩ := h.dv.fin hw h1 h2
  have hgr : V.grownBy (((V.setCell ⟨p, 0, none⟩ m).setCell ⟨p, 1, none⟩ b).setCell ⟨p, 2, none⟩ r) (some p) := grown_trans (grown_trans (grown_set _ _ _ _) (grown_set _ _ _ _)) (grown_set _ _ _ _)
  exact ⟨f1, Orow.sr (own_keep h.ow (fun x e hx => hgr.block x hx (by have := own_at h.ow e; simp; omega))), f2⟩

set_option maxHeartbeats 4000000 in
set_option maxRecDepth 20000 in
theorem drawTsoPlay_any (ad : Option Addr) (n cap : Nat) (w : World) (hb : Bt w ad n) (hn : n ≤ 1048576) :
    Calls Try.prog 27 #[.slice ad n cap] w fun e w' => ∃ m b r d C vb vr tag la ln lc f, e = .returned (.tuple #[.agg #[m, b, r], .slice (some ⟨la, 0, none⟩) ln lc]) ∧ TaD w' w.heap.size m b r d C vb vr tag ∧ Cpd vb C ∧ Sml d C ∧ Sr w' (.slice (some ⟨la, 0, none⟩) ln lc) 5 ln f ∧ (ln ≤ 12 ∧ ln ≤ lc) ∧ Below w.heap.size w w' := by
  have hb' := hb.below ((Below.refl _ w).alloc (Nat.le_refl _) (.cells #[nil3, nil3, nil3] 28))
  clear hb
  go_enter Try.func27, Try.ntmps27
  go_wp2_with fail
  refine (open_any ad n cap _ hb' hn).mono ?_
  rintro e w1 ⟨g, rfl, hg1, hr1, hb1⟩
  clear hb'
  go_wp2_with fail
  refine (tso_any g 4 _ hr1 (by decide) (by decide)).mono ?_
  rintro e w2 ⟨m, b, r, d, C, vb, vr, tag, rfl, ta2, hcp, hsm, hr2, hg2⟩
  obtain ⟨xm, ym, xb, yb, xr, yr, rfl, rfl, rfl⟩ := Ta.three (n := d.zs.length) ta2 rfl
  have ta2' := Ta.retag (tag' := fun x => if x < w2.heap.size then tag x else 100) ta2 (fun x hx => if_pos hx)
  have dv := Dv.start hg1 hr1 hb1 ta2' hr2 hg2
  have hres : (w.alloc (.cells #[nil3, nil3, nil3] 28)).heap[w.heap.size]? = some (.cells #[nil3, nil3, nil3] 28 (0, 0)) := heap_alloc_new _ _
  have hwW : Below w.heap.size w (w.alloc (.cells #[nil3, nil3, nil3] 28)) := (Below.refl _ w).alloc (Nat.le_refl _) _
  have hwz : w.heap.size < (w.alloc (.cells #[nil3, nil3, nil3] 28)).heap.size := by simp
  generalize (w.alloc (.cells #[nil3, nil3, nil3] 28)) = W at *
  have hemp := empty_own (w2.alloc (.cells #[.slice xm d.zs.length ym, .slice xb C yb, .slice xr C yr] 28)) 37 5
  have hsz1 : (w2.alloc (.cells #[.slice xm d.zs.length ym, .slice xb C yb, .slice xr C yr] 28)).heap.size = w2.heap.size + 1 := by simp
  have hA3 : Below (w2.alloc (.cells #[.slice xm d.zs.length ym, .slice xb C yb, .slice xr C yr] 28)).heap.size (w2.alloc (.cells #[.slice xm d.zs.length ym, .slice xb C yb, .slice xr C yr] 28)) ((w2.alloc (.cells #[.slice xm d.zs.length ym, .slice xb C yb, .slice xr C yr] 28)).alloc (.cells #[] 37)) := (Below.refl _ _).alloc (Nat.le_refl _) _
  have dv3 : Dv W ((w2.alloc (.cells #[.slice xm d.zs.length ym, .slice xb C yb, .slice xr C yr] 28)).alloc (.cells #[] 37)) g w2.heap.size w1.heap.size (.slice xm d.zs.length ym) (.slice xb C yb) (.slice xr C yr) d C vb vr (fun x => if x < w2.heap.size then tag x else 100) := ⟨dv.rd.below hA3, heap_b dv.box hA3, Ta.below dv.ta hA3, dv.bel.trans (hA3.mono dv.bel.size), dv.lo⟩
  rw [hsz1] at hemp
  have HD := hide (show Dy W _ g w2.heap.size w1.heap.size _ _ _ d C vb vr _ (.slice (some ⟨w2.heap.size + 1, 0, none⟩) 0 0) 0 (fun _ _ => 0) from ⟨dv3, hemp, fun x hx => if_neg (by omega)⟩)
  clear hg1 hr1 hb1 ta2 hr2 hg2 ta2' dv hemp hA3 dv3 hsz1
  go_wp2_with fail
  refine (below_any g 12 _ HD.out.dv.rd (by decide) (by decide)).mono ?_
  rintro e w4 ⟨i, rfl, hi0, hi1, hr4, hg4⟩
  have HD4 := hide (Dy.read HD.out hr4 hg4)
  obtain ⟨c, rfl⟩ : ∃ c : Nat, i = c := ⟨i.toNat, by omega⟩
  generalize (fun x => if x < w2.heap.size then tag x else 100) = tg at HD4
  clear hr4 hg4 HD hi0
  obtain ⟨i0, hi, hz0, hz1, hz2⟩ := info_parts infoA
  go_wp2
  go_loopw [6, 7] (fun x i wr => ∃ (c k p q : Nat) (f : Nat → Nat → Int), (c + k ≤ 12 ∧ k ≤ q) ∧ x = .slice (some ⟨p, 0, none⟩) k q ∧ i = .int .i64 c ∧ Hid (Dy W wr g w2.heap.size w1.heap.size (.slice xm d.zs.length ym) (.slice xb C yb) (.slice xr C yr) d C vb vr tg (.slice (some ⟨p, 0, none⟩) k q) k f)) (fun _ i _ => (intOf i).toNat)
  case atStart => exact ⟨c, 0, _, _, _, by omega, rfl, rfl, HD4⟩
  case round =>
    clear HD4
    obtain ⟨c, k, p, q, f, hck, rfl, rfl, HD⟩ := hrel
    by_cases hlt : 0 < c
    · have hpos : (0 : Int) < (c : Int) := by omega
      have hkw : wrap64 ((c : Int) - 1) = ((c - 1 : Nat) : Int) := by rw [Go.IntWalk.wrap64_in _ (by omega)]; omega
      go_wp2_with fail
      refine (bact_any g _ HD.out.dv.rd).mono ?_
      rintro e w5 ⟨a0, a1, a2, a3, a4, rfl, hr5, hg5⟩
      have HA := hide (Dy.below (Dy.read HD.out hr5 hg5) ((Below.refl _ _).alloc (Nat.le_refl _) (.cells (five a0 a1 a2 a3 a4) 37)))
      have how := HA.out.ow
      unfold Orow at how
      have hnw := World.news_of_block (cs := five a0 a1 a2 a3 a4) (t := 37) (fr := (0, 0)) (heap_alloc_new w5 (.cells (five a0 a1 a2 a3 a4) 37))
      have hbz : w2.heap.size + 1 ≤ w5.heap.size := lt_of_block (Dy.read HD.out hr5 hg5).dv.box
      clear HD hr5 hg5
      go_wp2_with (at_builtin; refine wpList_append_lies _ rfl _ _ 48 rfl (w2.heap.size + 1) 37 i0 _ 5 40 Try.underlying48 hi hz0 hz1 hz2 rfl (by decide) (.slice (some ⟨p, 0, none⟩) k q) k _ rfl how ⟨w5.heap.size, 0, none⟩ 1 1 [.int .i64 a0, .int .i64 a1, .int .i64 a2, .int .i64 a3, .int .i64 a4] rfl rfl hnw (by intro u hu; simp at hu; rcases hu with hu | hu | hu | hu | hu <;> subst hu <;> rfl) (by omega) (by unfold maxLen; omega) (by omega) (by simp; omega) _ rfl ?_)
      intro g3 cap3 w6 hown hgrow hat _
      have HD6 := hide (Dy.app HA.out hsm.c hown hgrow)
      have hcq := own_cap hown _ _ _ rfl
      clear hown hgrow hat how hnw hbz HA
      go_wp2
      go_roundw
      case rel => exact ⟨c - 1, k + 1, _, _, _, by omega, rfl, by first | rfl | go_num | (rw [hkw]), HD6⟩
      case measure =>
        (try simp only [hkw])
        simp [intOf]
        omega
    · have e3 : c = 0 := by omega
      subst e3
      obtain ⟨_, c0, c1, c2⟩ := row3_facts HD.out.dv.box
      obtain ⟨fr, r0, r1, r2⟩ := row3_facts (heap_b hres HD.out.dv.bel)
      have HF := hide (HD.out.fin hwW (Nat.le_refl _) hwz)
      clear HD
      go_wp2
      refine bodyPost_ret (v := .tuple #[.agg #[.slice xm d.zs.length ym, .slice xb C yb, .slice xr C yr], .slice (some ⟨p, 0, none⟩) k q]) (by simp [results, Try.results27, go_sem, r0, r1, r2]) rfl ⟨_, _, _, _, _, _, _, _, _, _, _, _, rfl, HF.out.1, hcp, hsm, HF.out.2.1, by omega, HF.out.2.2⟩

end Go.Proofs.Ytneofegnbflfiaa

/- acts played, as the drawn law meets them; numbers appended -/
namespace Go.Proofs.Ytneofegnbflfiaa
open Go.RowKit
set_option linter.unusedVariables false
set_option linter.unusedSimpArgs false

theorem implPlay_yes (mv bv rv : Value) (d : Td) (C : Nat) (la : Option Addr) (n lc : Nat) (f : Nat → Nat → Int) (w : World) (ht : tokD d C = true) (hn : n ≤ 200) (h : Tv w mv bv rv d.zs C d.L d.F C d.Z) (hl : Sr w (.slice la n lc) 5 n f) :
    Calls Try.prog 28 #[.agg #[mv, bv, rv], .slice la n lc] w fun e w' => ∃ m b r vb vr tag cv, e = .returned (.tuple #[.agg #[m, b, r], cv]) ∧ TaD w' w.heap.size m b r (pl d C f n) C vb vr tag ∧ Ow w' w.heap.size cv (pcs d C f n) ∧ Below w.heap.size w w' := by
  refine (implTsoPlay_any mv bv rv d C C la n lc f w h hl (by omega)).mono ?_
  rintro e w' (⟨q | q, _⟩ | ⟨_, m, b, r, vb, vr, tag, cv, rfl, ta, ow, _, hb⟩)
  · exact absurd (q.symm.trans ht) (by decide)
  · omega
  · exact ⟨m, b, r, vb, vr, tag, cv, rfl, ta, ow, hb⟩
theorem specPlay_yes (mv bv rv : Value) (d : Td) (C : Nat) (la : Option Addr) (n lc : Nat) (f : Nat → Nat → Int) (w : World) (ht : tokD d C = true) (hn : n ≤ 200) (h : Tv w mv bv rv d.zs C d.L d.F C d.Z) (hl : Sr w (.slice la n lc) 5 n f) :
    Calls Try.prog 29 #[.agg #[mv, bv, rv], .slice la n lc] w fun e w' => ∃ m b r cv, e = .returned (.tuple #[.agg #[m, b, r], cv]) ∧ Tv w' m b r (pl d C f n).zs C (pl d C f n).L (pl d C f n).F C (pl d C f n).Z ∧ Sl w' cv (pcs d C f n) ∧ Below w.heap.size w w' := by
  refine (specTsoPlay_any mv bv rv d C C la n lc f w h hl (by omega)).mono ?_
  rintro e w' (⟨q | q, _⟩ | ⟨_, m, b, r, cv, rfl, tv, sl, hb⟩)
  · exact absurd (q.symm.trans ht) (by decide)
  · omega
  · exact ⟨m, b, r, cv, rfl, tv, sl, hb⟩
theorem implPlay_no (mv bv rv : Value) (d : Td) (C : Nat) (la : Option Addr) (n lc : Nat) (f : Nat → Nat → Int) (w : World) (ht : tokD d C = false) (hn : n ≤ 200) (h : Tv w mv bv rv d.zs C d.L d.F C d.Z) (hl : Sr w (.slice la n lc) 5 n f) :
    Calls Try.prog 28 #[.agg #[mv, bv, rv], .slice la n lc] w fun e w' => e = .returned (.tuple #[.agg #[nil3, nil3, nil3], nil3]) ∧ Below w.heap.size w w' := by
  refine (implTsoPlay_any mv bv rv d C C la n lc f w h hl (by omega)).mono ?_
  rintro e w' (⟨_, rfl, hb⟩ | ⟨q, _⟩)
  · exact ⟨rfl, hb⟩
  · exact absurd (q.1.symm.trans ht) (by decide)
theorem specPlay_no (mv bv rv : Value) (d : Td) (C : Nat) (la : Option Addr) (n lc : Nat) (f : Nat → Nat → Int) (w : World) (ht : tokD d C = false) (hn : n ≤ 200) (h : Tv w mv bv rv d.zs C d.L d.F C d.Z) (hl : Sr w (.slice la n lc) 5 n f) :
    Calls Try.prog 29 #[.agg #[mv, bv, rv], .slice la n lc] w fun e w' => e = .returned (.tuple #[.agg #[nil3, nil3, nil3], nil3]) ∧ Below w.heap.size w w' := by
  refine (specTsoPlay_any mv bv rv d C C la n lc f w h hl (by omega)).mono ?_
  rintro e w' (⟨_, rfl, hb⟩ | ⟨q, _⟩)
  · exact ⟨rfl, hb⟩
  · exact absurd (q.1.symm.trans ht) (by decide)
theorem sl_nil (w : World) : Sl w nil3 [] := ⟨none, 0, rfl, fun h => absurd h (by simp)⟩
theorem tl_zD : Tl zD.zs 0 zD.L 0 zD.Z := (show Sml zD 0 from ⟨by simp [zD], by omega, fun c hc => absurd hc (by omega), fun c hc => absurd hc (by omega)⟩).tl
theorem pl_small {d : Td} {C : Nat} (h : tokD d C = true) : Tl d.zs C d.L C d.Z := (tok_small h).tl
/-- the first acts of a row; those behind them -/
theorem Sr.upto {w : World} {p o n k c : Nat} {f : Nat → Nat → Int} (h : Sr w (.slice (some ⟨p, o, none⟩) n c) 5 n f) (hk : k ≤ n) : Sr w (.slice (some ⟨p, o, none⟩) k c) 5 k f := by
  obtain ⟨ad, cap, e, h⟩ := h
  refine ⟨_, _, rfl, fun hp => ?_⟩
  obtain ⟨b, off, e2, h⟩ := h (by omega)
  rw [e2] at e
  simp only [Value.slice.injEq, Option.some.injEq, Addr.mk.injEq] at e
  obtain ⟨⟨rfl, rfl, _⟩, _, _⟩ := e
  exact ⟨_, _, rfl, fun j hj => h j (by omega)⟩
theorem Sr.from_ {w : World} {p n k c c' : Nat} {f : Nat → Nat → Int} (h : Sr w (.slice (some ⟨p, 0, none⟩) n c) 5 n f) (hk : k ≤ n) : Sr w (.slice (some ⟨p, k * 5, none⟩) (n - k) c') 5 (n - k) (fun j => f (k + j)) := by
  obtain ⟨ad, cap, e, h⟩ := h
  refine ⟨_, _, rfl, fun hp => ?_⟩
  obtain ⟨b, off, e2, h⟩ := h (by omega)
  rw [e2] at e
  simp only [Value.slice.injEq, Option.some.injEq, Addr.mk.injEq] at e
  obtain ⟨⟨rfl, rfl, _⟩, _, _⟩ := e
  refine ⟨_, _, rfl, fun j hj i hi => ?_⟩
  have := h (k + j) (by omega) i hi
  have e3 : 0 + (k + j) * 5 + i = k * 5 + j * 5 + i := by omega
  rwa [e3] at this
theorem append_ints (W : World) (base : Nat) (v y : Value) (zs xs : List Int) (ty : TypeId) (hv : Ow W base v zs) (hy : Sl W y xs) (h1 : zs.length ≤ 1000) (h2 : xs.length ≤ 1000) (hb : base ≤ W.heap.size) :
    ∃ v' w', (Builtin.append_ #[24, 24] ty #[v, y]).run Try.prog W = .ok v' w' ∧ Ow w' base v' (zs ++ xs) ∧ W.grownBy w' v.ownBlock := by
  obtain ⟨i0, hi, hz0, hz1, hz2⟩ := info_parts infoI
  by_cases hx : xs = []
  · subst hx
    obtain ⟨ad, cap, e, _⟩ := hy
    obtain ⟨a, c, ev⟩ := own_form hv
    have hcp := own_cap hv a _ c ev
    have hlen : (0 : Nat) = ([] : List Int).length := rfl
    subst e
    subst ev
    refine ⟨_, W, ?_, by rw [List.append_nil]; exact hv, ⟨rfl, rfl, rfl, Nat.le_refl _, fun _ _ _ => rfl⟩⟩
    have hs : i0.size = 1 := hz1
    cases ad with
    | none => cases a <;> simp [Builtin.append_, run_underlying Try.underlying24, sizeOf, typeInfo, hi, Builtin.lenOf, hcp, Builtin.firstCells, storeCells]
    | some b =>
      have hfc := run_firstCells_some (P := Try.prog) W i0.size 0 b 0 cap [] (by simp) (fun j u hu => by simp at hu)
      cases a <;> simp [Builtin.append_, run_underlying Try.underlying24, sizeOf, typeInfo, hi, Builtin.lenOf, hcp, hfc, storeCells]
  · have hp : 0 < xs.length := List.length_pos_iff.mpr hx
    obtain ⟨ad, cap, e, hc⟩ := hy
    obtain ⟨b, off, rfl, hc2⟩ := hc hp
    subst e
    have hsl : Sl W (.slice (some ⟨b, off, none⟩) xs.length cap) xs := ⟨_, cap, rfl, fun _ => ⟨b, off, rfl, hc2⟩⟩
    obtain ⟨v', w', hr, hown, hgrow, _, _⟩ := run_append_own_at (P := Try.prog) W base 24 ty 2 i0 _ 1 8 Try.underlying24 hi hz0 hz1 hz2 rfl (by omega) v zs.length (zs.map (Value.int .i64)) hv ⟨b, off, none⟩ xs.length cap (xs.map (Value.int .i64)) (by simp) hsl.news ints_one (by unfold maxLen; omega) (by omega) hb
    refine ⟨v', w', hr, ?_, hgrow⟩
    unfold Ow
    rw [List.length_append, List.map_append]
    exact hown

theorem wpList_append_ok {P : Program} {ops : Array Oper} {rest : List Oper} {o : Oper} {a : Act} {w : World} {Q : Exit → Act → World → Prop} (hw : Region.wanted o (yielded ops a.tmps) = true) (s x : Operand) (t : TypeId)
    (ho : o.op = .call { callee := .builtin .append, args := #[s, x], argTypes := #[t, t] }) {v u v' : Value} {w' : World} (hs : a.eval s = v) (hx : a.eval x = u) (hr : (Builtin.append_ #[t, t] o.type #[v, u]).run P w = .ok v' w') (h : wpList P ops Q rest (a.put o.dst v') w') : wpList P ops Q (o :: rest) a w := by
  unfold wpList
  rw [if_pos hw]
  left
  unfold Oper.wp execOp
  simp only [ho, resolve, invoke, builtin, Sem.run_bind, Sem.run_pure, Result.andThen_ok, List.map_toArray, List.map_cons, List.map_nil, hs, hx, hr]
  exact h

end Go.Proofs.Ytneofegnbflfiaa
