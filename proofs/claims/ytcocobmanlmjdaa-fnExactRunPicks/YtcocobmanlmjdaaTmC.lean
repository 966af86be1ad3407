/- a Tso of one's own marked, and its marks found -/
import Derived.Test.YtcocobmanlmjdaaTmB
namespace Go.Proofs.Ytcocobmanlmjdaa
open Go.RowKit
set_option linter.unusedVariables false
set_option linter.unusedSimpArgs false

def sm2 (k : Int) (L : Nat → Nat) : Nat → Int
  | 0 => k
  | c + 1 => sm2 k L c + 2 * (L c : Int)
def sm1 (k : Int) (L : Nat → Nat) : Nat → Int
  | 0 => k
  | c + 1 => sm1 k L c + (L c : Int)
theorem sm2_ge (k : Int) (L : Nat → Nat) : ∀ c, k ≤ sm2 k L c
  | 0 => Int.le_refl _
  | c + 1 => by have := sm2_ge k L c; simp only [sm2]; omega
theorem sm1_ge (k : Int) (L : Nat → Nat) : ∀ c, k ≤ sm1 k L c
  | 0 => Int.le_refl _
  | c + 1 => by have := sm1_ge k L c; simp only [sm1]; omega
theorem sm2_le (k : Int) (L : Nat → Nat) (C : Nat) (hL : ∀ c, c < C → L c ≤ 1048576) : ∀ c, c ≤ C → sm2 k L c ≤ k + 2097152 * (c : Int)
  | 0, _ => by simp only [sm2]; omega
  | c + 1, h => by have := sm2_le k L C hL c (by omega); have := hL c (by omega); simp only [sm2]; omega
theorem sm1_le (k : Int) (L : Nat → Nat) (C : Nat) (hL : ∀ c, c < C → L c ≤ 1048576) : ∀ c, c ≤ C → sm1 k L c ≤ k + 1048576 * (c : Int)
  | 0, _ => by simp only [sm1]; omega
  | c + 1, h => by have := sm1_le k L C hL c (by omega); have := hL c (by omega); simp only [sm1]; omega

theorem Fm.of_svs {w : World} {v : Value} {n : Nat} {f : Nat → Value} (h : Svs w v n f) : Fm v n := by
  obtain ⟨ad, cap, rfl, h⟩ := h
  exact ⟨ad, cap, rfl, fun hp => by obtain ⟨b, off, e, _⟩ := h hp; exact ⟨b, off, e⟩⟩

/-- the marks of rows of stores, of whole numbers -/
def mkF (k : Int) (L : Nat → Nat) (F : Nat → Nat → Nat → Int) (C : Nat) : Nat → Nat → Nat → Int := fun c => if c < C then mk2 (sm2 k L c) else F c
def mkZ (k : Int) (Z : Nat → List Int) (R : Nat) : Nat → List Int := fun c => if c < R then marks (sm1 k (fun c => (Z c).length) c) (Z c).length else Z c
theorem mkF_at {k : Int} {L : Nat → Nat} {F : Nat → Nat → Nat → Int} {C c : Nat} (h : c < C) : mkF k L F C c = mk2 (sm2 k L c) := if_pos h
theorem mkZ_at {k : Int} {Z : Nat → List Int} {R c : Nat} (h : c < R) : mkZ k Z R c = marks (sm1 k (fun c => (Z c).length) c) (Z c).length := if_pos h
theorem mkF_ne {k : Int} {L : Nat → Nat} {F : Nat → Nat → Nat → Int} {C c : Nat} (h : c ≠ C) : mkF k L F (C + 1) c = mkF k L F C c := by
  unfold mkF
  by_cases q : c < C
  · rw [if_pos q, if_pos (by omega)]
  · rw [if_neg q, if_neg (by omega)]
theorem mkZ_ne {k : Int} {Z : Nat → List Int} {R c : Nat} (h : c ≠ R) : mkZ k Z (R + 1) c = mkZ k Z R c := by
  unfold mkZ
  by_cases q : c < R
  · rw [if_pos q, if_pos (by omega)]
  · rw [if_neg q, if_neg (by omega)]
theorem mkZ_len {k : Int} {Z : Nat → List Int} {R : Nat} (c : Nat) : (mkZ k Z R c).length = (Z c).length := by
  unfold mkZ
  by_cases q : c < R
  · rw [if_pos q, marks_length]
  · rw [if_neg q]

/-- blocks of rows -/
def Sq (base : Nat) (tag : Nat → Nat) : Nat → Prop := fun b => base ≤ b ∧ tag b ≠ 100000

theorem Ta.retag {w : World} {base : Nat} {mv bv rv : Value} {zs : List Int} {C : Nat} {L : Nat → Nat} {F : Nat → Nat → Nat → Int} {R : Nat} {Z : Nat → List Int} {vb vr : Nat → Value} {tag tag' : Nat → Nat} (h : Ta w base mv bv rv zs C L F R Z vb vr tag) (hr : ∀ g, g < w.heap.size → tag' g = tag g) : Ta w base mv bv rv zs C L F R Z vb vr tag' :=
  ⟨h.ms, h.mb.retag (fun g hg e => (hr g hg).trans e), h.bs, h.bb.retag (fun g hg e => (hr g hg).trans e), h.rs, h.rb.retag (fun g hg e => (hr g hg).trans e), h.bi, fun c hc => (h.bI c hc).retag (fun g hg e => (hr g hg).trans e), h.ri, fun c hc => (h.rI c hc).retag (fun g hg e => (hr g hg).trans e)⟩

theorem Ta.chgM {w w' : World} {base : Nat} {mv bv rv : Value} {zs zs' : List Int} {C : Nat} {L : Nat → Nat} {F : Nat → Nat → Nat → Int} {R : Nat} {Z : Nat → List Int} {vb vr : Nat → Value} {tag : Nat → Nat} (h : Ta w base mv bv rv zs C L F R Z vb vr tag) (hc : Chg (Tg base tag 0) w w') (hs : Sl w' mv zs') (hl : zs'.length = zs.length) : Ta w' base mv bv rv zs' C L F R Z vb vr tag := by
  have ne : ∀ t, t ≠ 0 → ∀ b, Tg base tag 0 b → tag b ≠ t := fun t ht b hb => by rw [hb.2]; exact fun q => ht q.symm
  exact ⟨hs, by rw [hl]; exact h.mb.chg hc, h.bs.chg h.bb hc (ne _ (by omega)), h.bb.chg hc, h.rs.chg h.rb hc (ne _ (by omega)), h.rb.chg hc, fun c hcc => (h.bi c hcc).chg (by decide) (h.bI c hcc) hc (ne _ (by omega)), fun c hcc => (h.bI c hcc).chg hc, fun c hcc => (h.ri c hcc).chg (h.rI c hcc) hc (ne _ (by omega)), fun c hcc => (h.rI c hcc).chg hc⟩

theorem Ta.chgB {w w' : World} {base : Nat} {mv bv rv : Value} {zs : List Int} {C : Nat} {L : Nat → Nat} {F F' : Nat → Nat → Nat → Int} {R : Nat} {Z : Nat → List Int} {vb vr : Nat → Value} {tag : Nat → Nat} {c : Nat} (h : Ta w base mv bv rv zs C L F R Z vb vr tag) (hc : Chg (Tg base tag (3 + 2 * c)) w w') (hs : Sr w' (vb c) 2 (L c) (F' c)) (hF : ∀ c', c' ≠ c → F' c' = F c') : Ta w' base mv bv rv zs C L F' R Z vb vr tag := by
  have ne : ∀ t, t ≠ 3 + 2 * c → ∀ b, Tg base tag (3 + 2 * c) b → tag b ≠ t := fun t ht b hb => by rw [hb.2]; exact fun q => ht q.symm
  refine ⟨h.ms.chg h.mb hc (ne _ (by omega)), h.mb.chg hc, h.bs.chg h.bb hc (ne _ (by omega)), h.bb.chg hc, h.rs.chg h.rb hc (ne _ (by omega)), h.rb.chg hc, fun c' hcc => ?_, fun c hcc => (h.bI c hcc).chg hc, fun c' hcc => (h.ri c' hcc).chg (h.rI c' hcc) hc (ne _ (by omega)), fun c hcc => (h.rI c hcc).chg hc⟩
  by_cases q : c' = c
  · subst q; exact hs
  · rw [hF c' q]; exact (h.bi c' hcc).chg (by decide) (h.bI c' hcc) hc (ne _ (by omega))

theorem Ta.chgR {w w' : World} {base : Nat} {mv bv rv : Value} {zs : List Int} {C : Nat} {L : Nat → Nat} {F : Nat → Nat → Nat → Int} {R : Nat} {Z Z' : Nat → List Int} {vb vr : Nat → Value} {tag : Nat → Nat} {c : Nat} (h : Ta w base mv bv rv zs C L F R Z vb vr tag) (hc : Chg (Tg base tag (4 + 2 * c)) w w') (hs : Sl w' (vr c) (Z' c)) (hZ : ∀ c', c' ≠ c → Z' c' = Z c') (hl : ∀ c', (Z' c').length = (Z c').length) : Ta w' base mv bv rv zs C L F R Z' vb vr tag := by
  have ne : ∀ t, t ≠ 4 + 2 * c → ∀ b, Tg base tag (4 + 2 * c) b → tag b ≠ t := fun t ht b hb => by rw [hb.2]; exact fun q => ht q.symm
  refine ⟨h.ms.chg h.mb hc (ne _ (by omega)), h.mb.chg hc, h.bs.chg h.bb hc (ne _ (by omega)), h.bb.chg hc, h.rs.chg h.rb hc (ne _ (by omega)), h.rb.chg hc, fun c' hcc => (h.bi c' hcc).chg (by decide) (h.bI c' hcc) hc (ne _ (by omega)), fun c hcc => (h.bI c hcc).chg hc, fun c' hcc => ?_, fun c' hcc => by rw [hl]; exact (h.rI c' hcc).chg hc⟩
  by_cases q : c' = c
  · subst q; exact hs
  · rw [hZ c' q]; exact (h.ri c' hcc).chg (h.rI c' hcc) hc (ne _ (by omega))

theorem mkB_ta {w : World} {base : Nat} {mv bv rv : Value} {zs : List Int} {C : Nat} {L : Nat → Nat} {F : Nat → Nat → Nat → Int} {R : Nat} {Z : Nat → List Int} {vb vr : Nat → Value} {tag : Nat → Nat} {k : Int} (ta : Ta w base mv bv rv zs C L F R Z vb vr tag) (h0 : 0 ≤ k) (h1 : k ≤ 1073741824) (hC : C ≤ 40) (hL : ∀ c, c < C → L c ≤ 1048576) :
    Calls Try.prog 38 #[bv, .int .i64 k] w fun e w' => e = .returned (.int .i64 (sm2 k L C)) ∧ Ta w' base mv bv rv zs C L (mkF k L F C) R Z vb vr tag ∧ Chg (Sq base tag) w w' := by
  refine mkB_gen bv C vb (sm2 k L) (fun c W => Ta W base mv bv rv zs C L (mkF k L F c) R Z vb vr tag ∧ Chg (Sq base tag) w W) w (by omega) ⟨?_, Chg.refl _ _⟩ (fun c W hc h => h.1.bs) (fun c W hc h => ?_) (Fm.of_svs ta.bs)
  · have e : mkF k L F 0 = F := by funext c; exact if_neg (by omega)
    rw [e]; exact ta
  · have g1 := sm2_ge k L c
    have g2 := sm2_le k L C hL c (by omega)
    refine (mkS_any (Fm.of_sr (h.1.bi c hc)) (h.1.bI c hc) (by omega) (by omega) (hL c hc)).mono ?_
    rintro e W' ⟨rfl, hch, hsr⟩
    refine ⟨rfl, h.1.chgB hch (by rw [mkF_at (by omega)]; exact hsr) (fun c' q => mkF_ne q), h.2.trans (hch.mono (fun b hb => ⟨hb.1, by rw [hb.2]; omega⟩))⟩

theorem mkR_ta {w : World} {base : Nat} {mv bv rv : Value} {zs : List Int} {C : Nat} {L : Nat → Nat} {F : Nat → Nat → Nat → Int} {R : Nat} {Z : Nat → List Int} {vb vr : Nat → Value} {tag : Nat → Nat} {k : Int} (ta : Ta w base mv bv rv zs C L F R Z vb vr tag) (h0 : 0 ≤ k) (h1 : k ≤ 1073741824) (hR : R ≤ 40) (hZ : ∀ c, c < R → (Z c).length ≤ 1048576) :
    Calls Try.prog 39 #[rv, .int .i64 k] w fun e w' => e = .returned (.int .i64 (sm1 k (fun c => (Z c).length) R)) ∧ Ta w' base mv bv rv zs C L F R (mkZ k Z R) vb vr tag ∧ Chg (Sq base tag) w w' := by
  refine mkR_gen rv R vr (sm1 k (fun c => (Z c).length)) (fun c W => Ta W base mv bv rv zs C L F R (mkZ k Z c) vb vr tag ∧ Chg (Sq base tag) w W) w (by omega) ⟨?_, Chg.refl _ _⟩ (fun c W hc h => h.1.rs) (fun c W hc h => ?_) (Fm.of_svs ta.rs)
  · have e : mkZ k Z 0 = Z := by funext c; exact if_neg (by omega)
    rw [e]; exact ta
  · have g1 := sm1_ge k (fun c => (Z c).length) c
    have g2 := sm1_le k (fun c => (Z c).length) R hZ c (by omega)
    have hf := Fm.of_sl (h.1.ri c hc)
    have hb := h.1.rI c hc
    rw [mkZ_len] at hf hb
    refine (mkI_any hf hb (by omega) (by omega) (hZ c hc)).mono ?_
    rintro e W' ⟨rfl, hch, hsr⟩
    refine ⟨rfl, h.1.chgR hch (by rw [mkZ_at (by omega)]; exact hsr) (fun c' q => mkZ_ne q) (fun c' => by rw [mkZ_len, mkZ_len]), h.2.trans (hch.mono (fun b hb => ⟨hb.1, by rw [hb.2]; omega⟩))⟩

/-- the last number -/
def mkK (k : Int) (n C : Nat) (L : Nat → Nat) (R : Nat) (Z : Nat → List Int) : Int := sm1 (sm2 (k + n) L C) (fun c => (Z c).length) R
theorem mkK_ge (k : Int) (n C : Nat) (L : Nat → Nat) (R : Nat) (Z : Nat → List Int) : k ≤ mkK k n C L R Z := by
  have := sm2_ge (k + n) L C
  have := sm1_ge (sm2 (k + n) L C) (fun c => (Z c).length) R
  unfold mkK
  omega

theorem markTso_ta {w : World} {base : Nat} {mv bv rv : Value} {zs : List Int} {C : Nat} {L : Nat → Nat} {F : Nat → Nat → Nat → Int} {R : Nat} {Z : Nat → List Int} {vb vr : Nat → Value} {tag : Nat → Nat} {k : Int} (ta : Ta w base mv bv rv zs C L F R Z vb vr tag) (h0 : 0 ≤ k) (h1 : k ≤ 1048576) (hn : zs.length ≤ 1048576) (hC : C ≤ 40) (hL : ∀ c, c < C → L c ≤ 1048576) (hR : R ≤ 40) (hZ : ∀ c, c < R → (Z c).length ≤ 1048576) :
    Calls Try.prog 17 #[.agg #[mv, bv, rv], .int .i64 k] w fun e w' => e = .returned (.int .i64 (mkK k zs.length C L R Z)) ∧ (∃ tag', Ta w' base mv bv rv (marks k zs.length) C L (mkF (k + zs.length) L F C) R (mkZ (sm2 (k + zs.length) L C) Z R) vb vr tag') ∧ Chg (base ≤ ·) w w' := by
  obtain ⟨tag', hlo, hhi⟩ : ∃ tag' : Nat → Nat, (∀ g, g < w.heap.size → tag' g = tag g) ∧ ∀ g, w.heap.size ≤ g → tag' g = 100000 := ⟨fun g => if g < w.heap.size then tag g else 100000, fun g hg => if_pos hg, fun g hg => if_neg (by omega)⟩
  have hB0 : Below w.heap.size w (w.alloc (.cells #[mv, bv, rv] 37)) := (Below.refl _ _).alloc (Nat.le_refl _) _
  have t0 := (ta.retag hlo).below hB0
  have g2 := sm2_ge (k + zs.length) L C
  have g3 := sm2_le (k + zs.length) L C hL C (Nat.le_refl _)
  have bx : ∀ W, Chg (Sq base tag') (w.alloc (.cells #[mv, bv, rv] 37)) W → W.heap[w.heap.size]? = some (.cells #[mv, bv, rv] 37 (0, 0)) := fun W hc =>
    (hc.block w.heap.size (by simp) (fun q => q.2 (hhi _ (Nat.le_refl _)))).trans (heap_alloc_new _ _)
  refine (markTso_gen mv bv rv k (k + zs.length) (sm2 (k + zs.length) L C) (mkK k zs.length C L R Z) w
    (fun W => Ta W base mv bv rv (marks k zs.length) C L F R Z vb vr tag' ∧ Chg (Sq base tag') (w.alloc (.cells #[mv, bv, rv] 37)) W)
    (fun W => Ta W base mv bv rv (marks k zs.length) C L (mkF (k + zs.length) L F C) R Z vb vr tag' ∧ Chg (Sq base tag') (w.alloc (.cells #[mv, bv, rv] 37)) W)
    (fun W => Ta W base mv bv rv (marks k zs.length) C L (mkF (k + zs.length) L F C) R (mkZ (sm2 (k + zs.length) L C) Z R) vb vr tag' ∧ Chg (Sq base tag') (w.alloc (.cells #[mv, bv, rv] 37)) W) ?_ ?_ ?_ (fun W h => bx W h.2) (fun W h => bx W h.2)).mono ?_
  · refine (mkI_any (Fm.of_sl t0.ms) t0.mb h0 (by omega) hn).mono ?_
    rintro e W ⟨rfl, hc, hs⟩
    exact ⟨rfl, t0.chgM hc hs (marks_length _ _), hc.mono (fun b hb => ⟨hb.1, by rw [hb.2]; omega⟩)⟩
  · intro W h
    refine (mkB_ta h.1 (by omega) (by omega) hC hL).mono ?_
    rintro e W' ⟨rfl, ht, hc⟩
    exact ⟨rfl, ht, h.2.trans hc⟩
  · intro W h
    refine (mkR_ta h.1 (by omega) (by omega) hR hZ).mono ?_
    rintro e W' ⟨rfl, ht, hc⟩
    exact ⟨rfl, ht, h.2.trans hc⟩
  · rintro e w' ⟨rfl, ht, hc⟩
    exact ⟨rfl, ⟨tag', ht⟩, ((Chg.refl _ w).alloc _).trans (hc.mono (fun b hb => hb.1))⟩

theorem heldTso_ta {w : World} {base : Nat} {mv bv rv : Value} {n C : Nat} {L : Nat → Nat} {F : Nat → Nat → Nat → Int} {R : Nat} {Z : Nat → List Int} {vb vr : Nat → Value} {tag : Nat → Nat} {k : Int} (ta : Ta w base mv bv rv (marks k n) C L (mkF (k + n) L F C) R (mkZ (sm2 (k + n) L C) Z R) vb vr tag) (h0 : 0 ≤ k) (h1 : k ≤ 1048576) (hn : n ≤ 1048576) (hC : C ≤ 40) (hL : ∀ c, c < C → L c ≤ 1048576) (hR : R ≤ 40) (hZ : ∀ c, c < R → (Z c).length ≤ 1048576) :
    Calls Try.prog 18 #[.agg #[mv, bv, rv], .int .i64 k] w fun e w' => e = .returned (.int .i64 (mkK k n C L R Z)) ∧ Below w.heap.size w w' := by
  have g2 := sm2_ge (k + n) L C
  have g3 := sm2_le (k + n) L C hL C (Nat.le_refl _)
  have g4 := mkK_ge k n C L R Z
  refine heldTso_gen mv bv rv k (k + n) (sm2 (k + n) L C) (mkK k n C L R Z) w (by omega) (by omega) (by omega) (fun W hb => ?_) (fun W hb => ?_) (fun W hb => ?_)
  · exact held_any mv n k W h0 (by omega) (ta.below hb).ms hn
  · have tb := ta.below hb
    refine hdB_gen bv C vb (sm2 (k + n) L) W (by omega) tb.bs (fun c => by have := sm2_ge (k + n) L c; omega) (fun c hc => ?_)
    have q1 := sm2_ge (k + n) L c
    have q2 := sm2_le (k + n) L C hL c (by omega)
    have q3 := tb.bi c hc
    rw [mkF_at hc] at q3
    exact hdS_any (vb c) (L c) (sm2 (k + n) L c) W (by omega) (by omega) q3 (hL c hc)
  · have tb := ta.below hb
    refine hdR_gen rv R vr (sm1 (sm2 (k + n) L C) (fun c => (Z c).length)) W (by omega) tb.rs (fun c => by have := sm1_ge (sm2 (k + n) L C) (fun c => (Z c).length) c; omega) (fun c hc => ?_)
    have q1 := sm1_ge (sm2 (k + n) L C) (fun c => (Z c).length) c
    have q2 := sm1_le (sm2 (k + n) L C) (fun c => (Z c).length) R hZ c (by omega)
    have q3 := tb.ri c hc
    rw [mkZ_at hc] at q3
    exact held_any (vr c) (Z c).length _ W (by omega) (by omega) q3 (hZ c hc)

/-- a Tso that may be marked: all rows of one tag -/
structure Um (w : World) (base : Nat) (mv bv rv : Value) (n C : Nat) (L : Nat → Nat) (R : Nat) (M : Nat → Nat) (vb vr : Nat → Value) (tag : Nat → Nat) : Prop where
  mf : Fm mv n
  mb : Bk w base mv n tag 0
  bs : Svs w bv C vb
  bb : Bk w base bv C tag 1
  rs : Svs w rv R vr
  rb : Bk w base rv R tag 2
  bf : ∀ c, c < C → Fm (vb c) (L c)
  bI : ∀ c, c < C → Bk w base (vb c) (L c * 2) tag 0
  rf : ∀ c, c < R → Fm (vr c) (M c)
  rI : ∀ c, c < R → Bk w base (vr c) (M c) tag 0
theorem Um.chg {S : Nat → Prop} {w w' : World} {base : Nat} {mv bv rv : Value} {n C : Nat} {L : Nat → Nat} {R : Nat} {M : Nat → Nat} {vb vr : Nat → Value} {tag : Nat → Nat} (h : Um w base mv bv rv n C L R M vb vr tag) (hc : Chg S w w') (hS : ∀ b, S b → tag b = 0) : Um w' base mv bv rv n C L R M vb vr tag := by
  have ne : ∀ t, t ≠ 0 → ∀ b, S b → tag b ≠ t := fun t ht b hb => by rw [hS b hb]; exact fun q => ht q.symm
  exact ⟨h.mf, h.mb.chg hc, h.bs.chg h.bb hc (ne _ (by omega)), h.bb.chg hc, h.rs.chg h.rb hc (ne _ (by omega)), h.rb.chg hc, h.bf, fun c hcc => (h.bI c hcc).chg hc, h.rf, fun c hcc => (h.rI c hcc).chg hc⟩
theorem Um.below {w w' : World} {base : Nat} {mv bv rv : Value} {n C : Nat} {L : Nat → Nat} {R : Nat} {M : Nat → Nat} {vb vr : Nat → Value} {tag : Nat → Nat} (h : Um w base mv bv rv n C L R M vb vr tag) (hb : Below w.heap.size w w') : Um w' base mv bv rv n C L R M vb vr tag :=
  h.chg (S := fun _ => False) ⟨hb.os, hb.tape, hb.output, hb.size, fun j hj _ => hb.block j hj, fun j len hw => hw.below hb⟩ (fun b hb => hb.elim)

theorem markTso_um {w : World} {base : Nat} {mv bv rv : Value} {n C : Nat} {L : Nat → Nat} {R : Nat} {M : Nat → Nat} {vb vr : Nat → Value} {tag : Nat → Nat} {k : Int} (um : Um w base mv bv rv n C L R M vb vr tag) (hq : ∀ g, w.heap.size ≤ g → tag g = 100) (h0 : 0 ≤ k) (h1 : k ≤ 1048576) (hn : n ≤ 1048576) (hC : C ≤ 1048576) (hL : ∀ c, c < C → L c ≤ 1048576) (hR : R ≤ 1048576) (hZ : ∀ c, c < R → M c ≤ 1048576) :
    Calls Try.prog 17 #[.agg #[mv, bv, rv], .int .i64 k] w fun e w' => (∃ k', 0 ≤ k' ∧ e = .returned (.int .i64 k')) ∧ Chg (Tg base tag 0) w w' := by
  have hB0 : Below w.heap.size w (w.alloc (.cells #[mv, bv, rv] 37)) := (Below.refl _ _).alloc (Nat.le_refl _) _
  have t0 := um.below hB0
  have g2 := sm2_ge (k + n) L C
  have g3 := sm2_le (k + n) L C hL C (Nat.le_refl _)
  have g4 := sm1_ge (sm2 (k + n) L C) M R
  have bx : ∀ W, Chg (Tg base tag 0) (w.alloc (.cells #[mv, bv, rv] 37)) W → W.heap[w.heap.size]? = some (.cells #[mv, bv, rv] 37 (0, 0)) := fun W hc =>
    (hc.block w.heap.size (by simp) (fun q => by have := hq _ (Nat.le_refl _); have := q.2; omega)).trans (heap_alloc_new _ _)
  have hh : ∀ W, Chg (Tg base tag 0) (w.alloc (.cells #[mv, bv, rv] 37)) W → Um W base mv bv rv n C L R M vb vr tag := fun W hc => t0.chg hc (fun b hb => hb.2)
  refine (markTso_gen mv bv rv k (k + n) (sm2 (k + n) L C) (sm1 (sm2 (k + n) L C) M R) w
    (fun W => Chg (Tg base tag 0) (w.alloc (.cells #[mv, bv, rv] 37)) W) (fun W => Chg (Tg base tag 0) (w.alloc (.cells #[mv, bv, rv] 37)) W) (fun W => Chg (Tg base tag 0) (w.alloc (.cells #[mv, bv, rv] 37)) W) ?_ ?_ ?_ bx bx).mono ?_
  · refine (mkI_any t0.mf t0.mb h0 (by omega) hn).mono ?_
    rintro e W ⟨rfl, hc, hs⟩
    exact ⟨rfl, hc⟩
  · intro W h
    refine mkB_gen bv C vb (sm2 (k + n) L) (fun c W => Chg (Tg base tag 0) (w.alloc (.cells #[mv, bv, rv] 37)) W) W hC h (fun c W hc h => (hh W h).bs) (fun c W hc h => ?_) (Fm.of_svs um.bs)
    have q1 := sm2_ge (k + n) L c
    have q2 := sm2_le (k + n) L C hL c (by omega)
    refine (mkS_any ((hh W h).bf c hc) ((hh W h).bI c hc) (by omega) (by omega) (hL c hc)).mono ?_
    rintro e W' ⟨rfl, hch, _⟩
    exact ⟨rfl, h.trans hch⟩
  · intro W h
    refine mkR_gen rv R vr (sm1 (sm2 (k + n) L C) M) (fun c W => Chg (Tg base tag 0) (w.alloc (.cells #[mv, bv, rv] 37)) W) W hR h (fun c W hc h => (hh W h).rs) (fun c W hc h => ?_) (Fm.of_svs um.rs)
    have q1 := sm1_ge (sm2 (k + n) L C) M c
    have q2 := sm1_le (sm2 (k + n) L C) M R hZ c (by omega)
    refine (mkI_any ((hh W h).rf c hc) ((hh W h).rI c hc) (by omega) (by omega) (hZ c hc)).mono ?_
    rintro e W' ⟨rfl, hch, _⟩
    exact ⟨rfl, h.trans hch⟩
  · rintro e w' ⟨rfl, hc⟩
    exact ⟨⟨_, by omega, rfl⟩, ((Chg.refl _ w).alloc _).trans hc⟩

/-- a change ahead of it -/
theorem Ta.chg0 {S : Nat → Prop} {w w' : World} {base : Nat} {mv bv rv : Value} {zs : List Int} {C : Nat} {L : Nat → Nat} {F : Nat → Nat → Nat → Int} {R : Nat} {Z : Nat → List Int} {vb vr : Nat → Value} {tag : Nat → Nat} (h : Ta w base mv bv rv zs C L F R Z vb vr tag) (hc : Chg S w w') (hS : ∀ b, S b → b < base) : Ta w' base mv bv rv zs C L F R Z vb vr tag := by
  have hl : ∀ {v : Value} {zs : List Int} {t : Nat}, Sl w v zs → Bk w base v zs.length tag t → Sl w' v zs := fun {v zs t} hs hb => by
    obtain ⟨ad, cap, rfl, hs⟩ := hs
    refine ⟨ad, cap, rfl, fun hp => ?_⟩
    obtain ⟨b, off, rfl, hcc⟩ := hs hp
    obtain ⟨h1, hw, _⟩ := hb b off _ cap rfl hp
    exact ⟨b, off, rfl, fun j hj => hc.cell (fun s => by have := hS b s; omega) (hcc j hj)⟩
  have hv : ∀ {v : Value} {n : Nat} {f : Nat → Value} {t : Nat}, Svs w v n f → Bk w base v n tag t → Svs w' v n f := fun {v n f t} hs hb => by
    obtain ⟨ad, cap, rfl, hs⟩ := hs
    refine ⟨ad, cap, rfl, fun hp => ?_⟩
    obtain ⟨b, off, rfl, hcc⟩ := hs hp
    obtain ⟨h1, hw, _⟩ := hb b off _ cap rfl hp
    exact ⟨b, off, rfl, fun j hj => hc.cell (fun s => by have := hS b s; omega) (hcc j hj)⟩
  refine ⟨hl h.ms h.mb, h.mb.chg hc, hv h.bs h.bb, h.bb.chg hc, hv h.rs h.rb, h.rb.chg hc, fun c hcc => ?_, fun c hcc => (h.bI c hcc).chg hc, fun c hcc => hl (h.ri c hcc) (h.rI c hcc), fun c hcc => (h.rI c hcc).chg hc⟩
  obtain ⟨ad, cap, e, hs⟩ := h.bi c hcc
  refine ⟨ad, cap, e, fun hp => ?_⟩
  obtain ⟨b, off, e2, hd⟩ := hs hp
  obtain ⟨h1, hw, _⟩ := h.bI c hcc b off _ cap (by rw [e, e2]) (by omega)
  exact ⟨b, off, e2, fun j hj i hi => hc.cell (fun s => by have := hS b s; omega) (hd j hj i hi)⟩

end Go.Proofs.Ytcocobmanlmjdaa
