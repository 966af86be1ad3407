/- the answer of an act, whatever the Tso is; what the law's walk keeps -/
import Derived.Test.YtcocobmanlmjdaaTmE
namespace Go.Proofs.Ytcocobmanlmjdaa
open Go.RowKit
set_option linter.unusedVariables false
set_option linter.unusedSimpArgs false

def zD : Td := ⟨[], fun _ => 0, fun _ _ _ => 0, fun _ => []⟩
def aD (d : Td) (C R : Nat) (k co va vl rg : Int) : Td := if tokB d.zs C d.L d.F R d.Z = true then nxt d C k co va vl rg else zD
def aC (d : Td) (C R : Nat) : Nat := if tokB d.zs C d.L d.F R d.Z = true then C else 0
def aK (d : Td) (C R : Nat) (k co va vl rg : Int) : Int := if tokB d.zs C d.L d.F R d.Z = true then okc d C k co va vl rg else 1

theorem nil_ta (w : World) (base : Nat) : TaD w base nil3 nil3 nil3 zD 0 (fun _ => nil3) (fun _ => nil3) (fun _ => 0) :=
  ⟨⟨none, 0, rfl, fun h => absurd h (by simp [zD])⟩, fun g off n cap e hk => absurd hk (by simp [zD]), ⟨none, 0, rfl, fun h => absurd h (by omega)⟩, fun g off n cap e hk => absurd hk (by omega), ⟨none, 0, rfl, fun h => absurd h (by omega)⟩, fun g off n cap e hk => absurd hk (by omega),
    fun c hc => absurd hc (by omega), fun c hc => absurd hc (by omega), fun c hc => absurd hc (by omega), fun c hc => absurd hc (by omega)⟩

theorem do_all {d : Td} {C R : Nat} {k co va vl rg : Int} {w w' : World} {e : Ending} (h : DoPost d C R k co va vl rg w e w') :
    ∃ m b r vb vr tag, e = .returned (.tuple #[.agg #[m, b, r], .int .i64 (aK d C R k co va vl rg)]) ∧ TaD w' w.heap.size m b r (aD d C R k co va vl rg) (aC d C R) vb vr tag ∧ Below w.heap.size w w' := by
  rcases h with ⟨hx, rfl, hb⟩ | ⟨hx, m, b, r, vb, vr, tag, rfl, ta, hb⟩
  · refine ⟨nil3, nil3, nil3, fun _ => nil3, fun _ => nil3, fun _ => 0, ?_, ?_, hb⟩
    · simp [aK, hx]
    · have e1 : aD d C R k co va vl rg = zD := by simp [aD, hx]
      have e2 : aC d C R = 0 := by simp [aC, hx]
      rw [e1, e2]
      exact nil_ta _ _
  · refine ⟨m, b, r, vb, vr, tag, ?_, ?_, hb⟩
    · simp [aK, hx]
    · have e1 : aD d C R k co va vl rg = nxt d C k co va vl rg := by simp [aD, hx]
      have e2 : aC d C R = C := by simp [aC, hx]
      rw [e1, e2]
      exact ta

theorem nxt_small (d : Td) (C : Nat) (k co va vl rg : Int) : (nxt d C k co va vl rg).zs.length = d.zs.length ∧ (∀ c, (nxt d C k co va vl rg).L c ≤ d.L c + 1) ∧ ∀ c, ((nxt d C k co va vl rg).Z c).length = (d.Z c).length := by
  unfold nxt
  split
  · exact ⟨rfl, fun c => by omega, fun c => rfl⟩
  split
  · refine ⟨rfl, fun c => ?_, fun c => rfl⟩
    by_cases q : c = co.toNat
    · subst q; simp only [upd_at]; omega
    · simp only [upd_ne q]; omega
  split
  · refine ⟨rfl, fun c => by simp only; omega, fun c => ?_⟩
    by_cases q : c = co.toNat
    · subst q; simp only [upd_at, List.length_set]
    · simp only [upd_ne q]
  split
  · exact ⟨rfl, fun c => by omega, fun c => rfl⟩
  · refine ⟨by simp, fun c => ?_, fun c => rfl⟩
    by_cases q : c = co.toNat
    · subst q; simp only [upd_at]; omega
    · simp only [upd_ne q]; omega

/-- few and short -/
structure Sml (d : Td) (C : Nat) : Prop where
  zs : d.zs.length ≤ 1048576
  c : C ≤ 40
  l : ∀ c, c < C → d.L c ≤ 1048576
  z : ∀ c, c < C → (d.Z c).length ≤ 1048576
theorem Sml.tl {d : Td} {C : Nat} (h : Sml d C) : Tl d.zs C d.L C d.Z := ⟨h.zs, ⟨by have := h.c; omega, h.l⟩, by have := h.c; omega, h.z⟩
theorem aD_small (d : Td) (C R : Nat) (k co va vl rg : Int) : Sml (aD d C R k co va vl rg) (aC d C R) := by
  cases hx : tokB d.zs C d.L d.F R d.Z
  · have e1 : aD d C R k co va vl rg = zD := by simp [aD, hx]
    have e2 : aC d C R = 0 := by simp [aC, hx]
    rw [e1, e2]
    exact ⟨by simp [zD], by omega, fun c hc => absurd hc (by omega), fun c hc => absurd hc (by omega)⟩
  · have e1 : aD d C R k co va vl rg = nxt d C k co va vl rg := by simp [aD, hx]
    have e2 : aC d C R = C := by simp [aC, hx]
    rw [e1, e2]
    obtain ⟨h1, h2, h3, _, h5⟩ := tok_parts hx
    obtain ⟨n1, n2, n3⟩ := nxt_small d C k co va vl rg
    exact ⟨by omega, by omega, fun c hc => by have := n2 c; have := (h5 c hc).1; omega, fun c hc => by have := n3 c; have := (h5 c hc).2.2.1; omega⟩

/-- a Tso of one's own marked; what lies behind the blocks of its tags stays -/
theorem markTso_tb {w : World} {base : Nat} {mv bv rv : Value} {zs : List Int} {C : Nat} {L : Nat → Nat} {F : Nat → Nat → Nat → Int} {R : Nat} {Z : Nat → List Int} {vb vr : Nat → Value} {tag : Nat → Nat} {k : Int} (ta : Ta w base mv bv rv zs C L F R Z vb vr tag) (hhi : ∀ g, w.heap.size ≤ g → tag g = 100000) (h0 : 0 ≤ k) (h1 : k ≤ 1048576) (hn : zs.length ≤ 1048576) (hC : C ≤ 40) (hL : ∀ c, c < C → L c ≤ 1048576) (hR : R ≤ 40) (hZ : ∀ c, c < R → (Z c).length ≤ 1048576) :
    Calls Try.prog 17 #[.agg #[mv, bv, rv], .int .i64 k] w fun e w' => e = .returned (.int .i64 (mkK k zs.length C L R Z)) ∧ Ta w' base mv bv rv (marks k zs.length) C L (mkF (k + zs.length) L F C) R (mkZ (sm2 (k + zs.length) L C) Z R) vb vr tag ∧ Chg (Sq base tag) w w' := by
  have hB0 : Below w.heap.size w (w.alloc (.cells #[mv, bv, rv] 37)) := (Below.refl _ _).alloc (Nat.le_refl _) _
  have t0 := ta.below hB0
  have g2 := sm2_ge (k + zs.length) L C
  have g3 := sm2_le (k + zs.length) L C hL C (Nat.le_refl _)
  have bx : ∀ W, Chg (Sq base tag) (w.alloc (.cells #[mv, bv, rv] 37)) W → W.heap[w.heap.size]? = some (.cells #[mv, bv, rv] 37 (0, 0)) := fun W hc =>
    (hc.block w.heap.size (by simp) (fun q => q.2 (hhi _ (Nat.le_refl _)))).trans (heap_alloc_new _ _)
  refine (markTso_gen mv bv rv k (k + zs.length) (sm2 (k + zs.length) L C) (mkK k zs.length C L R Z) w
    (fun W => Ta W base mv bv rv (marks k zs.length) C L F R Z vb vr tag ∧ Chg (Sq base tag) (w.alloc (.cells #[mv, bv, rv] 37)) W)
    (fun W => Ta W base mv bv rv (marks k zs.length) C L (mkF (k + zs.length) L F C) R Z vb vr tag ∧ Chg (Sq base tag) (w.alloc (.cells #[mv, bv, rv] 37)) W)
    (fun W => Ta W base mv bv rv (marks k zs.length) C L (mkF (k + zs.length) L F C) R (mkZ (sm2 (k + zs.length) L C) Z R) vb vr tag ∧ Chg (Sq base tag) (w.alloc (.cells #[mv, bv, rv] 37)) W) ?_ ?_ ?_ (fun W h => bx W h.2) (fun W h => bx W h.2)).mono ?_
  · refine (mkI_any (Fm.of_sl t0.ms) t0.mb h0 (by omega) hn).mono ?_
    rintro e W ⟨rfl, hc, hs⟩
    exact ⟨rfl, t0.chgM hc hs (marks_length _ _), hc.mono (fun b hb => ⟨hb.1, by rw [hb.2]; omega⟩)⟩
  · intro W h
    refine (mkB_ta h.1 (by omega) (by omega) hC hL).mono ?_
    rintro e W' ⟨rfl, ht, hc⟩
    exact ⟨rfl, ht, h.2.trans hc⟩
  · intro W h
    refine (mkR_ta h.1 (by omega) (by omega) hR hZ).mono ?_
    rintro e W' ⟨rfl, ht, hc⟩
    exact ⟨rfl, ht, h.2.trans hc⟩
  · rintro e w' ⟨rfl, ht, hc⟩
    exact ⟨rfl, ht, ((Chg.refl _ w).alloc _).trans hc⟩

/-- a box made empty and then filled -/
theorem boxed (V : World) (m b r : Value) (T : TypeId) : Below V.heap.size V ((((V.alloc (.cells #[nil3, nil3, nil3] T)).setCell ⟨V.heap.size, 0, none⟩ m).setCell ⟨V.heap.size, 1, none⟩ b).setCell ⟨V.heap.size, 2, none⟩ r) ∧
    ((((V.alloc (.cells #[nil3, nil3, nil3] T)).setCell ⟨V.heap.size, 0, none⟩ m).setCell ⟨V.heap.size, 1, none⟩ b).setCell ⟨V.heap.size, 2, none⟩ r).heap[V.heap.size]? = some (.cells #[m, b, r] T (0, 0)) := by
  refine ⟨(((((Below.refl _ V).alloc (Nat.le_refl _) _).setCell (Nat.le_refl _) _).setCell (Nat.le_refl _) _).setCell (Nat.le_refl _) _), ?_⟩
  have h0 := heap_alloc_new V (.cells #[nil3, nil3, nil3] T)
  have h1 := heap_setCell_same _ V.heap.size 0 _ _ m h0
  have h2 := heap_setCell_same _ V.heap.size 1 _ _ b h1
  have h3 := heap_setCell_same _ V.heap.size 2 _ _ r h2
  rw [h3]
  rfl

theorem row5_facts {w : World} {B : Nat} {T : TypeId} {k c v x r : Int} (h : w.heap[B]? = some (.cells (five k c v x r) T (0, 0))) : w.cell? ⟨B, 0, none⟩ = some (.int .i64 k) ∧ w.cell? ⟨B, 1, none⟩ = some (.int .i64 c) ∧ w.cell? ⟨B, 2, none⟩ = some (.int .i64 v) ∧ w.cell? ⟨B, 3, none⟩ = some (.int .i64 x) ∧ w.cell? ⟨B, 4, none⟩ = some (.int .i64 r) :=
  ⟨(cell_of_row _ _ 0 _ _ _ h).trans rfl, (cell_of_row _ _ 1 _ _ _ h).trans rfl, (cell_of_row _ _ 2 _ _ _ h).trans rfl, (cell_of_row _ _ 3 _ _ _ h).trans rfl, (cell_of_row _ _ 4 _ _ _ h).trans rfl⟩

/-- both arguments in their boxes -/
theorem boxes2 (w : World) (m b r : Value) (k co va vl rg : Int) (T U : TypeId) : Below w.heap.size w ((w.alloc (.cells #[m, b, r] T)).alloc (.cells (five k co va vl rg) U)) ∧ ((w.alloc (.cells #[m, b, r] T)).alloc (.cells (five k co va vl rg) U)).heap[w.heap.size]? = some (.cells #[m, b, r] T (0, 0)) ∧ ((w.alloc (.cells #[m, b, r] T)).alloc (.cells (five k co va vl rg) U)).heap[w.heap.size + 1]? = some (.cells (five k co va vl rg) U (0, 0)) := by
  refine ⟨((Below.refl _ _).alloc (Nat.le_refl _) _).alloc (by simp) _, ?_, ?_⟩
  · rw [Below.heap_alloc _ _ _ (by simp)]; exact heap_alloc_new _ _
  · have := heap_alloc_new (w.alloc (.cells #[m, b, r] T)) (.cells (five k co va vl rg) U)
    simpa only [World.size_alloc] using this

end Go.Proofs.Ytcocobmanlmjdaa
