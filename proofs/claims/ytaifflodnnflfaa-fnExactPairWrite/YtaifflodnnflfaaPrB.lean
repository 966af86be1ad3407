/- pairs: measured, copied, compared, opened -/
import Derived.Test.YtaifflodnnflfaaPrA
import Derived.WalkKit
import Derived.ProofKit
import Derived.OpenShut
import Derived.ShutString
import Derived.ChangeOld
import Derived.Below
import Derived.OpenVars
import Derived.Deep.SlicePairs
namespace Go.Proofs.Ytaifflodnnflfaa
open Go.ChangeShapes Go.WideShapes Go.ChangeAt Go.WideMaps Go.WideElems Go.RowKit
set_option linter.unusedVariables false
set_option linter.unusedSimpArgs false

abbrev pq (L R : Value) (a b : Bool) : Array Value := #[L, R, .bool a, .bool b]
abbrev nilS : Value := .slice none 0 0
theorem row4_facts {w : World} {B : Nat} {T : TypeId} {v0 v1 v2 v3 : Value} (h : w.heap[B]? = some (.cells #[v0, v1, v2, v3] T (0, 0))) : (∀ i, w.frozen? ⟨B, i, none⟩ = false) ∧ w.cell? ⟨B, 0, none⟩ = some v0 ∧ w.cell? ⟨B, 1, none⟩ = some v1 ∧ w.cell? ⟨B, 2, none⟩ = some v2 ∧ w.cell? ⟨B, 3, none⟩ = some v3 :=
  ⟨fun i => frozen_of_row _ _ i _ _ h, (cell_of_row _ _ _ _ _ _ h).trans rfl, (cell_of_row _ _ _ _ _ _ h).trans rfl, (cell_of_row _ _ _ _ _ _ h).trans rfl, (cell_of_row _ _ _ _ _ _ h).trans rfl⟩
/-- the four cells of a box -/
def B4 (w : World) (B : Nat) (v0 v1 v2 v3 : Value) : Prop := w.cell? ⟨B, 0, none⟩ = some v0 ∧ w.cell? ⟨B, 1, none⟩ = some v1 ∧ w.cell? ⟨B, 2, none⟩ = some v2 ∧ w.cell? ⟨B, 3, none⟩ = some v3
theorem bx4 (w : World) (v0 v1 v2 v3 : Value) (T : TypeId) : B4 (w.alloc (.cells #[v0, v1, v2, v3] T)) w.heap.size v0 v1 v2 v3 := (row4_facts (heap_alloc_new w (.cells #[v0, v1, v2, v3] T))).2
theorem B4.below {w w' : World} {B : Nat} {v0 v1 v2 v3 : Value} (h : B4 w B v0 v1 v2 v3) (hb : Below w.heap.size w w') : B4 w' B v0 v1 v2 v3 := ⟨keepc hb h.1, keepc hb h.2.1, keepc hb h.2.2.1, keepc hb h.2.2.2⟩

theorem szI_no (sa : Option Addr) (sn sc : Nat) (left : Int) (w : World) (h0 : 0 ≤ left) (hm : left ≤ 1048576) (hL : (sn : Int) ≤ 9223372036854775807) (h : left < sn) :
    Calls Try.prog 26 #[.slice sa sn sc, .int .i64 left] w fun e w' => e = .returned (.int .i64 (-1)) ∧ w' = w := by
  have hw : wrap64 (left - (sn : Int)) = left - sn := Go.IntWalk.wrap64_in _ (by omega)
  have hd : decide (left - (sn : Int) < 0) = true := by simp; omega
  go_enter Try.func26, Try.ntmps26
  go_wp2
  go_ret
  exact ⟨rfl, rfl⟩
theorem szI_yes (sa : Option Addr) (sn sc : Nat) (left : Int) (w : World) (h0 : 0 ≤ left) (hm : left ≤ 1048576) (h : (sn : Int) ≤ left) :
    Calls Try.prog 26 #[.slice sa sn sc, .int .i64 left] w fun e w' => e = .returned (.int .i64 (left - sn)) ∧ w' = w := by
  have hw : wrap64 (left - (sn : Int)) = left - sn := Go.IntWalk.wrap64_in _ (by omega)
  have hd : decide (left - (sn : Int) < 0) = false := by simp; omega
  go_enter Try.func26, Try.ntmps26
  go_wp2
  go_ret
  exact ⟨rfl, rfl⟩

set_option maxHeartbeats 1000000 in
theorem szPair_any (L R : Value) (zl zr : List Int) (lu ru : Bool) (w : World) (hl : Sl w L zl) (hr : Sl w R zr) (hL : (zl.length : Int) ≤ 9223372036854775807) (hR : (zr.length : Int) ≤ 9223372036854775807) :
    Calls Try.prog 9 #[.agg (pq L R lu ru), .int .i64 1048576] w fun e w' => ∃ r : Int, e = .returned (.int .i64 r) ∧ (0 ≤ r → zl.length + zr.length ≤ 1048576) ∧ Below w.heap.size w w' := by
  obtain ⟨ad, ac, rfl, _⟩ := hl
  obtain ⟨bd, bc, rfl, _⟩ := hr
  have hB0 : Below w.heap.size w (w.alloc (.cells (pq (.slice ad zl.length ac) (.slice bd zr.length bc) lu ru) 24)) := (Below.refl _ _).alloc (Nat.le_refl _) _
  generalize zl.length = n at *
  generalize zr.length = m at *
  by_cases h : (1048576 : Int) < n
  · go_enter Try.func9, Try.ntmps9
    go_wp2_with fail
    refine (szI_no ad n ac 1048576 _ (by decide) (by decide) hL h).mono ?_
    rintro e w1 ⟨rfl, rfl⟩
    go_wp2
    go_ret
    exact ⟨-1, rfl, fun h => absurd h (by decide), hB0⟩
  · have h1 : (n : Int) ≤ 1048576 := by omega
    have hlt : decide ((1048576 : Int) - (n : Int) < 0) = false := by simp; omega
    by_cases h2 : (1048576 : Int) - n < m
    · go_enter Try.func9, Try.ntmps9
      go_wp2_with fail
      refine (szI_yes ad n ac 1048576 _ (by decide) (by decide) h1).mono ?_
      rintro e w1 ⟨rfl, rfl⟩
      go_wp2_with fail
      refine (szI_no bd m bc _ _ (by omega) (by omega) hR h2).mono ?_
      rintro e w1 ⟨rfl, rfl⟩
      go_wp2
      go_ret
      exact ⟨-1, rfl, fun h => absurd h (by decide), hB0⟩
    · have h3 : (m : Int) ≤ 1048576 - (n : Int) := by omega
      have hlt2 : decide ((1048576 : Int) - (n : Int) - (m : Int) < 0) = false := by simp; omega
      have hlt3 : ¬ ((1048576 : Int) - (n : Int) < (m : Int)) := by omega
      go_enter Try.func9, Try.ntmps9
      go_wp2_with fail
      refine (szI_yes ad n ac 1048576 _ (by decide) (by decide) h1).mono ?_
      rintro e w1 ⟨rfl, rfl⟩
      go_wp2_with fail
      refine (szI_yes bd m bc _ _ (by omega) (by omega) h3).mono ?_
      rintro e w1 ⟨rfl, rfl⟩
      go_wp2
      go_ret
      exact ⟨_, rfl, fun h => by omega, hB0⟩

/-- a pair whose lists lie in blocks of their own, from lo on, below hi -/
structure Pw (w : World) (lo hi : Nat) (L R : Value) (zl zr : List Int) : Prop where
  l : Ow w lo L zl
  r : Ow w lo R zr
  ne : ∀ k, L.ownBlock = some k → R.ownBlock = some k → False
  lh : ∀ k, L.ownBlock = some k → k < hi
  rh : ∀ k, R.ownBlock = some k → k < hi
theorem Pw.below {w w' : World} {lo hi : Nat} {L R : Value} {zl zr : List Int} (h : Pw w lo hi L R zl zr) (hb : Below w.heap.size w w') : Pw w' lo hi L R zl zr := ⟨h.l.below hb, h.r.below hb, h.ne, h.lh, h.rh⟩
theorem Pw.wide {w : World} {lo hi lo' hi' : Nat} {L R : Value} {zl zr : List Int} (h : Pw w lo hi L R zl zr) (h1 : lo' ≤ lo) (h2 : hi ≤ hi') : Pw w lo' hi' L R zl zr := ⟨h.l.mono h1, h.r.mono h1, h.ne, fun k hk => Nat.lt_of_lt_of_le (h.lh k hk) h2, fun k hk => Nat.lt_of_lt_of_le (h.rh k hk) h2⟩
theorem Ow.lt {w : World} {lo : Nat} {v : Value} {zs : List Int} (h : Ow w lo v zs) : ∀ k, v.ownBlock = some k → lo ≤ k ∧ k < w.heap.size := fun k hk => World.ownsRow.lt h k hk

/-- a store elsewhere -/
theorem Ow.set {w : World} {base B i : Nat} {v u : Value} {zs : List Int} (h : Ow w base v zs) (hne : ∀ k, v.ownBlock = some k → k ≠ B) : Ow (w.setCell ⟨B, i, none⟩ u) base v zs := by
  obtain ⟨h1, h2⟩ := h
  refine ⟨h1, ?_⟩
  rcases h2 with h2 | ⟨g', cap', cur, e, hb, hg, r⟩
  · exact .inl h2
  · refine .inr ⟨g', cap', cur, e, hb, ?_, r⟩
    rw [heap_setCell_other _ _ _ _ (by have := hne g' (by rw [e]; rfl); simpa using this)]
    exact hg
theorem Pw.set {w : World} {lo hi B i : Nat} {L R u : Value} {zl zr : List Int} (h : Pw w lo hi L R zl zr) (hB : B < lo ∨ hi ≤ B) : Pw (w.setCell ⟨B, i, none⟩ u) lo hi L R zl zr :=
  ⟨h.l.set (fun k hk e => by have := h.l.lt k hk; have := h.lh k hk; omega), h.r.set (fun k hk e => by have := h.r.lt k hk; have := h.rh k hk; omega), h.ne, h.lh, h.rh⟩

theorem three_boxes (w : World) (a b c : Array Value) (Ta Tb Tc : TypeId) : Hid (∀ W, ((w.alloc (.cells a Ta)).alloc (.cells b Tb)).alloc (.cells c Tc) = W → W.heap[w.heap.size]? = some (.cells a Ta (0, 0)) ∧ W.heap[w.heap.size + 1]? = some (.cells b Tb (0, 0)) ∧ W.heap[w.heap.size + 1 + 1]? = some (.cells c Tc (0, 0)) ∧ Below w.heap.size w W ∧ W.heap.size = w.heap.size + 1 + 1 + 1) := by
  refine hide fun W hW => ?_
  subst hW
  refine ⟨?_, ?_, ?_, ?_, by simp⟩
  · rw [Below.heap_alloc _ _ _ (by simp; omega), Below.heap_alloc _ _ _ (by simp)]; exact heap_alloc_new _ _
  · rw [Below.heap_alloc _ _ _ (by simp)]; have := heap_alloc_new (w.alloc (.cells a Ta)) (.cells b Tb); simpa only [World.size_alloc] using this
  · have := heap_alloc_new ((w.alloc (.cells a Ta)).alloc (.cells b Tb)) (.cells c Tc); simpa only [World.size_alloc] using this
  · exact (((Below.refl _ _).alloc (Nat.le_refl _) _).alloc (by simp) _).alloc (by simp; omega) _

set_option maxHeartbeats 4000000 in
theorem toPair_any (L R : Value) (zl zr : List Int) (lu ru : Bool) (w : World) (hl : Sl w L zl) (hr : Sl w R zr) (hn : zl.length + zr.length ≤ 1048576) :
    Calls Try.prog 11 #[.agg (pq L R lu ru)] w fun e w' => ∃ L' R', e = .returned (.agg (pq L' R' lu ru)) ∧ Pw w' w.heap.size w'.heap.size L' R' zl zr ∧ Below w.heap.size w w' := by
  have HL := hide hl
  have HR := hide hr
  obtain ⟨ad, ac, rfl, _⟩ := hl
  obtain ⟨bd, bc, rfl, _⟩ := hr
  have HE := three_boxes w (pq (.slice ad zl.length ac) (.slice bd zr.length bc) lu ru) (pq nilS nilS false false) (pq nilS nilS false false) 24 27 27
  have HN : Hid (zl.length ≤ 1048576 ∧ zr.length ≤ 1048576) := hide ⟨by omega, by omega⟩
  clear hn
  go_enter Try.func11, Try.ntmps11
  go_wp2_with fail
  generalize hW : (World.alloc (World.alloc (World.alloc _ _) _) _) = W
  obtain ⟨rA, rZ, rO, hbW, hz⟩ := HE.out W hW
  clear HE hW
  refine (copy_any (.slice ad zl.length ac) zl _ (HL.out.below hbW) HN.out.1).mono ?_
  rintro e w1 ⟨u1, rfl, ho1, hb1, g1, rfl⟩
  have hg1 := ho1.lt g1 rfl
  rw [hz] at hg1
  have rA1 := (hb1.block _ (by rw [hz]; omega)).trans rA
  have rZ1 := (hb1.block _ (by rw [hz]; omega)).trans rZ
  have rO1 := (hb1.block _ (by rw [hz]; omega)).trans rO
  have hB1 := hbW.trans (hb1.mono hbW.size)
  obtain ⟨fA, a0, a1, a2, a3⟩ := row4_facts rA1
  obtain ⟨fO, o0, o1, o2, o3⟩ := row4_facts rO1
  have hne : ¬ w.heap.size = w.heap.size + 1 + 1 := by omega
  have hs1 := hb1.size
  rw [hz] at hs1
  clear hbW hb1
  have rA2 : (w1.setCell ⟨w.heap.size + 1 + 1, 0, none⟩ (.slice (some ⟨g1, 0, none⟩) zl.length zl.length)).heap[w.heap.size]? = _ := (heap_setCell_other _ _ _ _ (by simp; omega)).trans rA1
  have rZ2 : (w1.setCell ⟨w.heap.size + 1 + 1, 0, none⟩ (.slice (some ⟨g1, 0, none⟩) zl.length zl.length)).heap[w.heap.size + 1]? = _ := (heap_setCell_other _ _ _ _ (by simp)).trans rZ1
  have rO2 : (w1.setCell ⟨w.heap.size + 1 + 1, 0, none⟩ (.slice (some ⟨g1, 0, none⟩) zl.length zl.length)).heap[w.heap.size + 1 + 1]? = some (.cells (pq (.slice (some ⟨g1, 0, none⟩) zl.length zl.length) nilS false false) 27 (0, 0)) := by
    rw [heap_setCell_same _ _ 0 _ _ _ rO1]; rfl
  have ho2 : Ow (w1.setCell ⟨w.heap.size + 1 + 1, 0, none⟩ (.slice (some ⟨g1, 0, none⟩) zl.length zl.length)) W.heap.size (.slice (some ⟨g1, 0, none⟩) zl.length zl.length) zl := ho1.set (fun k hk => by simp [Value.ownBlock] at hk; omega)
  have hB2 : Below w.heap.size w (w1.setCell ⟨w.heap.size + 1 + 1, 0, none⟩ (.slice (some ⟨g1, 0, none⟩) zl.length zl.length)) := hB1.setCell (by simp; omega) _
  have hs2 : (w1.setCell ⟨w.heap.size + 1 + 1, 0, none⟩ (.slice (some ⟨g1, 0, none⟩) zl.length zl.length)).heap.size = w1.heap.size := by simp
  have HX := hide (And.intro rZ2 (And.intro rO2 (And.intro ho2 (And.intro hB2 (And.intro rA2 hs2)))))
  clear rA rZ rO rA1 rZ1 rO1 rZ2 rA2 rO2 ho1 ho2 hB1 hB2 hs2
  go_wp2_with fail
  generalize hW2 : (World.setCell _ _ _) = W2 at HX ⊢
  obtain ⟨rZ, rO, ho, hB, rA, hs⟩ := HX.out
  clear HX hW2
  refine (copy_any (.slice bd zr.length bc) zr _ (HR.out.below hB) HN.out.2).mono ?_
  rintro e w3 ⟨u2, rfl, ho3, hb3, g2, rfl⟩
  have hg2 := ho3.lt g2 rfl
  rw [hs] at hg2
  have rA3 := (hb3.block _ (by rw [hs]; omega)).trans rA
  have rZ3 := (hb3.block _ (by rw [hs]; omega)).trans rZ
  have rO3 := (hb3.block _ (by rw [hs]; omega)).trans rO
  have hB3 := hB.trans (hb3.mono hB.size)
  have hoL := ho.below hb3
  obtain ⟨fA, a0, a1, a2, a3⟩ := row4_facts rA3
  obtain ⟨fZ, z0, z1, z2, z3⟩ := row4_facts rZ3
  obtain ⟨fO, o0, o1, o2, o3⟩ := row4_facts rO3
  have hP : Pw w3 W.heap.size w3.heap.size (.slice (some ⟨g1, 0, none⟩) zl.length zl.length) (.slice (some ⟨g2, 0, none⟩) zr.length zr.length) zl zr :=
    ⟨hoL, ho3.mono (by rw [hz, hs]; omega), fun k h1 h2 => by simp [Value.ownBlock] at h1 h2; omega, fun k h => (hoL.lt k h).2, fun k h => (ho3.lt k h).2⟩
  have HX := hide (And.intro hP hB3)
  have hne2 : ¬ w.heap.size + 1 = w.heap.size + 1 + 1 := by omega
  clear rA rZ rO rA3 rZ3 rO3 ho3 hb3 hB hB3 ho hoL hP HL HR HN
  go_wp2
  refine bodyPost_ret (v := .agg (pq (.slice (some ⟨g1, 0, none⟩) zl.length zl.length) (.slice (some ⟨g2, 0, none⟩) zr.length zr.length) lu ru)) (by simp [results, Try.results11, go_sem, z0, z1, z2, z3]) rfl ⟨_, _, rfl, ?_, ?_⟩
  · simp only [World.size_setCell]
    refine Pw.wide (lo := W.heap.size) (hi := w3.heap.size) ?_ (by rw [hz]; omega) (by simp)
    iterate 7 (refine Pw.set ?_ (by rw [hz]; omega))
    exact HX.out.1
  · have hZ2 : w.heap.size ≤ w.heap.size + 1 := by omega
    have hO2 : w.heap.size ≤ w.heap.size + 1 + 1 := by omega
    iterate 4 (refine Below.setCell ?_ hZ2 _)
    iterate 3 (refine Below.setCell ?_ hO2 _)
    exact HX.out.2

set_option maxHeartbeats 2000000 in
theorem eqPair_same (L R L' R' : Value) (zl zr : List Int) (lu ru : Bool) (w : World) (hl : Sl w L zl) (hr : Sl w R zr) (hl' : Sl w L' zl) (hr' : Sl w R' zr) (hn : zl.length + zr.length ≤ 1048576) :
    Calls Try.prog 13 #[.agg (pq L R lu ru), .agg (pq L' R' lu ru)] w fun e w' => e = .returned (.bool true) ∧ Below w.heap.size w w' := by
  have H1 := hide (And.intro hl (And.intro hr (And.intro hl' hr')))
  obtain ⟨ad, ac, rfl, _⟩ := hl
  obtain ⟨bd, bc, rfl, _⟩ := hr
  obtain ⟨cd, cc, rfl, _⟩ := hl'
  obtain ⟨dd, dc, rfl, _⟩ := hr'
  have HN : Hid (zl.length ≤ 1048576 ∧ zr.length ≤ 1048576) := hide ⟨by omega, by omega⟩
  clear hn
  generalize hn1 : zl.length = n at *
  generalize hn2 : zr.length = m at *
  have hA1 : Below w.heap.size w (w.alloc (.cells (pq (.slice ad n ac) (.slice bd m bc) lu ru) 27)) := (Below.refl _ _).alloc (Nat.le_refl _) _
  have hA2 : Below (w.alloc (.cells (pq (.slice ad n ac) (.slice bd m bc) lu ru) 27)).heap.size (w.alloc (.cells (pq (.slice ad n ac) (.slice bd m bc) lu ru) 27)) ((w.alloc (.cells (pq (.slice ad n ac) (.slice bd m bc) lu ru) 27)).alloc (.cells (pq (.slice cd n cc) (.slice dd m dc) lu ru) 27)) := (Below.refl _ _).alloc (Nat.le_refl _) _
  have p1 := (bx4 w (.slice ad n ac) (.slice bd m bc) (.bool lu) (.bool ru) 27).below hA2
  have p2 := bx4 (w.alloc (.cells (pq (.slice ad n ac) (.slice bd m bc) lu ru) 27)) (.slice cd n cc) (.slice dd m dc) (.bool lu) (.bool ru) 27
  simp only [World.size_alloc] at p2
  have hB0 := hA1.trans (hA2.mono hA1.size)
  have HX := hide (And.intro p1 (And.intro p2 hB0))
  have HQ := hide (And.intro hn1 hn2)
  clear hn1 hn2 p1 p2 hA1 hA2 hB0
  go_enter Try.func13, Try.ntmps13
  go_wp2_with fail
  generalize hW : (World.alloc (World.alloc _ _) _) = W at HX ⊢
  obtain ⟨p1, p2, hB0⟩ := HX.out
  clear HX hW
  refine (eq_same _ _ zl _ (H1.out.1.below hB0) (H1.out.2.2.1.below hB0) (by have := HN.out; have := HQ.out; omega)).mono ?_
  rintro e w2 ⟨rfl, hb2⟩
  obtain ⟨x0, x1, x2, x3⟩ := p1.below hb2
  obtain ⟨y0, y1, y2, y3⟩ := p2.below hb2
  have hB2 := hB0.trans (hb2.mono hB0.size)
  clear p1 p2 hB0 hb2
  go_wp2_with fail
  refine (eq_same _ _ zr _ (H1.out.2.1.below hB2) (H1.out.2.2.2.below hB2) (by have := HN.out; have := HQ.out; omega)).mono ?_
  rintro e w3 ⟨rfl, hb3⟩
  have x2 := keepc hb3 x2
  have x3 := keepc hb3 x3
  have y2 := keepc hb3 y2
  have y3 := keepc hb3 y3
  have HW := hide (hB2.trans (hb3.mono hB2.size))
  clear hb3 hB2 H1 x0 x1 y0 y1
  go_wp2
  go_ret
  exact ⟨rfl, HW.out⟩

set_option maxRecDepth 100000 in
theorem open_ints1 {W : World} {H : Type} {enc : TypeId × Value → H} {base : Nat} {spare : Nat → Bool} {held : Bool} {fuel : Nat} {cs : List Value} {x : DataW H × List MemPlace} (h : DataW.trod enc Try.prog W base spare held fuel 22 cs = some x) :
    ∃ (v : Value) (zs : List Int), cs = [v] ∧ Sl W v zs ∧ zs.length ≤ maxLen := by
  rcases open_ints Try.underlying22 Try.underlying2 (by kernel_rfl) h with ⟨hcs, _⟩ | ⟨x, l, c, zs, hcs, _, hl, hm, hz, _, hcell, hwz⟩
  · exact ⟨_, [], hcs, ⟨none, 0, rfl, fun hp => absurd hp (by simp)⟩, Nat.zero_le _⟩
  · obtain ⟨h1, h2⟩ := sl_of_row (len := l) (cap := c) (by rw [hz]; split <;> omega) hcell
    exact ⟨_, _, hcs, h2, by rw [h1]; omega⟩

set_option maxRecDepth 100000 in
/-- a pair, opened -/
theorem open_pair {W : World} {H : Type} {enc : TypeId × Value → H} {base b0 : Nat} {spare : Nat → Bool} {held : Bool} {r : Reach} {v : Value} {d : DataW H} {p : List MemPlace} (hv : Value.okWide Try.prog W r b0 24 v) (h : DataW.Trod enc Try.prog W base spare held 24 v d p) :
    ∃ (L R : Value) (zl zr : List Int) (lu ru : Bool), v = .agg (pq L R lu ru) ∧ Sl W L zl ∧ Sl W R zr ∧ zl.length ≤ maxLen ∧ zr.length ≤ maxLen := by
  obtain ⟨cs, rfl, hsz⟩ := okWide_struct Try.underlying24 hv
  obtain ⟨fuel, hf⟩ := h
  obtain ⟨xs, n, _, _, hl, hlen, hg⟩ := DataW.trod_struct Try.underlying24 hf
  have c3 : Try.prog.cellsOf 24 = 4 := by kernel_rfl
  have cA : Try.prog.cellsOf 4 = 1 := by kernel_rfl
  have cB : Try.prog.cellsOf 22 = 1 := by kernel_rfl
  rw [c3] at hsz
  obtain ⟨l⟩ := cs
  match l, hsz with
  | [b0, b1, b2, b3], _ =>
    match xs, hlen with
    | [x0, x1, x2, x3], _ =>
      have g0 : DataW.trod enc Try.prog W base spare held n 22 (List.take (Try.prog.cellsOf 22) (List.drop 0 [b0, b1, b2, b3])) = some x0 := hg 0 _ rfl
      have g1 : DataW.trod enc Try.prog W base spare held n 22 (List.take (Try.prog.cellsOf 22) (List.drop 1 [b0, b1, b2, b3])) = some x1 := hg 1 _ rfl
      have g2 : DataW.trod enc Try.prog W base spare held n 4 (List.take (Try.prog.cellsOf 4) (List.drop 2 [b0, b1, b2, b3])) = some x2 := hg 2 _ rfl
      have g3 : DataW.trod enc Try.prog W base spare held n 4 (List.take (Try.prog.cellsOf 4) (List.drop 3 [b0, b1, b2, b3])) = some x3 := hg 3 _ rfl
      rw [cA] at g2 g3
      rw [cB] at g0 g1
      obtain ⟨v0, zl, e0, hL, hLm⟩ := open_ints1 g0
      obtain ⟨v1, zr, e1, hR, hRm⟩ := open_ints1 g1
      obtain ⟨k2, e2, _⟩ := DataW.trod_bool Try.underlying4 g2
      obtain ⟨k3, e3, _⟩ := DataW.trod_bool Try.underlying4 g3
      simp at e0 e1 e2 e3
      subst e0 e1 e2 e3
      exact ⟨_, _, zl, zr, k2, k3, rfl, hL, hR, hLm, hRm⟩

end Go.Proofs.Ytaifflodnnflfaa
