/- toLine, eqLine, szLine -/
import Derived.Test.YtfckacabaajnkaaDoorLqA
import Derived.Test.YtfckacabaajnkaaDoorLqB
import Derived.Deep.Heap
namespace Go.Proofs.YtfckacabaajnkaaDoor
open Go.RowKit
set_option linter.unusedVariables false
set_option linter.unusedSimpArgs false

theorem row7_facts {w : World} {B : Nat} {T : TypeId} {v0 v1 v2 v3 v4 v5 v6 : Value} (h : w.heap[B]? = some (.cells #[v0, v1, v2, v3, v4, v5, v6] T (0, 0))) : (∀ i, w.frozen? ⟨B, i, none⟩ = false) ∧ w.cell? ⟨B, 0, none⟩ = some v0 ∧ w.cell? ⟨B, 1, none⟩ = some v1 ∧ w.cell? ⟨B, 2, none⟩ = some v2 ∧ w.cell? ⟨B, 3, none⟩ = some v3 ∧ w.cell? ⟨B, 4, none⟩ = some v4 ∧ w.cell? ⟨B, 5, none⟩ = some v5 ∧ w.cell? ⟨B, 6, none⟩ = some v6 :=
  ⟨fun i => frozen_of_row _ _ i _ _ h, (cell_of_row _ _ _ _ _ _ h).trans rfl, (cell_of_row _ _ _ _ _ _ h).trans rfl, (cell_of_row _ _ _ _ _ _ h).trans rfl, (cell_of_row _ _ _ _ _ _ h).trans rfl, (cell_of_row _ _ _ _ _ _ h).trans rfl, (cell_of_row _ _ _ _ _ _ h).trans rfl, (cell_of_row _ _ _ _ _ _ h).trans rfl⟩

/-- a slice that lies in one block is read alike where another block is written -/
theorem Sl.set {w : World} {g n cap B i : Nat} {zs : List Int} {v : Value} (h : Sl w (.slice (some ⟨g, 0, none⟩) n cap) zs) (hne : B ≠ g) : Sl (w.setCell ⟨B, i, none⟩ v) (.slice (some ⟨g, 0, none⟩) n cap) zs := by
  obtain ⟨ad, c, e, h⟩ := h
  refine ⟨ad, c, e, fun hp => ?_⟩
  obtain ⟨b, off, rfl, hc⟩ := h hp
  simp only [Value.slice.injEq, Option.some.injEq, Addr.mk.injEq] at e
  obtain ⟨⟨rfl, rfl, _⟩, _, _⟩ := e
  exact ⟨g, 0, rfl, fun j hj => by rw [World.cell?_setCell_far _ _ _ _ hne]; exact hc j hj⟩
theorem Sr.set {w : World} {g m n cap B i : Nat} {f : Nat → Nat → Int} {v : Value} (h : Sr w (.slice (some ⟨g, 0, none⟩) n cap) m n f) (hne : B ≠ g) : Sr (w.setCell ⟨B, i, none⟩ v) (.slice (some ⟨g, 0, none⟩) n cap) m n f := by
  obtain ⟨ad, c, e, h⟩ := h
  refine ⟨ad, c, e, fun hp => ?_⟩
  obtain ⟨b, off, rfl, hc⟩ := h hp
  simp only [Value.slice.injEq, Option.some.injEq, Addr.mk.injEq] at e
  obtain ⟨⟨rfl, rfl, _⟩, _, _⟩ := e
  exact ⟨g, 0, rfl, fun j hj k hk => by rw [World.cell?_setCell_far _ _ _ _ hne]; exact hc j hj k hk⟩
theorem Ow.block {w : World} {base : Nat} {g n cap : Nat} {zs : List Int} (h : Ow w base (.slice (some ⟨g, 0, none⟩) n cap) zs) : base ≤ g ∧ g < w.heap.size := World.ownsRow.lt h g rfl
theorem Orow.block {w : World} {base : Nat} {T : TypeId} {m g n cap k l : Nat} {f : Nat → Nat → Int} (h : Orow w base T m (.slice (some ⟨g, 0, none⟩) l cap) n k f) : base ≤ g ∧ g < w.heap.size := World.ownsRow.lt h g rfl

abbrev zln : Array Value := ln7 0 0 (.slice none 0 0) 0 0 0 (.slice none 0 0)

set_option maxHeartbeats 2000000 in
theorem toLine_full (mem ow : Int) (sv : Value) (zs : List Int) (bu wt ac : Int) (qv : Value) (n : Nat) (f : Nat → Nat → Int) (w : World) (hs : Sl w sv zs) (hl : zs.length ≤ 1048576) (hq : Sr w qv 2 n f) (hn : n ≤ 1048576) :
    Calls Tryd.prog 55 #[.agg (ln7 mem ow sv bu wt ac qv)] w fun e w' => ∃ sg g, e = .returned (.agg (ln7 mem ow (.slice (some ⟨sg, 0, none⟩) zs.length zs.length) bu wt ac (.slice (some ⟨g, 0, none⟩) n n))) ∧ (w.heap.size ≤ sg ∧ w.heap.size ≤ g) ∧ Sl w' (.slice (some ⟨sg, 0, none⟩) zs.length zs.length) zs ∧ Sr w' (.slice (some ⟨g, 0, none⟩) n n) 2 n f ∧ Below w.heap.size w w' := by
  generalize hA : Obj.cells (ln7 mem ow sv bu wt ac qv) 82 = A
  generalize hZ : Obj.cells zln 66 = Z
  generalize hO : Obj.cells (ln7 mem ow (.slice none 0 0) 0 0 0 (.slice none 0 0)) 66 = O
  have eA : (((w.alloc A).alloc Z).alloc O).heap[w.heap.size]? = some A := by
    rw [Below.heap_alloc _ _ _ (by simp; omega), Below.heap_alloc _ _ _ (by simp)]; exact heap_alloc_new _ _
  have eZ : (((w.alloc A).alloc Z).alloc O).heap[w.heap.size + 1]? = some Z := by
    rw [Below.heap_alloc _ _ _ (by simp)]; have := heap_alloc_new (w.alloc A) Z; simpa only [World.size_alloc] using this
  have eO : (((w.alloc A).alloc Z).alloc O).heap[w.heap.size + 1 + 1]? = some O := by
    have := heap_alloc_new ((w.alloc A).alloc Z) O; simpa only [World.size_alloc] using this
  have hb0 : Below w.heap.size w (((w.alloc A).alloc Z).alloc O) := (((Below.refl _ _).alloc (Nat.le_refl _) _).alloc (by simp) _).alloc (by simp; omega) _
  have hz0 : (((w.alloc A).alloc Z).alloc O).heap.size = w.heap.size + 1 + 1 + 1 := by simp
  subst hA hZ hO
  have HE := hide (And.intro eA (And.intro eZ (And.intro eO (And.intro hb0 hz0))))
  clear eA eZ eO hb0 hz0
  go_enter Tryd.func55, Tryd.ntmps55
  go_wp2_with fail
  refine (copy_any sv zs _ (hs.below HE.out.2.2.2.1) hl).mono ?_
  rintro e w1 ⟨u, rfl, ho, hb1, g, rfl⟩
  obtain ⟨eA, eZ, eO, hb0, hz0⟩ := HE.out
  have rA := (hb1.block _ (by rw [hz0]; omega)).trans eA
  have rZ := (hb1.block _ (by rw [hz0]; omega)).trans eZ
  have rO := (hb1.block _ (by rw [hz0]; omega)).trans eO
  have hbw := hb0.trans (hb1.mono hb0.size)
  have hg := ho.block
  rw [hz0] at hg
  have hsl := ho.sl
  clear ho hb1 hb0 hz0 eA eZ eO HE
  obtain ⟨_, a0, a1, a2, a3, a4, a5, a6⟩ := row7_facts rA
  obtain ⟨fO, o0, o1, o2, o3, o4, o5, o6⟩ := row7_facts rO
  -- the world ahead of the second call
  have HW : Hid (∀ W, ((((w1.setCell ⟨w.heap.size + 1 + 1, 2, none⟩ (.slice (some ⟨g, 0, none⟩) zs.length zs.length)).setCell ⟨w.heap.size + 1 + 1, 3, none⟩ (.int .i64 bu)).setCell ⟨w.heap.size + 1 + 1, 4, none⟩ (.int .i64 wt)).setCell ⟨w.heap.size + 1 + 1, 5, none⟩ (.int .i64 ac)) = W →
      Below w.heap.size w W ∧ W.heap.size = w1.heap.size ∧ Sl W (.slice (some ⟨g, 0, none⟩) zs.length zs.length) zs ∧ W.heap[w.heap.size + 1]? = some (.cells zln 66 (0, 0)) ∧ W.heap[w.heap.size + 1 + 1]? = some (.cells (ln7 mem ow (.slice (some ⟨g, 0, none⟩) zs.length zs.length) bu wt ac (.slice none 0 0)) 66 (0, 0))) := by
    refine hide fun W hW => ?_
    subst hW
    have hO2 : w.heap.size ≤ w.heap.size + 1 + 1 := by omega
    refine ⟨(((hbw.setCell hO2 _).setCell hO2 _).setCell hO2 _).setCell hO2 _, by simp, (((hsl.set (by omega)).set (by omega)).set (by omega)).set (by omega), ?_, ?_⟩
    · rw [heap_setCell_other _ _ _ _ (by simp), heap_setCell_other _ _ _ _ (by simp), heap_setCell_other _ _ _ _ (by simp), heap_setCell_other _ _ _ _ (by simp)]; exact rZ
    · rw [heap_setCell_same _ _ 5 _ _ _ (heap_setCell_same _ _ 4 _ _ _ (heap_setCell_same _ _ 3 _ _ _ (heap_setCell_same _ _ 2 _ _ _ rO)))]; rfl
  have hne : ¬ w.heap.size = w.heap.size + 1 + 1 := by omega
  clear rA rZ rO hbw hsl
  go_wp2_with fail
  generalize hW : ((((w1.setCell ⟨w.heap.size + 1 + 1, 2, none⟩ (.slice (some ⟨g, 0, none⟩) zs.length zs.length)).setCell ⟨w.heap.size + 1 + 1, 3, none⟩ (.int .i64 bu)).setCell ⟨w.heap.size + 1 + 1, 4, none⟩ (.int .i64 wt)).setCell ⟨w.heap.size + 1 + 1, 5, none⟩ (.int .i64 ac)) = W
  obtain ⟨hbW, hzW, hsl, rZ, rO⟩ := HW.out W hW
  clear hW HW a0 a1 a2 a3 a4 a5 a6 fO o0 o1 o2 o3 o4 o5 o6
  refine (toReqS_any qv n f _ (hq.below hbW) hn).mono ?_
  rintro e w2 ⟨g2, rfl, ho2, hb2⟩
  have ltO : w.heap.size + 1 + 1 < W.heap.size := lt_of_block rO
  have rZ2 := (hb2.block _ (by omega)).trans rZ
  have rO2 := (hb2.block _ ltO).trans rO
  have hsl2 := hsl.below hb2
  have hsr2 := ho2.sr
  have hg2 := ho2.block
  have hbw2 := hbW.trans (hb2.mono hbW.size)
  clear ho2 hb2 rZ rO hsl hbW hq hs
  obtain ⟨fZ, z0, z1, z2, z3, z4, z5, z6⟩ := row7_facts rZ2
  obtain ⟨fO, o0, o1, o2, o3, o4, o5, o6⟩ := row7_facts rO2
  have HX := hide (And.intro hsl2 (And.intro hsr2 hbw2))
  have hne2 : ¬ w.heap.size + 1 = w.heap.size + 1 + 1 := by omega
  clear hsl2 hsr2 hbw2 rZ2 rO2
  go_wp2
  refine bodyPost_ret (v := .agg (ln7 mem ow (.slice (some ⟨g, 0, none⟩) zs.length zs.length) bu wt ac (.slice (some ⟨g2, 0, none⟩) n n))) (by simp [results, Tryd.results55, go_sem, z0, z1, z2, z3, z4, z5, z6]) rfl ⟨_, _, rfl, ⟨by omega, by omega⟩, ?_, ?_, ?_⟩
  · obtain ⟨hsl2, hsr2, hbw2⟩ := HX.out
    iterate 8 (refine Sl.set ?_ (by omega))
    exact hsl2
  · obtain ⟨hsl2, hsr2, hbw2⟩ := HX.out
    iterate 8 (refine Sr.set ?_ (by omega))
    exact hsr2
  · obtain ⟨hsl2, hsr2, hbw2⟩ := HX.out
    have hO2 : w.heap.size ≤ w.heap.size + 1 + 1 := by omega
    have hZ2 : w.heap.size ≤ w.heap.size + 1 := by omega
    iterate 7 (refine Below.setCell ?_ hZ2 _)
    refine Below.setCell ?_ hO2 _
    exact hbw2

theorem toLine_any (mem ow : Int) (sv : Value) (zs : List Int) (bu wt ac : Int) (qv : Value) (n : Nat) (f : Nat → Nat → Int) (w : World) (hs : Sl w sv zs) (hl : zs.length ≤ 1048576) (hq : Sr w qv 2 n f) (hn : n ≤ 1048576) :
    Calls Tryd.prog 55 #[.agg (ln7 mem ow sv bu wt ac qv)] w fun e w' => ∃ sv' g, e = .returned (.agg (ln7 mem ow sv' bu wt ac (.slice (some ⟨g, 0, none⟩) n n))) ∧ Sl w' sv' zs ∧ Sr w' (.slice (some ⟨g, 0, none⟩) n n) 2 n f ∧ Below w.heap.size w w' :=
  (toLine_full mem ow sv zs bu wt ac qv n f w hs hl hq hn).mono fun e w' ⟨_, g, h1, _, h2, h3, h4⟩ => ⟨_, g, h1, h2, h3, h4⟩

set_option maxHeartbeats 1000000 in
theorem eqLine_any (mem ow : Int) (sv sv' : Value) (zs : List Int) (bu wt ac : Int) (qv qv' : Value) (n : Nat) (f : Nat → Nat → Int) (w : World) (hs : Sl w sv zs) (hs' : Sl w sv' zs) (hl : zs.length ≤ 1048576) (hq : Sr w qv 2 n f) (hq' : Sr w qv' 2 n f) (hn : n ≤ 1048576) :
    Calls Tryd.prog 58 #[.agg (ln7 mem ow sv bu wt ac qv), .agg (ln7 mem ow sv' bu wt ac qv')] w fun e w' => e = .returned (.bool true) ∧ Below w.heap.size w w' := by
  have lb := (lb_box w mem ow sv bu wt ac qv 66).next ((Below.refl _ _).alloc (Nat.le_refl _) (.cells (ln7 mem ow sv' bu wt ac qv') 66))
  have lc := lb_here (lb_box w mem ow sv bu wt ac qv 66).1 mem ow sv' bu wt ac qv' 66
  simp only [World.size_alloc] at lc
  go_enter Tryd.func58, Tryd.ntmps58
  go_wp2_with fail
  refine (eq_same sv sv' zs _ (hs.below lb.1) (hs'.below lb.1) hl).mono ?_
  rintro e w1 ⟨rfl, hb⟩
  replace lb := lb.next hb
  replace lc := lc.next hb
  clear hb
  obtain ⟨_, b0, b1, b2, b3, b4, b5, b6⟩ := id lb
  obtain ⟨_, c0, c1, c2, c3, c4, c5, c6⟩ := id lc
  go_wp2_with fail
  refine (eqReqS_same qv qv' n f _ (hq.below lb.1) (hq'.below lb.1) hn).mono ?_
  rintro e w2 ⟨rfl, hb⟩
  replace lb := lb.next hb
  clear hb lc b0 b1 b2 b3 b4 b5 b6 c0 c1 c2 c3 c4 c5 c6
  go_wp2
  go_ret
  exact ⟨rfl, lb.1⟩

end Go.Proofs.YtfckacabaajnkaaDoor
