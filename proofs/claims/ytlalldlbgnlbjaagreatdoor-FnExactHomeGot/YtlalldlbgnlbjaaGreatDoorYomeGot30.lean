/- HmK, LqE -/
import Derived.Test.YtlalldlbgnlbjaaGreatDoorYomeGot29
import Derived.Test.YtlalldlbgnlbjaaGreatDoorYomeGot18
import Derived.Test.YtlalldlbgnlbjaaGreatDoorYomeGot19
import Derived.Deep.Heap
/- the model's Begun (written by mkHmK.py) -/
namespace Go.Proofs.YtlalldlbgnlbjaaGreatDoor
open Go.RowKit
set_option linter.unusedVariables false
set_option linter.unusedSimpArgs false

theorem Mv.le {S : Nat → Prop} {w v : World} {c : Nat} (h : Mv S w v) (e : v.heap.size = c) : w.heap.size ≤ c := e ▸ h.size
end Go.Proofs.YtlalldlbgnlbjaaGreatDoor

/- toLine, eqLine, szLine -/
namespace Go.Proofs.YtlalldlbgnlbjaaGreatDoor
open Go.RowKit
set_option linter.unusedVariables false
set_option linter.unusedSimpArgs false

/-- a slice that lies in one block is read alike where another block is written -/
theorem Sl.set {w : World} {g n cap B i : Nat} {zs : List Int} {v : Value} (h : Sl w (.slice (some ⟨g, 0, none⟩) n cap) zs) (hne : B ≠ g) : Sl (w.setCell ⟨B, i, none⟩ v) (.slice (some ⟨g, 0, none⟩) n cap) zs := by
  obtain ⟨ad, c, e, h⟩ := h
  refine ⟨ad, c, e, fun hp => ?_⟩
  obtain ⟨b, off, rfl, hc⟩ := h hp
  simp only [Value.slice.injEq, Option.some.injEq, Addr.mk.injEq] at e
  obtain ⟨⟨rfl, rfl, _⟩, _, _⟩ := e
  exact ⟨g, 0, rfl, fun j hj => by rw [World.cell?_setCell_far _ _ _ _ hne]; exact hc j hj⟩
theorem Sr.set {w : World} {g m n cap B i : Nat} {f : Nat → Nat → Int} {v : Value} (h : Sr w (.slice (some ⟨g, 0, none⟩) n cap) m n f) (hne : B ≠ g) : Sr (w.setCell ⟨B, i, none⟩ v) (.slice (some ⟨g, 0, none⟩) n cap) m n f := by
  obtain ⟨ad, c, e, h⟩ := h
  refine ⟨ad, c, e, fun hp => ?_⟩
  obtain ⟨b, off, rfl, hc⟩ := h hp
  simp only [Value.slice.injEq, Option.some.injEq, Addr.mk.injEq] at e
  obtain ⟨⟨rfl, rfl, _⟩, _, _⟩ := e
  exact ⟨g, 0, rfl, fun j hj k hk => by rw [World.cell?_setCell_far _ _ _ _ hne]; exact hc j hj k hk⟩
theorem Ow.block {w : World} {base : Nat} {g n cap : Nat} {zs : List Int} (h : Ow w base (.slice (some ⟨g, 0, none⟩) n cap) zs) : base ≤ g ∧ g < w.heap.size := World.ownsRow.lt h g rfl
theorem Orow.block {w : World} {base : Nat} {T : TypeId} {m g n cap k l : Nat} {f : Nat → Nat → Int} (h : Orow w base T m (.slice (some ⟨g, 0, none⟩) l cap) n k f) : base ≤ g ∧ g < w.heap.size := World.ownsRow.lt h g rfl

set_option maxHeartbeats 1000000 in
theorem eqLine_any (mem ow : Int) (sv sv' : Value) (zs : List Int) (bu wt ac : Int) (qv qv' : Value) (n : Nat) (f : Nat → Nat → Int) (w : World) (hs : Sl w sv zs) (hs' : Sl w sv' zs) (hl : zs.length ≤ 1048576) (hq : Sr w qv 2 n f) (hq' : Sr w qv' 2 n f) (hn : n ≤ 1048576) :
    Calls Tryz.prog 10 #[.agg (ln7 mem ow sv bu wt ac qv), .agg (ln7 mem ow sv' bu wt ac qv')] w fun e w' => e = .returned (.bool true) ∧ Below w.heap.size w w' := by
  have lb := (lb_box w mem ow sv bu wt ac qv 31).next ((Below.refl _ _).alloc (Nat.le_refl _) (.cells (ln7 mem ow sv' bu wt ac qv') 31))
  have lc := lb_here (lb_box w mem ow sv bu wt ac qv 31).1 mem ow sv' bu wt ac qv' 31
  simp only [World.size_alloc] at lc
  go_enter Tryz.func10, Tryz.ntmps10
  go_wp2_with fail
  refine (eq_same sv sv' zs _ (hs.below lb.1) (hs'.below lb.1) hl).mono ?_
  rintro e w1 ⟨rfl, hb⟩
  replace lb := lb.next hb
  replace lc := lc.next hb
  clear hb
  obtain ⟨_, b0, b1, b2, b3, b4, b5, b6⟩ := id lb
  obtain ⟨_, c0, c1, c2, c3, c4, c5, c6⟩ := id lc
  go_wp2_with fail
  refine (eqReqS_same qv qv' n f _ (hq.below lb.1) (hq'.below lb.1) hn).mono ?_
  rintro e w2 ⟨rfl, hb⟩
  replace lb := lb.next hb
  clear hb lc b0 b1 b2 b3 b4 b5 b6 c0 c1 c2 c3 c4 c5 c6
  go_wp2
  go_ret
  exact ⟨rfl, lb.1⟩

end Go.Proofs.YtlalldlbgnlbjaaGreatDoor
