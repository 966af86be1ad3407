/- LmB, SwD -/
import Derived.Test.YtnkocikbapbbmaaYnkPlay36
import Derived.Test.YtnkocikbapbbmaaYnkPlay28
/- rows of wires marked, marks found -/
namespace Go.Proofs.Ytnkocikbapbbmaa
open Go.RowKit
set_option linter.unusedVariables false
set_option linter.unusedSimpArgs false

def mH (z : Int) : Bool := z % 3 == 0
set_option maxHeartbeats 4000000 in
theorem markW_gen (a : Option Addr) (g off n c : Nat) (k0 : Int) (I : Nat → World → Prop) (w : World) (hn : n ≤ 1048576) (h0 : 0 < k0) (h1 : k0 ≤ 7000000) (ha : 0 < n → a = some ⟨g, off, none⟩) (hI : I 0 w)
    (hst : ∀ j W, j < n → I j W → (∀ i, W.frozen? ⟨g, i, none⟩ = false) ∧ (∃ o, W.cell? ⟨g, off + j * 2, none⟩ = some o) ∧ (∃ o, W.cell? ⟨g, off + j * 2 + 1, none⟩ = some o) ∧ g < W.heap.size ∧ ∀ W2, Below W.heap.size W W2 → I (j + 1) ((W2.setCell ⟨g, off + j * 2, none⟩ (.string (mT (k0 + 2 * j)))).setCell ⟨g, off + j * 2 + 1, none⟩ (.bool (mH (k0 + 2 * j + 1))))) :
    Calls Try.prog 44 #[.slice a n c, .int .i64 k0] w fun e w' => e = .returned (.int .i64 (k0 + 2 * n)) ∧ I n w' := by
  go_enter Try.func44, Try.ntmps44
  go_wp2
  go_loopw [1, 5] (fun t i wr => ∃ j : Nat, j ≤ n ∧ i = .int .i64 j ∧ t = .int .i64 (k0 + 2 * j) ∧ I j wr) (fun _ i _ => n - (intOf i).toNat)
  case atStart => exact ⟨0, Nat.zero_le _, rfl, by simp, hI⟩
  case round =>
    obtain ⟨j, hj, rfl, rfl, hIj⟩ := hrel
    by_cases hlt : j < n
    · obtain ⟨hf, ⟨o, hc⟩, ⟨o2, hc2⟩, hgl, hnx⟩ := hst j wr hlt hIj
      obtain rfl := ha (by omega)
      have HN := hide hnx
      have HT := hide (fun W => markText_any (k0 + 2 * j) W (by omega) (by omega))
      clear hnx hIj hI hst ha
      obtain ⟨y, hy⟩ : ∃ y : Bool, mH (k0 + 2 * j + 1) = y := ⟨_, rfl⟩
      have hz : ((k0 + 2 * (j : Int) + 1) % 3 == 0) = y := hy
      rw [hy] at HN
      clear hy
      generalize mT (k0 + 2 * j) = tx at HN HT
      have hj0 : (0 : Int) ≤ (j : Int) := by omega
      have hjn : (j : Int) < (n : Int) := by omega
      go_wp2_with fail
      refine (HT.out _).mono ?_
      rintro e W2 ⟨rfl, hb⟩
      have c2 := keepc hb hc
      have c3 := keepc hb hc2
      have f2 : ∀ i, W2.frozen? ⟨g, i, none⟩ = false := fun i => by
        rw [World.frozen?_of_block (a := ⟨g, i, none⟩) (hb.block g hgl)]; exact hf i
      have HI := hide (HN.out W2 hb)
      clear HN HT hf hc hc2 hb
      go_wp2
      go_roundw
      case rel => exact ⟨j + 1, by omega, by go_num, by go_num, HI.out⟩
      case measure => simp [intOf]; omega
    · have e : j = n := by omega
      subst e
      have HI := hide hIj
      clear hst hI hIj
      go_wp2
      go_ret
      exact ⟨rfl, HI.out⟩

theorem keep2M {w W W' : World} {p0 p1 : Addr} {x0 x1 : Value} (h : Below w.heap.size w W ∧ W.cell? p0 = some x0 ∧ W.cell? p1 = some x1) (hb : Below W.heap.size W W') : Below w.heap.size w W' ∧ W'.cell? p0 = some x0 ∧ W'.cell? p1 = some x1 := ⟨h.1.trans (hb.mono h.1.size), keepc hb h.2.1, keepc hb h.2.2⟩
set_option maxHeartbeats 4000000 in
theorem heldW_any (v : Value) (n : Nat) (k0 : Int) (w : World) (hn : n ≤ 1048576) (h0 : 0 < k0) (h1 : k0 ≤ 7000000) (hs : Sg w v 2 n (wF (fun j => mT (k0 + 2 * j)) (fun j => mH (k0 + 2 * j + 1)))) :
    Calls Try.prog 46 #[v, .int .i64 k0] w fun e w' => e = .returned (.int .i64 (k0 + 2 * n)) ∧ Below w.heap.size w w' := by
  obtain ⟨a, c, rfl, hs⟩ := hs
  go_enter Try.func46, Try.ntmps46
  go_wp2
  go_loopw [1, 5] (fun t i wr => ∃ j : Nat, j ≤ n ∧ i = .int .i64 j ∧ t = .int .i64 (k0 + 2 * j) ∧ Below w.heap.size w wr) (fun _ i _ => n - (intOf i).toNat)
  case atStart => exact ⟨0, Nat.zero_le _, rfl, by simp, Below.refl _ _⟩
  case round =>
    obtain ⟨j, hj, rfl, rfl, hb⟩ := hrel
    by_cases hlt : j < n
    · obtain ⟨g, off, rfl, hc⟩ := hs (by omega)
      have q0 : wr.cell? ⟨g, off + j * 2, none⟩ = some (.string (mT (k0 + 2 * j))) := keepc hb (hc j hlt 0 (by decide))
      have q1 : wr.cell? ⟨g, off + j * 2 + 1, none⟩ = some (.bool (mH (k0 + 2 * j + 1))) := keepc hb (hc j hlt 1 (by decide))
      have HT := hide (fun W => markText_any (k0 + 2 * j) W (by omega) (by omega))
      have HB := hide hb
      have hss : ((mT (k0 + 2 * j)).toList == (mT (k0 + 2 * j)).toList) = true := str_self _
      clear hs hc hb
      obtain ⟨y, hy⟩ : ∃ y : Bool, mH (k0 + 2 * j + 1) = y := ⟨_, rfl⟩
      have hz : ((k0 + 2 * (j : Int) + 1) % 3 == 0) = y := hy
      rw [hy] at q1
      clear hy
      generalize mT (k0 + 2 * j) = tx at HT q0 hss
      have hk0 : (0 : Int) ≤ (j : Int) := by omega
      have hk1 : (j : Int) < (n : Int) := by omega
      have hbk := HB.out
      go_wp2
      go_region_held3 (fun w' => Below w.heap.size w w' ∧ w'.cell? ⟨g, off + j * 2, none⟩ = some (.string tx) ∧ w'.cell? ⟨g, off + j * 2 + 1, none⟩ = some (.bool y)) (first | exact ⟨hbk.drew, q0, q1⟩ | exact keep2M (by assumption) hbc) (first | (go_at_call 49; refine (HT.out _).mono ?_; rintro e w2 ⟨rfl, hbc⟩))
      rename_i hS
      obtain ⟨hS1, _, c1⟩ := hS
      have HS := hide hS1
      clear hS1 q0 q1
      cases y
      · go_wp2
        go_roundw
        case rel => exact ⟨j + 1, by omega, by go_num, by go_num, HS.out⟩
        case measure => simp [intOf]; omega
      · go_wp2
        go_roundw
        case rel => exact ⟨j + 1, by omega, by go_num, by go_num, HS.out⟩
        case measure => simp [intOf]; omega
    · have e : j = n := by omega
      subst e
      have HB := hide hb
      clear hs hb
      go_wp2
      go_ret
      exact ⟨rfl, HB.out⟩

end Go.Proofs.Ytnkocikbapbbmaa

/- one of several operations that may come next, calls too. No seat's function is named. -/
namespace Go.Proofs.Ytnkocikbapbbmaa
open Go.RowKit
set_option linter.unusedVariables false
section
variable {P : Program} {ops : Array Oper} {Q : Exit → Act → World → Prop} {md : Region.Mode} {S : World → Prop} {z n : Nat} {done : Array Bool} {a : Act} {w : World}
/-- one of several operations that may come next -/
def KE (P : Program) (md : Region.Mode) (ops : Array Oper) (Q : Exit → Act → World → Prop) (S : World → Prop) (z n : Nat) (done : Array Bool) (a : Act) (w : World) (i : Nat) : Prop :=
  ∃ o, ops[i]? = some o ∧ Region.wanted o (yielded ops a.tmps) = true ∧ ((∃ v w', (execOp a.eval o).run P w = .ok (.value v) w' ∧ (i ≠ z → S w') ∧ wpAnyK P md ops Q (But S z) n (done.setIfInBounds i true) (a.put o.dst v) w') ∨
    (∃ f args R, (execOp a.eval o).run P w = .ok (.enter f args) w ∧ Calls P f args w R ∧ ∀ e V, R e V → ∃ v, e = .returned v ∧ (i ≠ z → S V) ∧ wpAnyK P md ops Q (But S z) n (done.setIfInBounds i true) (a.put o.dst v) V))
theorem kd_each {l : List Nat} (hr : Region.ready md ops done = l) (hl : l.isEmpty = false) (h : AllM (KE P md ops Q S z n done a w) l) : wpAnyK P md ops Q (But S z) (n + 1) done a w := by
  refine ⟨fun h0 => (by rw [hr] at h0; rw [h0] at hl; cases hl), fun j hj => ?_⟩
  rw [hr] at hj
  obtain ⟨o, ho, hw, h | h⟩ := h.mem j hj
  · obtain ⟨v, w', hrn, hS, hk⟩ := h
    refine wpOp_step ho (fun K' hK => ?_)
    rw [if_pos hw]
    unfold Oper.wp
    rw [hrn]
    exact hK _ _ ⟨hS, hk⟩
  · obtain ⟨f, args, R, hrn, hc, hk⟩ := h
    refine wpOp_step ho (fun K' hK => ?_)
    rw [if_pos hw]
    unfold Oper.wp
    rw [hrn]
    refine Calls.mono hc (fun e V hR => ?_)
    obtain ⟨v, rfl, hS, hk2⟩ := hk e V hR
    exact hK _ _ ⟨hS, hk2⟩
end
theorem Lr.lower {w : World} {base base' : Nat} {wv gv dv uv : Value} {p : Lk} (h : Lr w base wv gv dv uv p) (hb : base' ≤ base) : Lr w base' wv gv dv uv p :=
  ⟨h.wa.base hb, h.go.base hb, h.dn.base hb, h.up.base hb, h.aw, h.ag, h.ad⟩
end Go.Proofs.Ytnkocikbapbbmaa
