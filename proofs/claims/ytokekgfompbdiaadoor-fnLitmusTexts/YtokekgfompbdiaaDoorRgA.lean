/- the reader's thread of acts -/
import Derived.Test.YtokekgfompbdiaaDoorRlC
import Derived.Test.YtokekgfompbdiaaDoorDtB
namespace Go.Proofs.YtokekgfompbdiaaDoor
open Go.RowKit
set_option linter.unusedVariables false
set_option linter.unusedSimpArgs false

/-- what is drawn keeps what is the call's own -/
theorem OwA.drawn {w w' : World} {base g : Nat} {v : Value} {xa : List Ac} (h : OwA w base v xa) (hg : w.grownBy w' (some g)) (hlt : g < base) : OwA w' base v xa :=
  h.kept hg (fun k hk e => by have := (World.ownsRow.lt h k hk).1; have := Option.some.inj e; omega)
/-- the world while a thread is drawn -/
structure Tw (w wr : World) (g : Nat) (v : Value) (xa : List Ac) : Prop where
  own : OwA wr w.heap.size v xa
  rd : Rdr wr g
  gr : w.grownBy wr (some g)
  lt : g < w.heap.size
theorem Tw.draw {w wr w' : World} {g : Nat} {v : Value} {xa : List Ac} (h : Tw w wr g v xa) (hr : Rdr w' g) (hg : wr.grownBy w' (some g)) : Tw w w' g v xa := ⟨h.own.drawn hg h.lt, hr, grown_trans h.gr hg, h.lt⟩
theorem Tw.alloc {w wr : World} {g : Nat} {v : Value} {xa : List Ac} (h : Tw w wr g v xa) (o : Obj) : Tw w (wr.alloc o) g v xa := ⟨World.ownsRow.alloc h.own o, h.rd.grown (grown_alloc _ _ none) (fun k hk => by cases hk), grown_trans h.gr (grown_alloc _ _ _), h.lt⟩
theorem Tw.set {w wr : World} {g B i : Nat} {u v : Value} {xa : List Ac} (h : Tw w wr g v xa) (hB : w.heap.size ≤ B) (hne : ∀ k, v.ownBlock = some k → k ≠ B) : Tw w (wr.setCell ⟨B, i, none⟩ u) g v xa := by
  have hl := h.lt
  exact ⟨h.own.kept (grown_setR wr B i u) (fun k hk e => hne k hk (Option.some.inj e).symm), h.rd.grown (grown_setR wr B i u) (fun k hk => by have := Option.some.inj hk; omega), gr_young h.gr (grown_setR wr B i u) (fun k hk => by have := Option.some.inj hk; omega), h.lt⟩
theorem Tw.more {w wr wy : World} {g : Nat} {v v' : Value} {xa : List Ac} {a : Ac} {o : Obj} (h : Tw w wr g v xa)
    (ho : wy.ownsRow w.heap.size 42 5 v' (xa.length + 1) (cAs xa ++ cA a)) (hg : (wr.alloc o).grownBy wy v.ownBlock) : Tw w wy g v' (xa ++ [a]) := by
  have h2 := h.alloc o
  have hl := h.lt
  exact ⟨OwA.snoc ho, h2.rd.grown hg (fun k hk => by have := (World.ownsRow.lt h.own k hk).1; omega), gr_young h2.gr hg (fun k hk => (World.ownsRow.lt h.own k hk).1), h.lt⟩

theorem sets5 {w : World} {B : Nat} {a b c d f : Int} {T : TypeId} (q : w.heap[B]? = some (.cells (five a b c d f) T (0, 0))) (a' b' c' d' f' : Int) :
    (((((w.setCell ⟨B, 0, none⟩ (.int .i64 a')).setCell ⟨B, 1, none⟩ (.int .i64 b')).setCell ⟨B, 2, none⟩ (.int .i64 c')).setCell ⟨B, 3, none⟩ (.int .i64 d')).setCell ⟨B, 4, none⟩ (.int .i64 f')).heap[B]? = some (.cells (five a' b' c' d' f') T (0, 0)) :=
  heap_setCell_same _ B 4 _ _ _ (heap_setCell_same _ B 3 _ _ _ (heap_setCell_same _ B 2 _ _ _ (heap_setCell_same _ B 1 _ _ _ (heap_setCell_same _ B 0 _ _ _ q))))
theorem box5c {w : World} {B : Nat} {a b c d f : Int} {T : TypeId} (h : w.heap[B]? = some (.cells (five a b c d f) T (0, 0))) : (∀ i, w.frozen? ⟨B, i, none⟩ = false) ∧ w.cell? ⟨B, 0, none⟩ = some (.int .i64 a) ∧ w.cell? ⟨B, 1, none⟩ = some (.int .i64 b) ∧ w.cell? ⟨B, 2, none⟩ = some (.int .i64 c) ∧ w.cell? ⟨B, 3, none⟩ = some (.int .i64 d) ∧ w.cell? ⟨B, 4, none⟩ = some (.int .i64 f) :=
  ⟨fun i => frozen_of_row _ _ i _ _ h, (cell_of_row _ _ 0 _ _ _ h).trans rfl, (cell_of_row _ _ 1 _ _ _ h).trans rfl, (cell_of_row _ _ 2 _ _ _ h).trans rfl, (cell_of_row _ _ 3 _ _ _ h).trans rfl, (cell_of_row _ _ 4 _ _ _ h).trans rfl⟩

/-- what the reader's thread is -/
def ThPost (g : Nat) (w : World) (e : Ending) (w' : World) : Prop := ∃ v xa, e = .returned v ∧ Tw w w' g v xa ∧ xa.length ≤ 3

set_option maxRecDepth 20000 in
set_option maxHeartbeats 4000000 in
theorem thread_any (g : Nat) (co : Int) (w : World) (h : Rdr w g) : Calls Tryd.prog 39 #[.pointer (some ⟨g, 0, none⟩), .int .i64 co] w (ThPost g w) := by
  obtain ⟨i0, hi, hz0, hz1, hz2⟩ := info_parts infoBAct
  have hgl := h.lt
  have HW0 : Hid (Tw w (w.alloc (.cells #[] 42)) g (.slice (some ⟨w.heap.size, 0, none⟩) 0 0) []) := hide ⟨⟨rfl, .inr ⟨w.heap.size, 0, #[], rfl, Nat.le_refl _, heap_alloc_new _ _, Nat.le_refl _, by decide, rfl, rfl⟩⟩, h.grown (grown_alloc _ _ none) (fun k hk => by cases hk), grown_alloc _ _ _, hgl⟩
  clear h
  go_enter Tryd.func39, Tryd.ntmps39
  go_wp2_with fail
  refine (below_any g 4 _ HW0.out.rd (by decide) (by decide)).mono ?_
  rintro e w1 ⟨n, rfl, hn0, hn1, hr, hg⟩
  obtain ⟨m, rfl⟩ := Int.eq_ofNat_of_zero_le hn0
  have HW1 := hide (HW0.out.draw hr hg)
  clear hr hg HW0
  go_wp2
  go_loopw [5, 6] (fun v i wr => ∃ (k : Nat) (xa : List Ac), i = .int .i64 k ∧ k ≤ 3 ∧ Hid (xa.length + k ≤ 3) ∧ Hid (Tw w wr g v xa)) (fun _ i _ => (intOf i).toNat)
  case atStart => exact ⟨m, [], rfl, by omega, hide (by simp; omega), HW1⟩
  case round =>
    clear HW1
    obtain ⟨k, xa, rfl, hk3, HL, HW⟩ := hrel
    by_cases hk : 0 < k
    · have hki : (0 : Int) < (k : Int) := by omega
      have hxl : xa.length ≤ 3 := by have := HL.out; omega
      go_wp2_with fail
      refine (bact_any g _ HW.out.rd).mono ?_
      rintro e w2 ⟨a, b, c, d, f, rfl, hr, hg⟩
      have HW2 := hide (HW.out.draw hr hg)
      clear hr hg HW
      by_cases hk4 : a = 4
      · subst hk4
        have HW3 := hide (HW2.out.alloc (.cells (five 4 b c d f) 42))
        have q3 : (w2.alloc (.cells (five 4 b c d f) 42)).heap[w2.heap.size]? = some (.cells (five 4 b c d f) 42 (0, 0)) := heap_alloc_new _ _
        have hgw2 : g < w2.heap.size := HW2.out.rd.lt
        go_wp2_with fail
        refine (below_any g 2 _ HW3.out.rd (by decide) (by decide)).mono ?_
        rintro e w3 ⟨x, rfl, _, _, hr, hg⟩
        have HW4 := hide (HW3.out.draw hr hg)
        have q4 := (hg.block w2.heap.size (by simp) (fun e => by have := Option.some.inj e; omega)).trans q3
        clear hr hg HW3 q3
        go_wp2_with fail
        refine (below_any g 2 _ HW4.out.rd (by decide) (by decide)).mono ?_
        rintro e w4 ⟨y, rfl, _, _, hr, hg⟩
        have HW5 := hide (HW4.out.draw hr hg)
        have q5 := (hg.block w2.heap.size (lt_of_block q4) (fun e => by have := Option.some.inj e; omega)).trans q4
        clear hr hg HW4 q4
        have hne : ∀ k, u5.ownBlock = some k → k ≠ w2.heap.size := fun k hk e => by have := (World.ownsRow.lt HW2.out.own k hk).2; omega
        have hge : w.heap.size ≤ w2.heap.size := HW2.out.gr.size
        obtain ⟨fz, b0, b1, b2, b3, b4⟩ := box5c q5
        have q6 := sets5 q5 2 0 x 0 y
        have HW6 := hide (((((HW5.out.set (i := 0) (u := .int .i64 2) hge hne).set (i := 1) (u := .int .i64 0) hge hne).set (i := 2) (u := .int .i64 x) hge hne).set (i := 3) (u := .int .i64 0) hge hne).set (i := 4) (u := .int .i64 y) hge hne)
        obtain ⟨W6, hE6⟩ : ∃ W6, (((((w4.setCell ⟨w2.heap.size, 0, none⟩ (.int .i64 2)).setCell ⟨w2.heap.size, 1, none⟩ (.int .i64 0)).setCell ⟨w2.heap.size, 2, none⟩ (.int .i64 x)).setCell ⟨w2.heap.size, 3, none⟩ (.int .i64 0)).setCell ⟨w2.heap.size, 4, none⟩ (.int .i64 y)) = W6 := ⟨_, rfl⟩
        rw [hE6] at q6 HW6
        obtain ⟨fz6, e0, e1, e2, e3, e4⟩ := box5c q6
        have q7 : (W6.setCell ⟨w2.heap.size, 1, none⟩ (.int .i64 co)).heap[w2.heap.size]? = some (.cells (five 2 co x 0 y) 42 (0, 0)) := heap_setCell_same _ _ 1 _ _ _ q6
        have HW7 := hide (HW6.out.set (i := 1) (u := .int .i64 co) hge hne)
        obtain ⟨W7, hE7⟩ : ∃ W7, W6.setCell ⟨w2.heap.size, 1, none⟩ (.int .i64 co) = W7 := ⟨_, rfl⟩
        rw [hE7] at q7 HW7
        obtain ⟨fz7, g0, g1, g2, g3, g4⟩ := box5c q7
        clear HW5 HW6 q5 q6 q7 hne
        obtain ⟨va, vc, ev⟩ := HW7.out.own.form
        subst ev
        have hok : W7.ownsRow w.heap.size 42 5 (.slice va xa.length vc) xa.length (cAs xa) := HW7.out.own
        have hnew := news5 W7 ⟨2, co, x, 0, y⟩
        have hone := one5 ⟨2, co, x, 0, y⟩
        have hsz : w.heap.size ≤ W7.heap.size := HW7.out.gr.size
        have HF : Hid (∀ v' wy, wy.ownsRow w.heap.size 42 5 v' (xa.length + 1) (cAs xa ++ cA ⟨2, co, x, 0, y⟩) → (W7.alloc (.cells (five 2 co x 0 y) 42)).grownBy wy (Value.slice va xa.length vc).ownBlock → Tw w wy g v' (xa ++ [⟨2, co, x, 0, y⟩])) := hide (fun v' wy h1 h2 => HW7.out.more h1 h2)
        go_wp2_with (first | (at_builtin; refine wpList_append_own _ rfl _ _ 34 rfl w.heap.size 42 i0 (.agg #[.int .i64 0, .int .i64 0, .int .i64 0, .int .i64 0, .int .i64 0]) 5 40 Tryd.underlying34 hi hz0 hz1 hz2 rfl (by decide) _ _ _ rfl (World.ownsRow.alloc hok _) ⟨W7.heap.size, 0, none⟩ 1 1 (cA ⟨2, co, x, 0, y⟩) rfl rfl hnew hone (by unfold maxLen; omega) (by omega) (by simp; omega) ?_) | go_in)
        intro v' w6 hown' hgrow _
        have HF2 := hide (HF.out v' w6 hown' hgrow)
        clear hown' hgrow HF hok hnew hone
        have hsub : wrap64 ((k : Int) - 1) = ((k - 1 : Nat) : Int) := by rw [Go.IntWalk.wrap64_in _ (by omega)]; omega
        go_wp2
        go_roundw
        case rel => exact ⟨k - 1, xa ++ [⟨2, co, x, 0, y⟩], by go_num, by omega, hide (by have := HL.out; simp; omega), HF2⟩
        case measure => simp [intOf]; omega
      have hd4 : (a == 4) = false := by simpa using hk4
      obtain ⟨va, vc, ev⟩ := (HW2.out.alloc (.cells (five a co c d f) 42)).own.form
      subst ev
      have hok : (w2.alloc (.cells (five a co c d f) 42)).ownsRow w.heap.size 42 5 (.slice va xa.length vc) xa.length (cAs xa) := (HW2.out.alloc (.cells (five a co c d f) 42)).own
      have hnew := news5 (w2.alloc (.cells (five a co c d f) 42)) ⟨a, co, c, d, f⟩
      have hone := one5 ⟨a, co, c, d, f⟩
      simp only [World.size_alloc] at hnew
      have hsz : w.heap.size ≤ w2.heap.size := HW2.out.gr.size
      have HF : Hid (∀ v' wy, wy.ownsRow w.heap.size 42 5 v' (xa.length + 1) (cAs xa ++ cA ⟨a, co, c, d, f⟩) → ((w2.alloc (.cells (five a co c d f) 42)).alloc (.cells (five a co c d f) 42)).grownBy wy (Value.slice va xa.length vc).ownBlock → Tw w wy g v' (xa ++ [⟨a, co, c, d, f⟩])) := hide (fun v' wy h1 h2 => (HW2.out.alloc (.cells (five a co c d f) 42)).more h1 h2)
      go_wp2_with (first | (at_builtin; refine wpList_append_own _ rfl _ _ 34 rfl w.heap.size 42 i0 (.agg #[.int .i64 0, .int .i64 0, .int .i64 0, .int .i64 0, .int .i64 0]) 5 40 Tryd.underlying34 hi hz0 hz1 hz2 rfl (by decide) _ _ _ rfl (World.ownsRow.alloc hok _) ⟨w2.heap.size + 1, 0, none⟩ 1 1 (cA ⟨a, co, c, d, f⟩) rfl rfl hnew hone (by unfold maxLen; omega) (by omega) (by simp; omega) ?_) | go_in)
      intro v' w6 hown' hgrow _
      have HF2 := hide (HF.out v' w6 hown' hgrow)
      clear hown' hgrow HF hok hnew hone
      have hsub : wrap64 ((k : Int) - 1) = ((k - 1 : Nat) : Int) := by rw [Go.IntWalk.wrap64_in _ (by omega)]; omega
      go_wp2
      go_roundw
      case rel => exact ⟨k - 1, xa ++ [⟨a, co, c, d, f⟩], by go_num, by omega, hide (by have := HL.out; simp; omega), HF2⟩
      case measure => simp [intOf]; omega
    · have hki : ¬ (0 : Int) < (k : Int) := by omega
      go_wp2
      go_ret
      exact ⟨_, xa, rfl, HW.out, by have := HL.out; omega⟩

end Go.Proofs.YtokekgfompbdiaaDoor
