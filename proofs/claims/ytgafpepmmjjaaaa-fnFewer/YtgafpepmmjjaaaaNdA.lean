/- the reader's net -/
import Derived.Test.YtgafpepmmjjaaaaNtU
import Derived.Test.YtgafpepmmjjaaaaRdE
namespace Go.Proofs.Ytgafpepmmjjaaaa
open Go.RowKit
set_option linter.unusedVariables false
set_option linter.unusedSimpArgs false

theorem grown_any {w w' : World} {row : Option Nat} (hb : Below w.heap.size w w') : w.grownBy w' row := ⟨hb.os, hb.tape, hb.output, hb.size, fun k hk _ => hb.block k hk⟩
theorem grown_set (w : World) (B i : Nat) (v : Value) : w.grownBy (w.setCell ⟨B, i, none⟩ v) (some B) := by
  have h := (Below.refl B w).setCell (p := ⟨B, i, none⟩) (Nat.le_refl _) v
  exact ⟨h.os, h.tape, h.output, h.size, fun k hk hne => heap_setCell_other _ _ _ _ (fun e => hne (by rw [e]))⟩
theorem gr_young {w wr w2 : World} {g : Nat} {row : Option Nat} (h : w.grownBy wr (some g)) (k : wr.grownBy w2 row) (hr : ∀ j, row = some j → w.heap.size ≤ j) : w.grownBy w2 (some g) :=
  ⟨k.os.trans h.os, k.tape.trans h.tape, k.output.trans h.output, Nat.le_trans h.size k.size, fun j hj hne => (k.block j (Nat.lt_of_lt_of_le hj h.size) (fun e => by have := hr j e.symm; omega)).trans (h.block j hj hne)⟩
theorem heap_b {w w' : World} {g : Nat} {x : Obj} (h : w.heap[g]? = some x) (hb : Below w.heap.size w w') : w'.heap[g]? = some x := (hb.block g (lt_of_block h)).trans h

/-- one more link -/
def f2 (f : Nat → Nat → Int) (n : Nat) (a b : Int) : Nat → Nat → Int := fun j i => if j = n then (if i = 0 then a else b) else f j i
theorem rowC_snoc (n : Nat) (f : Nat → Nat → Int) (a b : Int) : rowC 2 n n f ++ [Value.int .i64 a, Value.int .i64 b] = rowC 2 (n + 1) (n + 1) (f2 f n a b) := by
  apply List.ext_getElem?
  intro x
  by_cases h1 : x < n * 2
  · rw [List.getElem?_append_left (by rw [rowC_length]; exact h1), rowC_get h1, rowC_get (by omega)]
    have e : x / 2 < n := by omega
    rw [if_pos e, if_pos (by omega)]
    simp only [f2]
    rw [if_neg (by omega)]
  · rw [List.getElem?_append_right (by rw [rowC_length]; omega), rowC_length]
    by_cases h2 : x = n * 2
    · subst h2
      rw [rowC_get (by omega), Nat.sub_self, if_pos (by omega)]
      simp [f2]
    · by_cases h3 : x = n * 2 + 1
      · subst h3
        rw [rowC_get (by omega), if_pos (by omega)]
        have e1 : (n * 2 + 1) / 2 = n := by omega
        have e2 : (n * 2 + 1) % 2 = 1 := by omega
        simp [f2, e1, e2]
      · rw [rowC_none (by omega)]
        exact List.getElem?_eq_none (by simp; omega)

/-- a net in a variable B, the answer's variable ahead of it, beside an elder reader g -/
structure Nd (w V : World) (g B : Nat) (N : Int) (u : Value) (n : Nat) (f : Nat → Nat → Int) : Prop where
  rd : Rdr V g
  gr : w.grownBy V (some g)
  res : V.heap[w.heap.size]? = some (.cells (nt 0 nilS) 26 (0, 0))
  box : V.heap[B]? = some (.cells (nt N u) 26 (0, 0))
  row : Orow V (B + 1) 31 2 u n n f
  lo : g < w.heap.size ∧ w.heap.size < B
theorem Nd.read {w V V' : World} {g B : Nat} {N : Int} {u : Value} {n : Nat} {f : Nat → Nat → Int} (h : Nd w V g B N u n f) (hr : Rdr V' g) (hg : V.grownBy V' (some g)) : Nd w V' g B N u n f := by
  obtain ⟨l1, l2⟩ := h.lo
  refine ⟨hr, grown_trans h.gr hg, (hg.block _ (lt_of_block h.res) (by simp; omega)).trans h.res, (hg.block _ (lt_of_block h.box) (by simp; omega)).trans h.box, ?_, h.lo⟩
  refine World.ownsRow.kept h.row hg ?_
  cases hv : u.ownBlock with
  | none => exact .inl rfl
  | some k => exact .inr (fun e => by have := (World.ownsRow.lt h.row k hv).1; simp at e; omega)
theorem Nd.put {w V V' : World} {g B : Nat} {N : Int} {u u' : Value} {n : Nat} {f : Nat → Nat → Int} {a b : Int} (h : Nd w V g B N u n f)
    (ho : Orow V' (B + 1) 31 2 u' (n + 1) (n + 1) (f2 f n a b)) (hg : (V.alloc (.cells (pr a b) 31)).grownBy V' u.ownBlock) : Nd w (V'.setCell ⟨B, 1, none⟩ u') g B N u' (n + 1) (f2 f n a b) := by
  obtain ⟨l1, l2⟩ := h.lo
  have hzb := lt_of_block h.box
  have hlt : ∀ j, u.ownBlock = some j → B + 1 ≤ j := fun j hj => (World.ownsRow.lt h.row j hj).1
  have hA : Below V.heap.size V (V.alloc (.cells (pr a b) 31)) := (Below.refl _ _).alloc (Nat.le_refl _) _
  have hrd : Rdr V' g := (h.rd.below hA).grown hg (fun k hk => by have := hlt k hk; omega)
  have hgr : w.grownBy V' (some g) := gr_young (gr_young h.gr (grown_any (row := none) hA) (fun k hk => by cases hk)) hg (fun k hk => by have := hlt k hk; omega)
  have hres : V'.heap[w.heap.size]? = some (.cells (nt 0 nilS) 26 (0, 0)) := (hg.block _ (by simp; omega) (fun e => by have := hlt _ e.symm; omega)).trans (heap_b h.res hA)
  have hbox : V'.heap[B]? = some (.cells (nt N u) 26 (0, 0)) := (hg.block _ (by simp; omega) (fun e => by have := hlt _ e.symm; omega)).trans (heap_b h.box hA)
  have hs := grown_set V' B 1 u'
  refine ⟨hrd.grown hs (fun k hk => by simp at hk; omega), gr_young hgr hs (fun k hk => by simp at hk; omega), (hs.block _ (lt_of_block hres) (by simp; omega)).trans hres, ?_, ?_, h.lo⟩
  · rw [heap_setCell_same _ _ 1 _ _ _ hbox]; rfl
  · refine World.ownsRow.kept ho hs ?_
    cases hv : u'.ownBlock with
    | none => exact .inl rfl
    | some k => exact .inr (fun e => by have := (World.ownsRow.lt ho k hv).1; simp at e; omega)
theorem Nd.start {w w1 : World} {g : Nat} {N : Int} (hr : Rdr w1 g) (hgl : g < w.heap.size) (hg : (w.alloc (.cells (nt 0 nilS) 26)).grownBy w1 (some g)) : Nd w (w1.alloc (.cells (nt N nilS) 26)) g w1.heap.size N nilS 0 (fun _ _ => 0) := by
  have hz := hg.size
  simp only [World.size_alloc] at hz
  have hA : Below w1.heap.size w1 (w1.alloc (.cells (nt N nilS) 26)) := (Below.refl _ _).alloc (Nat.le_refl _) _
  have hres : w1.heap[w.heap.size]? = some (.cells (nt 0 nilS) 26 (0, 0)) := by
    rw [hg.block _ (by simp) (fun e => by simp at e; omega)]
    exact heap_alloc_new _ _
  exact ⟨hr.below hA, gr_young (grown_trans (grown_alloc _ _ _) hg) (grown_any (row := none) hA) (fun k hk => by cases hk), heap_b hres hA, heap_alloc_new _ _, World.ownsRow_nil _ _ _ _, hgl, by omega⟩
/-- the second number of the first link is another one -/
theorem Nd.poke {w V : World} {g B gl cap : Nat} {N : Int} {n : Nat} {f : Nat → Nat → Int} (h : Nd w V g B N (.slice (some ⟨gl, 0, none⟩) n cap) n f) (hn : 0 < n) (z : Int) : ∃ f', Nd w (V.setCell ⟨gl, 1, none⟩ (.int .i64 z)) g B N (.slice (some ⟨gl, 0, none⟩) n cap) n f' := by
  obtain ⟨l1, l2⟩ := h.lo
  have hb := World.ownsRow.lt h.row gl rfl
  have hs := grown_set V gl 1 (.int .i64 z)
  refine ⟨fun j i => if j = 0 ∧ i = 1 then z else f j i, h.rd.grown hs (fun k hk => by simp at hk; omega), gr_young h.gr hs (fun k hk => by simp at hk; omega), (hs.block _ (lt_of_block h.res) (by simp; omega)).trans h.res, (hs.block _ (lt_of_block h.box) (by simp; omega)).trans h.box, ?_, h.lo⟩
  have h2 := (World.ownsRow.stored h.row 1 (.int .i64 z)).1
  unfold Orow
  have e : (rowC 2 n n f).set 1 (.int .i64 z) = rowC 2 n n (fun j i => if j = 0 ∧ i = 1 then z else f j i) := by
    apply List.ext_getElem?
    intro x
    by_cases hx : x < n * 2
    · rw [rowC_get hx]
      by_cases e1 : x = 1
      · subst e1
        rw [List.getElem?_set_self (by rw [rowC_length]; omega), if_pos (by omega)]
        simp
      · rw [List.getElem?_set_ne (by omega), rowC_get hx, if_pos (by omega), if_pos (by omega)]
        have : ¬ (x / 2 = 0 ∧ x % 2 = 1) := by omega
        simp only [this, if_false]
    · rw [rowC_none (by omega)]
      exact List.getElem?_eq_none (by rw [List.length_set, rowC_length]; omega)
  rw [← e]
  exact h2
/-- the net handed back -/
theorem Nd.fin {w V : World} {g B : Nat} {N : Int} {u : Value} {n : Nat} {f : Nat → Nat → Int} (h : Nd w V g B N u n f) : Orow ((V.setCell ⟨w.heap.size, 0, none⟩ (.int .i64 N)).setCell ⟨w.heap.size, 1, none⟩ u) w.heap.size 31 2 u n n f ∧ Rdr ((V.setCell ⟨w.heap.size, 0, none⟩ (.int .i64 N)).setCell ⟨w.heap.size, 1, none⟩ u) g ∧ w.grownBy ((V.setCell ⟨w.heap.size, 0, none⟩ (.int .i64 N)).setCell ⟨w.heap.size, 1, none⟩ u) (some g) := by
  obtain ⟨l1, l2⟩ := h.lo
  have hs : V.grownBy ((V.setCell ⟨w.heap.size, 0, none⟩ (.int .i64 N)).setCell ⟨w.heap.size, 1, none⟩ u) (some w.heap.size) := grown_trans (grown_set _ _ _ _) (grown_set _ _ _ _)
  refine ⟨?_, h.rd.grown hs (fun k hk => by simp at hk; omega), gr_young h.gr hs (fun k hk => by simp at hk; omega)⟩
  have h2 : Orow ((V.setCell ⟨w.heap.size, 0, none⟩ (.int .i64 N)).setCell ⟨w.heap.size, 1, none⟩ u) (B + 1) 31 2 u n n f := by
    refine World.ownsRow.kept h.row hs ?_
    cases hv : u.ownBlock with
    | none => exact .inl rfl
    | some k => exact .inr (fun e => by have := (World.ownsRow.lt h.row k hv).1; simp at e; omega)
  exact h2.lower (by omega)

set_option maxHeartbeats 8000000 in
set_option maxRecDepth 20000 in
theorem net_any (g : Nat) (w : World) (h : Rdr w g) :
    Calls Try.prog 28 #[.pointer (some ⟨g, 0, none⟩)] w fun e w' => ∃ (N : Int) (u : Value) (n : Nat) (f : Nat → Nat → Int), e = .returned (.agg (nt N u)) ∧ 1 ≤ N ∧ N ≤ 6 ∧ n ≤ 100 ∧ Orow w' w.heap.size 31 2 u n n f ∧ Rdr w' g ∧ w.grownBy w' (some g) := by
  have hgl := h.lt
  obtain ⟨i0, hi, hz0, hz1, hz2⟩ := info_parts infoA2
  go_enter Try.func28, Try.ntmps28
  go_wp2_with fail
  refine (below_any g 6 _ (h.grown (grown_alloc _ _ none) (fun k hk => by cases hk)) (by decide) (by decide)).mono ?_
  rintro e w1 ⟨c, rfl, hc0, hc1, hr1, hg1⟩
  obtain ⟨M, hM⟩ : ∃ M : Nat, 1 + c = M := ⟨(1 + c).toNat, by omega⟩
  have hwc : wrap64 (1 + c) = (M : Int) := by rw [Go.IntWalk.wrap64_in _ (by omega)]; exact hM
  have hM1 : 1 ≤ M := by omega
  have hM6 : M ≤ 6 := by omega
  have HD : Hid (Nd w (w1.alloc (.cells (nt M nilS) 26)) g w1.heap.size M nilS 0 (fun _ _ => 0)) := hide (Nd.start hr1 hgl hg1)
  clear hr1 hg1 hM h hgl hc0 hc1
  generalize hBB : w1.heap.size = B at HD
  go_wp2
  clear hBB
  (try simp only [hwc])
  clear hwc
  go_loopw [4] (fun i wr => ∃ (k : Nat) (u : Value) (n : Nat) (f : Nat → Nat → Int), k ≤ M ∧ i = .int .i64 k ∧ n ≤ 6 * k ∧ Hid (Nd w wr g B M u n f)) (fun i _ => M - (intOf i).toNat)
  case atStart => exact ⟨0, _, _, _, Nat.zero_le _, rfl, Nat.le_refl _, HD⟩
  case round =>
    clear HD
    obtain ⟨k, u, n, f, hk, rfl, hn, HD⟩ := hrel
    obtain ⟨_, n0, n1⟩ := row2_facts HD.out.box
    by_cases hlt : k < M
    · go_wp2
      go_loopw [5] (fun i wr => ∃ (q : Nat) (u : Value) (n : Nat) (f : Nat → Nat → Int), q ≤ M ∧ i = .int .i64 q ∧ n ≤ 6 * k + q ∧ Hid (Nd w wr g B M u n f)) (fun i _ => M - (intOf i).toNat)
      case atStart => exact ⟨k + 1, _, _, _, by omega, by go_num, by omega, HD⟩
      case round =>
        clear HD n0 n1
        obtain ⟨q, u, n, f, hq, rfl, hn, HD⟩ := hrel
        obtain ⟨_, n0, n1⟩ := row2_facts HD.out.box
        by_cases hqM : q < M
        · go_wp2_with fail
          refine (once_any g 2 _ HD.out.rd (by decide) (by decide)).mono ?_
          rintro e V2 ⟨t, rfl, hr2, hg2⟩
          have HD2 := hide (HD.out.read hr2 hg2)
          clear hr2 hg2 HD n0 n1
          cases t with
          | false =>
            go_wp2
            go_roundw
            case rel => exact ⟨q + 1, _, _, _, by omega, by go_num, by omega, HD2⟩
            case measure => simp [intOf]; omega
          | true =>
            obtain ⟨fb, n0, n1⟩ := row2_facts HD2.out.box
            have fb1 := fb 1
            have hrow := HD2.out.row
            unfold Orow at hrow
            have hzB := lt_of_block HD2.out.box
            have hnew : ∀ j x, [Value.int .i64 (k : Int), Value.int .i64 (q : Int)][j]? = some x → (V2.alloc (.cells (pr k q) 31)).cell? ((⟨V2.heap.size, 0, none⟩ : Addr).add j) = some x := by
              intro j x hj
              have hh := heap_alloc_new V2 (.cells (pr k q) 31)
              rw [addr_add, Nat.zero_add, cell_of_row _ _ j _ _ _ hh]
              match j, hj with
              | 0, hj => simpa using hj
              | 1, hj => simpa using hj
            have HF : Hid (∀ v' w1, w1.ownsRow (B + 1) 31 2 v' (n + 1) (rowC 2 n n f ++ [Value.int .i64 (k : Int), Value.int .i64 (q : Int)]) → (V2.alloc (.cells (pr k q) 31)).grownBy w1 u.ownBlock → (Nd w (w1.setCell ⟨B, 1, none⟩ v') g B M v' (n + 1) (f2 f n k q) ∧ (w1.heap[B]? = some (.cells (nt M u) 26 (0, 0)))) ∧ ∃ ga ca, v' = .slice (some ⟨ga, 0, none⟩) (n + 1) ca) := hide (fun v' w1 ho hg => by
              have ho2 : Orow w1 (B + 1) 31 2 v' (n + 1) (n + 1) (f2 f n k q) := by unfold Orow; rw [← rowC_snoc]; exact ho
              refine ⟨⟨HD2.out.put ho2 hg, ?_⟩, ?_⟩
              · have hlt5 : ∀ j, u.ownBlock = some j → B + 1 ≤ j := fun j hj => (World.ownsRow.lt HD2.out.row j hj).1
                exact (hg.block _ (by simp; omega) (fun e => by have := hlt5 _ e.symm; omega)).trans (heap_b HD2.out.box ((Below.refl _ _).alloc (Nat.le_refl _) _))
              · rcases ho2.2 with ⟨_, e⟩ | ⟨g', cap', cur, e, _⟩
                · omega
                · exact ⟨g', cap', e⟩)
            clear HD2
            go_wp2_with (at_builtin; refine wpList_append_own _ rfl _ _ 24 rfl (B + 1) 31 i0 (.agg #[.int .i64 0, .int .i64 0]) 2 16 Try.underlying24 hi hz0 hz1 hz2 rfl (by decide) _ _ _ rfl (World.ownsRow.alloc hrow _) ⟨V2.heap.size, 0, none⟩ 1 1 [.int .i64 (k : Int), .int .i64 (q : Int)] rfl rfl hnew (by intro u hu; simp at hu; rcases hu with rfl | rfl <;> rfl) (by unfold maxLen; omega) (by omega) (by simp; omega) ?_)
            intro v' w1 hown' hgrow _
            obtain ⟨⟨hnd, hbx⟩, ga, ca, rfl⟩ := HF.out v' w1 hown' hgrow
            obtain ⟨fb, m0, m1⟩ := row2_facts hbx
            have fb1 := fb 1
            have HD3 := hide hnd
            clear hown' hgrow hnd hbx HF hrow hnew n0 n1
            go_wp2
            go_roundw
            case rel => exact ⟨q + 1, _, _, _, by omega, by go_num, by omega, HD3⟩
            case measure => simp [intOf]; omega
        · go_wp2
          go_roundw
          case rel => exact ⟨k + 1, _, _, _, by omega, by go_num, by omega, HD⟩
          case measure => simp [intOf]; omega
    · go_wp2_with fail
      refine (once_any g 30 _ HD.out.rd (by decide) (by decide)).mono ?_
      rintro e V2 ⟨t, rfl, hr2, hg2⟩
      have HD2 := hide (HD.out.read hr2 hg2)
      clear hr2 hg2 HD n0 n1
      obtain ⟨ua, uc, rfl⟩ : ∃ ua uc, u = .slice ua n uc := by
        rcases HD2.out.row.2 with ⟨e, e2⟩ | ⟨g', cap', cur, e, _⟩
        · exact ⟨none, 0, by rw [e2]; exact e⟩
        · exact ⟨_, cap', e⟩
      obtain ⟨_, k0, k1⟩ := row2_facts HD2.out.box
      cases t with
      | false =>
        obtain ⟨_, x0, x1⟩ := row2_facts HD2.out.box
        obtain ⟨fr, r0, r1⟩ := row2_facts HD2.out.res
        have hne : ¬ w.heap.size = B := by have := HD2.out.lo; omega
        have HF := hide HD2.out.fin
        clear HD2 k0 k1
        go_wp2
        refine bodyPost_ret (v := .agg (nt M (.slice ua n uc))) (by simp [results, Try.results28, go_sem, r0, r1]) rfl ⟨M, _, n, f, rfl, by omega, by omega, by omega, HF.out.1, HF.out.2.1, HF.out.2.2⟩
      | true =>
        by_cases hn0 : n = 0
        · subst hn0
          obtain ⟨_, x0, x1⟩ := row2_facts HD2.out.box
          obtain ⟨fr, r0, r1⟩ := row2_facts HD2.out.res
          have hne : ¬ w.heap.size = B := by have := HD2.out.lo; omega
          have HF := hide HD2.out.fin
          clear HD2 k0 k1
          go_wp2
          refine bodyPost_ret (v := .agg (nt M (.slice ua 0 uc))) (by simp [results, Try.results28, go_sem, r0, r1]) rfl ⟨M, _, 0, f, rfl, by omega, by omega, by omega, HF.out.1, HF.out.2.1, HF.out.2.2⟩
        · obtain ⟨gl, rfl⟩ : ∃ gl, ua = some ⟨gl, 0, none⟩ := by
            rcases HD2.out.row.2 with ⟨_, e2⟩ | ⟨g', cap', cur, e, _⟩
            · omega
            · simp only [Value.slice.injEq] at e; exact ⟨g', e.1⟩
          have hnp : 0 < n := by omega
          have hnI : (0 : Int) < (n : Int) := by omega
          have hglB : ¬ B = gl := by have := (World.ownsRow.lt HD2.out.row gl rfl).1; omega
          have hrd2 := hide (HD2.out.rd.below ((Below.refl _ _).drew))
          go_wp2
          go_region_held3 (fun w' => w'.cell? ⟨B, 1, none⟩ = some (.slice (some ⟨gl, 0, none⟩) n uc)) (first | exact k1 | exact j1 | exact (other_set (by omega)).trans j1) (first | (go_at_call 30; refine (off_any g 0 5 _ hrd2.out (by decide) (by decide) (by decide)).mono ?_; rintro e V3 ⟨z, rfl, hr3, hg3⟩; have HD3 := hide (HD2.out.read hr3 (grown_trans (grown_any (row := some g) ((Below.refl _ _).drew)) hg3)); have j1 := (row2_facts HD3.out.box).2.2; have jf := World.ownsRow.frozenAt HD3.out.row 1; have jc := World.ownsRow.cellAt HD3.out.row 1 (by omega); rw [rowC_get (by omega)] at jc))
          obtain ⟨f', hnd⟩ := HD3.out.poke hnp z
          have HD4 := hide hnd
          clear hnd HD3 HD2 hr3 hg3 j1 jf jc k0 k1 hrd2
          obtain ⟨_, x0, x1⟩ := row2_facts HD4.out.box
          obtain ⟨fr, r0, r1⟩ := row2_facts HD4.out.res
          have hne : ¬ w.heap.size = B := by have := HD4.out.lo; omega
          have HF := hide HD4.out.fin
          clear HD4
          generalize V3.setCell ⟨gl, 1, none⟩ (.int .i64 z) = V4 at *
          go_wp2
          refine bodyPost_ret (v := .agg (nt M (.slice (some ⟨gl, 0, none⟩) n uc))) (by simp [results, Try.results28, go_sem, r0, r1]) rfl ⟨M, _, n, f', rfl, by omega, by omega, by omega, HF.out.1, HF.out.2.1, HF.out.2.2⟩

end Go.Proofs.Ytgafpepmmjjaaaa
