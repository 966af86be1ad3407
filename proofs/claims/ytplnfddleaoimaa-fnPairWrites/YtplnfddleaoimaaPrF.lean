/- slices.Clone of numbers (out of TkB.tpl); twice; PairNew of both sides -/
import Derived.Test.YtplnfddleaoimaaPrE
import Derived.Laws.OwnMore
import Derived.Deep.AppendLies
namespace Go.Proofs.Ytplnfddleaoimaa
open Go.RowKit
set_option linter.unusedVariables false
set_option linter.unusedSimpArgs false

theorem infoI : (Try.prog.info? 2).map (fun i => (i.zero, i.size, i.bytes)) = some (some (.int .i64 0), 1, 8) := by kernel_rfl

theorem nilI_yes (c : Nat) (W : World) : (binOp BinOp.eql 24 (.slice none 0 c) (.slice none 0 0)).run Try.prog W = .ok (.bool true) W := by kernel_rfl

theorem nilI_no (a : Addr) (n c : Nat) (W : World) : (binOp BinOp.eql 24 (.slice (some a) n c) (.slice none 0 0)).run Try.prog W = .ok (.bool false) W := by kernel_rfl

theorem empty_own (w : World) (T : TypeId) (m : Nat) : (w.alloc (.cells #[] T)).ownsRow w.heap.size T m (.slice (some ⟨w.heap.size, 0, none⟩) 0 0) 0 [] :=
  ⟨by simp, .inr ⟨w.heap.size, 0, #[], rfl, Nat.le_refl _, heap_alloc_new _ _, Nat.le_refl _, by unfold maxLen; omega, by simp, by simp⟩⟩

theorem nil_own (w : World) (base : Nat) (T : TypeId) (m : Nat) : w.ownsRow base T m (.slice none 0 0) 0 [] := ⟨by simp, .inl ⟨rfl, rfl⟩⟩

theorem addr_at (b o n : Nat) : (⟨b, o, none⟩ : Addr).add n = ⟨b, o + n, none⟩ := by
  by_cases h : n = 0 <;> simp [Addr.add, h]

theorem Sl.news {w : World} {a : Addr} {c : Nat} {zs : List Int} (h : Sl w (.slice (some a) zs.length c) zs) : ∀ j u, (zs.map (Value.int .i64))[j]? = some u → w.cell? (a.add j) = some u := by
  intro j u hu
  have hj : j < zs.length := by
    by_cases hj : j < zs.length
    · exact hj
    · rw [List.getElem?_eq_none (by simp; omega)] at hu; cases hu
  obtain ⟨ad, cap, e, hc⟩ := h
  obtain ⟨b, off, e2, hc⟩ := hc (by omega)
  simp only [Value.slice.injEq] at e
  obtain ⟨e1, _, _⟩ := e
  rw [e2] at e1
  simp only [Option.some.injEq] at e1
  subst e1
  rw [addr_at, hc j hj]
  rw [List.getElem?_map, List.getElem?_eq_getElem hj] at hu
  simp at hu
  rw [← hu]
  simp [hj]

theorem ints_one {zs : List Int} : ∀ u ∈ zs.map (Value.int .i64), u.oneCell' = true := by
  intro u hu
  simp only [List.mem_map] at hu
  obtain ⟨x, _, rfl⟩ := hu
  rfl

set_option maxHeartbeats 1000000 in
theorem cloneI_any (v : Value) (zs : List Int) (w : World) (h : Sl w v zs) (hl : zs.length ≤ 1000) :
    Calls Try.prog 46 #[v] w fun e w' => ∃ v', e = .returned v' ∧ Ow w' w.heap.size v' zs ∧ Below w.heap.size w w' := by
  obtain ⟨i0, hi, hz0, hz1, hz2⟩ := info_parts infoI
  have HS := hide h
  obtain ⟨ad, cap, rfl, hc⟩ := h
  cases ad with
  | none =>
    have h0 : zs.length = 0 := by
      by_cases hp : 0 < zs.length
      · obtain ⟨b, off, e, _⟩ := hc hp; cases e
      · omega
    have hz : zs = [] := List.eq_nil_of_length_eq_zero h0
    subst hz
    have hq := nilI_yes cap
    clear hc HS h0
    go_enter Try.func46, Try.ntmps46
    go_wp2
    go_ret
    exact ⟨_, rfl, nil_own _ _ _ _, Below.refl _ _⟩
  | some a =>
    have hq := nilI_no a zs.length cap
    have hB : Below w.heap.size w (w.alloc (.cells #[] 2)) := (Below.refl _ _).alloc (Nat.le_refl _) _
    clear hc
    go_enter Try.func46, Try.ntmps46
    go_wp2_with (at_builtin; refine wpList_append_own_at _ rfl _ _ 24 rfl w.heap.size 2 i0 _ 1 8 Try.underlying24 hi hz0 hz1 hz2 rfl (by omega) _ 0 [] rfl (empty_own w 2 1) a zs.length cap (zs.map (Value.int .i64)) rfl (by simp) (HS.out.below hB).news ints_one (by unfold maxLen; omega) (by omega) (by simp) ?_)
    intro v' w1 hown hgrow _ hat
    have HF : Hid (Ow w1 w.heap.size v' zs ∧ Below w.heap.size w w1) := hide ⟨by unfold Ow; simpa using hown, hB.grown hgrow (by simp) (fun k hk => by simp [Value.ownBlock] at hk; omega)⟩
    clear hown hgrow hat hB HS
    go_wp2
    go_ret
    exact ⟨_, rfl, HF.out.1, HF.out.2⟩

/-- n noughts -/
theorem make_ints (n : Nat) (hn : n ≤ 4) (W : World) : (Instr.makeSlice 24 (.int .i64 (n : Int)) (.int .i64 (n : Int))).run Try.prog W = .ok (.slice (some ⟨W.heap.size, 0, none⟩) n n) (W.alloc (.cells (madeCells #[.int .i64 0] n) 2)) := by
  obtain ⟨i0, hi, hz0, hz1, hz2⟩ := info_parts infoI
  have h := run_make (P := Try.prog) (w := W) 24 2 i0 (.int .i64 0) Try.underlying24 hi hz0 .i64 .i64 (n : Int) (n : Int) (by omega) (by omega) (by rw [hz2]; omega) (by omega)
  rw [hz1, Nat.mul_one] at h
  exact h
theorem made_ow (n : Nat) (hn : n ≤ 4) (W : World) : Ow (W.alloc (.cells (madeCells #[.int .i64 0] n) 2)) W.heap.size (.slice (some ⟨W.heap.size, 0, none⟩) n n) (List.replicate n 0) := by
  have e : (madeCells #[Value.int .i64 0] n).toList = List.replicate n (Value.int .i64 0) := by
    have := toList_madeCells_one (Value.int .i64 0) n
    simpa [Value.cells] using this
  have es : (madeCells #[Value.int .i64 0] n).size = n := by
    have := congrArg List.length e
    simpa using this
  refine ⟨by simp, .inr ⟨W.heap.size, n, _, by simp, Nat.le_refl _, heap_alloc_new _ _, ?_, ?_, ?_, ?_⟩⟩
  · simp
  · unfold maxLen; omega
  · rw [es]; simp
  · rw [e]; simp

set_option maxHeartbeats 4000000 in
theorem twice_any (v : Value) (zs : List Int) (w : World) (h : Sl w v zs) (hl : zs.length ≤ 1000) :
    Calls Try.prog 42 #[v] w fun e w' => ∃ ad ac bd bc, e = .returned (.agg (pq (.slice ad zs.length ac) (.slice bd zs.length bc) true true)) ∧ Pw w' w.heap.size w'.heap.size (.slice ad zs.length ac) (.slice bd zs.length bc) zs zs ∧ Below w.heap.size w w' := by
  have HS := hide h
  have HL := hide hl
  have hB0 : Below w.heap.size w (w.alloc (.cells (pq nilS nilS false false) 26)) := (Below.refl _ _).alloc (Nat.le_refl _) _
  have hr := heap_alloc_new w (.cells (pq nilS nilS false false) 26)
  have hsz : (w.alloc (.cells (pq nilS nilS false false) 26)).heap.size = w.heap.size + 1 := by simp
  clear h hl
  go_enter Try.func42, Try.ntmps42
  go_wp2_with fail
  generalize (World.alloc _ _) = W at hB0 hr hsz ⊢
  refine (cloneI_any v zs W (HS.out.below hB0) HL.out).mono ?_
  rintro e w1 ⟨v1, rfl, h1, hb1⟩
  have hB1 := hB0.trans (hb1.mono hB0.size)
  have hr1 := (hb1.block _ (by rw [hsz]; omega)).trans hr
  have l1 := h1.lt
  have s1 := hb1.size
  clear hb1 hB0 hr
  obtain ⟨ad, ac, e1, _⟩ := h1.form
  subst e1
  go_wp2_with fail
  refine (cloneI_any v zs w1 (HS.out.below hB1) HL.out).mono ?_
  rintro e w2 ⟨v2, rfl, h2, hb2⟩
  have hB2 := hB1.trans (hb2.mono hB1.size)
  have hr2 := (hb2.block _ (by omega)).trans hr1
  have l2 := h2.lt
  have s2 := hb2.size
  have h1' := h1.below hb2
  clear hb2 hB1 hr1 h1
  obtain ⟨bd, bc, e2, _⟩ := h2.form
  subst e2
  have hP : Pw w2 W.heap.size w2.heap.size (.slice ad zs.length ac) (.slice bd zs.length bc) zs zs := ⟨h1', h2.mono s1, (fun k a b => by have := l1 k a; have := l2 k b; omega), (fun k a => by have := l1 k a; omega), (fun k a => (l2 k a).2)⟩
  obtain ⟨fr, r0, r1, r2, r3⟩ := row4_facts hr2
  have HX := hide (And.intro hP hB2)
  clear hP hB2 h1' h2 hr2
  go_wp2
  refine bodyPost_ret (v := .agg (pq (.slice ad zs.length ac) (.slice bd zs.length bc) true true)) (by simp [results, Try.results42, go_sem, r0, r1, r2, r3]) rfl ⟨ad, ac, bd, bc, rfl, ?_, ?_⟩
  · simp only [World.size_setCell]
    refine Pw.wide (lo := W.heap.size) (hi := w2.heap.size) ?_ (by rw [hsz]; omega) (Nat.le_refl _)
    iterate 4 (refine Pw.set ?_ (by rw [hsz]; omega))
    exact HX.out.1
  · have hle : w.heap.size ≤ w.heap.size := Nat.le_refl _
    iterate 4 (refine Below.setCell ?_ hle _)
    exact HX.out.2

/-- a new pair -/
def aNew (n : Int) : PA := if 1 ≤ n ∧ n ≤ 4 then ⟨List.replicate n.toNat 0, List.replicate n.toNat 0, true, true, true⟩ else PA.no
theorem aNew_yes (k : Nat) (h1 : 1 ≤ k) (h4 : k ≤ 4) : aNew k = ⟨List.replicate k 0, List.replicate k 0, true, true, true⟩ := by
  unfold aNew
  rw [if_pos (by omega)]
  simp
theorem aNew_no (n : Int) (h : ¬ (1 ≤ n ∧ n ≤ 4)) : aNew n = PA.no := by unfold aNew; rw [if_neg h]

set_option maxHeartbeats 4000000 in
theorem implNew_any (n : Int) (w : World) : Calls Try.prog 24 #[.int .i64 n] w (Post w (aNew n)) := by
  have hA := fun w => sideLen_any n w
  have hB0 : Below w.heap.size w (w.alloc (.cells (pq nilS nilS false false) 26)) := (Below.refl _ _).alloc (Nat.le_refl _) _
  have hr := heap_alloc_new w (.cells (pq nilS nilS false false) 26)
  have hsz : (w.alloc (.cells (pq nilS nilS false false) 26)).heap.size = w.heap.size + 1 := by simp
  by_cases h : 1 ≤ n ∧ n ≤ 4
  · have e1 : inB n 1 5 = true := by simp [inB]; omega
    rw [e1] at hA
    obtain ⟨k, rfl⟩ : ∃ k : Nat, n = k := ⟨n.toNat, by omega⟩
    have HK : Hid (1 ≤ k ∧ k ≤ 4) := hide (by omega)
    rw [aNew_yes k (by omega) (by omega)]
    have hmk := make_ints k (by omega)
    have hmo0 : ∀ W : World, Ow (W.alloc (.cells (madeCells #[.int .i64 0] k) 2)) W.heap.size (.slice (some ⟨W.heap.size, 0, none⟩) k k) (List.replicate k 0) := fun W => made_ow k (by omega) W
    have HZ : Hid ((List.replicate k (0 : Int)).length ≤ 1000 ∧ (List.replicate k (0 : Int)).length = k) := hide (by simp; omega)
    generalize List.replicate k (0 : Int) = zs at hmo0 HZ ⊢
    have HM := hide hmo0
    clear e1 h hmo0
    go_enter Try.func24, Try.ntmps24
    go_wp2_with fail
    generalize (World.alloc _ _) = W at hB0 hr hsz ⊢
    refine (hA W).mono ?_
    rintro e w1 ⟨rfl, rfl⟩
    have hmo := HM.out w1
    have hbm : Below w1.heap.size w1 (w1.alloc (.cells (madeCells #[.int .i64 0] k) 2)) := (Below.refl _ _).alloc (Nat.le_refl _) _
    have hB1 := hB0.trans (hbm.mono hB0.size)
    have hr1 := (hbm.block _ (by rw [hsz]; omega)).trans hr
    have hs1 : (w1.alloc (.cells (madeCells #[.int .i64 0] k) 2)).heap.size = w.heap.size + 1 + 1 := by simp [hsz]
    rw [hsz] at hmo
    clear hbm hB0 hr hA
    go_wp2_with fail
    generalize (World.alloc _ _) = W2 at hB1 hr1 hmo hs1 ⊢
    refine (twice_any _ zs W2 hmo.sl HZ.out.1).mono ?_
    rintro e w2 ⟨ad, ac, bd, bc, rfl, hP, hb2⟩
    have hB2 := hB1.trans (hb2.mono hB1.size)
    have hr2 := (hb2.block _ (by rw [hs1]; omega)).trans hr1
    have s2 := hb2.size
    obtain ⟨fr, r0, r1, r2, r3⟩ := row4_facts hr2
    have HX := hide (And.intro hP hB2)
    clear hB1 hr1 hmo hb2 hB2 hP hr2 hmk
    go_wp2
    refine bodyPost_ret (v := .tuple #[.agg (pq (.slice ad zs.length ac) (.slice bd zs.length bc) true true), .bool true]) (by simp [results, Try.results24, go_sem, r0, r1, r2, r3]) rfl ⟨ad, ac, bd, bc, rfl, ?_, ?_⟩
    · simp only [World.size_setCell]
      refine Pw.wide (lo := W2.heap.size) (hi := w2.heap.size) ?_ (by rw [hs1]; omega) (Nat.le_refl _)
      iterate 4 (refine Pw.set ?_ (by rw [hs1]; omega))
      exact HX.out.1
    · have hle : w.heap.size ≤ w.heap.size := Nat.le_refl _
      iterate 4 (refine Below.setCell ?_ hle _)
      exact HX.out.2
  · have e1 : inB n 1 5 = false := by simp [inB]; omega
    rw [e1] at hA
    rw [aNew_no n h]
    clear e1 h
    go_enter Try.func24, Try.ntmps24
    go_wp2_with fail
    generalize (World.alloc _ _) = W at hB0 hr hsz ⊢
    refine (hA W).mono ?_
    rintro e w1 ⟨rfl, rfl⟩
    obtain ⟨fr, r0, r1, r2, r3⟩ := row4_facts hr
    clear hA hr
    go_wp2
    refine bodyPost_ret (v := .tuple #[.agg (pq nilS nilS false false), .bool false]) (by simp [results, Try.results24, go_sem, r0, r1, r2, r3]) rfl (Post.no ?_)
    have hle : w.heap.size ≤ w.heap.size := Nat.le_refl _
    iterate 4 (refine Below.setCell ?_ hle _)
    exact hB0

abbrev OI (k : Nat) : Obj := .cells (madeCells #[.int .i64 0] k) 2
theorem new_end {w w1 : World} {k : Nat} {zs : List Int} (hsz : w1.heap.size = w.heap.size + 1) (hr : w1.heap[w.heap.size]? = some (.cells (pq nilS nilS false false) 26 (0, 0))) (hB0 : Below w.heap.size w w1)
    (hm : ∀ W : World, Ow (W.alloc (OI k)) W.heap.size (.slice (some ⟨W.heap.size, 0, none⟩) k k) zs) (va vb : Value) (Y : World)
    (hY : (((((((w1.setCell ⟨w.heap.size, 0, none⟩ va).setCell ⟨w.heap.size, 1, none⟩ vb).setCell ⟨w.heap.size, 2, none⟩ (.bool true)).setCell ⟨w.heap.size, 3, none⟩ (.bool true)).alloc (OI k)).alloc (OI k)).drew) = Y) :
    B4 Y w.heap.size va vb (.bool true) (.bool true) ∧ Ow Y (w.heap.size + 1) (.slice (some ⟨w.heap.size + 1, 0, none⟩) k k) zs ∧ Ow Y (w.heap.size + 1) (.slice (some ⟨w.heap.size + 1 + 1, 0, none⟩) k k) zs ∧ Below w.heap.size w Y ∧ Y.heap.size = w.heap.size + 1 + 1 + 1 := by
  have hb1 : Below w.heap.size w ((((w1.setCell ⟨w.heap.size, 0, none⟩ va).setCell ⟨w.heap.size, 1, none⟩ vb).setCell ⟨w.heap.size, 2, none⟩ (.bool true)).setCell ⟨w.heap.size, 3, none⟩ (.bool true)) := by
    have hle : w.heap.size ≤ w.heap.size := Nat.le_refl _
    iterate 4 (refine Below.setCell ?_ hle _)
    exact hB0
  have hx : ((((w1.setCell ⟨w.heap.size, 0, none⟩ va).setCell ⟨w.heap.size, 1, none⟩ vb).setCell ⟨w.heap.size, 2, none⟩ (.bool true)).setCell ⟨w.heap.size, 3, none⟩ (.bool true)).heap[w.heap.size]? = some (.cells #[va, vb, .bool true, .bool true] 26 (0, 0)) := by
    rw [heap_setCell_same _ _ 3 _ _ _ (heap_setCell_same _ _ 2 _ _ _ (heap_setCell_same _ _ 1 _ _ _ (heap_setCell_same _ _ 0 _ _ _ hr)))]; rfl
  have hs : ((((w1.setCell ⟨w.heap.size, 0, none⟩ va).setCell ⟨w.heap.size, 1, none⟩ vb).setCell ⟨w.heap.size, 2, none⟩ (.bool true)).setCell ⟨w.heap.size, 3, none⟩ (.bool true)).heap.size = w.heap.size + 1 := by simp [hsz]
  generalize ((((w1.setCell ⟨w.heap.size, 0, none⟩ va).setCell ⟨w.heap.size, 1, none⟩ vb).setCell ⟨w.heap.size, 2, none⟩ (.bool true)).setCell ⟨w.heap.size, 3, none⟩ (.bool true)) = X at hb1 hx hs hY
  have m1 := hm X
  have m2 := hm (X.alloc (OI k))
  have ha1 : Below X.heap.size X (X.alloc (OI k)) := (Below.refl _ _).alloc (Nat.le_refl _) _
  have ha2 : Below (X.alloc (OI k)).heap.size (X.alloc (OI k)) ((X.alloc (OI k)).alloc (OI k)) := (Below.refl _ _).alloc (Nat.le_refl _) _
  have ha3 : Below ((X.alloc (OI k)).alloc (OI k)).heap.size ((X.alloc (OI k)).alloc (OI k)) ((X.alloc (OI k)).alloc (OI k)).drew := (Below.refl _ _).drew
  have hs2 : (X.alloc (OI k)).heap.size = w.heap.size + 1 + 1 := by simp [hs]
  subst hY
  rw [hs] at m1
  rw [hs2] at m2
  have q : B4 X w.heap.size va vb (.bool true) (.bool true) := (row4_facts hx).2
  refine ⟨((q.below ha1).below ha2).below ha3, (m1.below ha2).below ha3, (m2.below ha3).mono (by omega), ?_, ?_⟩
  · have hb2 := hb1.trans (ha1.mono hb1.size)
    have hb3 := hb2.trans (ha2.mono hb2.size)
    exact hb3.trans (ha3.mono hb3.size)
  · show ((X.alloc (OI k)).alloc (OI k)).heap.size = _
    simp [hs]

set_option maxHeartbeats 4000000 in
theorem specNew_any (n : Int) (w : World) : Calls Try.prog 25 #[.int .i64 n] w (Post w (aNew n)) := by
  have hA := fun w => l1In_any n 1 4 w (by decide)
  have hB0 : Below w.heap.size w (w.alloc (.cells (pq nilS nilS false false) 26)) := (Below.refl _ _).alloc (Nat.le_refl _) _
  have hr := heap_alloc_new w (.cells (pq nilS nilS false false) 26)
  have hsz : (w.alloc (.cells (pq nilS nilS false false) 26)).heap.size = w.heap.size + 1 := by simp
  by_cases h : 1 ≤ n ∧ n ≤ 4
  · have e1 : inB n 1 (4 + 1) = true := by simp [inB]; omega
    rw [e1] at hA
    obtain ⟨k, rfl⟩ : ∃ k : Nat, n = k := ⟨n.toNat, by omega⟩
    have HK : Hid (1 ≤ k ∧ k ≤ 4) := hide (by omega)
    rw [aNew_yes k (by omega) (by omega)]
    have hmk := make_ints k (by omega)
    have hmo0 : ∀ W : World, Ow (W.alloc (.cells (madeCells #[.int .i64 0] k) 2)) W.heap.size (.slice (some ⟨W.heap.size, 0, none⟩) k k) (List.replicate k 0) := fun W => made_ow k (by omega) W
    have HZ : Hid ((List.replicate k (0 : Int)).length ≤ 1000 ∧ (List.replicate k (0 : Int)).length = k) := hide (by simp; omega)
    generalize List.replicate k (0 : Int) = zs at hmo0 HZ ⊢
    have HM := hide hmo0
    clear e1 h hmo0
    go_enter Try.func25, Try.ntmps25
    go_wp2_with fail
    generalize (World.alloc _ _) = W at hB0 hr hsz ⊢
    refine (hA W).mono ?_
    rintro e w1 ⟨rfl, rfl⟩
    obtain ⟨fr, r0, r1, r2, r3⟩ := row4_facts hr
    clear hA
    go_wp2
    go_region
    · generalize hY : World.drew _ = Y
      obtain ⟨⟨c0, c1, c2, c3⟩, o1, o2, hb, hz⟩ := new_end hsz hr hB0 HM.out _ _ Y hY
      have HX := hide (And.intro o1 (And.intro o2 hb))
      have HS := hide hz
      clear hY hB0 hr o1 o2 hb hz hmk fr r0 r1 r2 r3 HM
      go_wp2
      refine bodyPost_ret (v := .tuple #[.agg (pq (.slice (some ⟨w.heap.size + 1, 0, none⟩) k k) (.slice (some ⟨w.heap.size + 1 + 1, 0, none⟩) k k) true true), .bool true]) (by simp [results, Try.results25, go_sem, c0, c1, c2, c3]) rfl ?_
      obtain ⟨hz1, hz2⟩ := HZ.out
      subst hz2
      refine ⟨_, _, _, _, rfl, ⟨?_, ?_, ?_, ?_, ?_⟩, HX.out.2.2⟩
      · exact HX.out.1.mono (by omega)
      · exact HX.out.2.1.mono (by omega)
      · intro j h1 h2; simp [Value.ownBlock] at h1 h2; omega
      · intro j h1; simp [Value.ownBlock] at h1; rw [HS.out]; omega
      · intro j h1; simp [Value.ownBlock] at h1; rw [HS.out]; omega
    · generalize hY : World.drew _ = Y
      obtain ⟨⟨c0, c1, c2, c3⟩, o1, o2, hb, hz⟩ := new_end hsz hr hB0 HM.out _ _ Y hY
      have HX := hide (And.intro o1 (And.intro o2 hb))
      have HS := hide hz
      clear hY hB0 hr o1 o2 hb hz hmk fr r0 r1 r2 r3 HM
      go_wp2
      refine bodyPost_ret (v := .tuple #[.agg (pq (.slice (some ⟨w.heap.size + 1 + 1, 0, none⟩) k k) (.slice (some ⟨w.heap.size + 1, 0, none⟩) k k) true true), .bool true]) (by simp [results, Try.results25, go_sem, c0, c1, c2, c3]) rfl ?_
      obtain ⟨hz1, hz2⟩ := HZ.out
      subst hz2
      refine ⟨_, _, _, _, rfl, ⟨?_, ?_, ?_, ?_, ?_⟩, HX.out.2.2⟩
      · exact HX.out.2.1.mono (by omega)
      · exact HX.out.1.mono (by omega)
      · intro j h1 h2; simp [Value.ownBlock] at h1 h2; omega
      · intro j h1; simp [Value.ownBlock] at h1; rw [HS.out]; omega
      · intro j h1; simp [Value.ownBlock] at h1; rw [HS.out]; omega
  · have e1 : inB n 1 (4 + 1) = false := by simp [inB]; omega
    rw [e1] at hA
    rw [aNew_no n h]
    clear e1 h
    go_enter Try.func25, Try.ntmps25
    go_wp2_with fail
    generalize (World.alloc _ _) = W at hB0 hr hsz ⊢
    refine (hA W).mono ?_
    rintro e w1 ⟨rfl, rfl⟩
    obtain ⟨fr, r0, r1, r2, r3⟩ := row4_facts hr
    clear hA hr
    go_wp2
    refine bodyPost_ret (v := .tuple #[.agg (pq nilS nilS false false), .bool false]) (by simp [results, Try.results25, go_sem, r0, r1, r2, r3]) rfl (Post.no ?_)
    have hle : w.heap.size ≤ w.heap.size := Nat.le_refl _
    iterate 4 (refine Below.setCell ?_ hle _)
    exact hB0

end Go.Proofs.Ytplnfddleaoimaa
