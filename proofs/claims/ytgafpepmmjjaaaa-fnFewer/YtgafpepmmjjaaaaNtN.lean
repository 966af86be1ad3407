/- nets: impl.Dist -/
import Derived.Test.YtgafpepmmjjaaaaNtM
namespace Go.Proofs.Ytgafpepmmjjaaaa
open Go.RowKit Go.Shelf
attribute [local go_sem] Oper.semAt_some
set_option linter.unusedVariables false
set_option linter.unusedSimpArgs false

/-- how far it is: -1 where there is no way, or no such node, or no right net -/
noncomputable def dstA (N : Int) (n : Nat) (f : Nat → Nat → Int) (a b : Int) : Int := if netB N n f = true ∧ inB a 0 N = true ∧ inB b 0 N = true then dst (jn n f) a b else -1
theorem dstA_yes {N : Int} {n : Nat} {f : Nat → Nat → Int} {a b : Int} (h : netB N n f = true) (ha : inB a 0 N = true) (hb : inB b 0 N = true) : dstA N n f a b = dst (jn n f) a b := if_pos ⟨h, ha, hb⟩
theorem dstA_no {N : Int} {n : Nat} {f : Nat → Nat → Int} {a b : Int} (h : ¬ (netB N n f = true ∧ inB a 0 N = true ∧ inB b 0 N = true)) : dstA N n f a b = -1 := if_neg h
theorem ret_i {a b : Int} (h : a = b) : Ending.returned (.int .i64 a) = .returned (.int .i64 b) := by rw [h]

set_option maxHeartbeats 1000000 in
theorem reached_any (N : Int) (v : Value) (s : Int) (w : World) :
    Calls Try.prog 33 #[.agg (nt N v), .int .i64 s] w fun e w' => e = .returned (.func (.func 46) #[] #[.pointer (some ⟨w.heap.size + 1, 0, none⟩), .pointer (some ⟨w.heap.size, 0, none⟩)]) ∧ w' = (w.alloc (.cells (nt N v) 26)).alloc (.cells #[.int .i64 s] 2) := by
  refine (callsIn_wide (n := 3)).1 ?_
  refine callsIn_of_wp Try.func33 rfl trivial ?_ rfl
  simp only [Try.ntmps33, List.size_toArray, List.length_cons, List.length_nil, Nat.reduceAdd, Nat.reduceSub, Array.replicate_succ, Array.replicate_zero, List.push_toArray, List.append_toArray, List.nil_append, List.cons_append]
  gi_wp2
  go_ret
  exact ⟨rfl, rfl⟩

/-- Dist's own boxes: the net, the node that is looked for, the answer -/
structure Dx (w W : World) (N : Int) (v : Value) (b r : Int) : Prop where
  bl : Below w.heap.size w W
  c0 : W.cell? ⟨w.heap.size, 0, none⟩ = some (.int .i64 N)
  c1 : W.cell? ⟨w.heap.size, 1, none⟩ = some v
  cb : W.cell? ⟨w.heap.size + 1, 0, none⟩ = some (.int .i64 b)
  rb : W.heap[w.heap.size + 1 + 1]? = some (.cells #[.int .i64 r] 2 (0, 0))
theorem Dx.keeps {w W W2 : World} {N b r : Int} {v : Value} (h : Dx w W N v b r) (hb : Below (w.heap.size + 1 + 1 + 1) W W2) : Dx w W2 N v b r := by
  have hz := lt_of_block h.rb
  exact ⟨h.bl.trans (hb.mono (by omega)), (hb.cell (p := ⟨w.heap.size, 0, none⟩) (by show w.heap.size < _; omega)).trans h.c0, (hb.cell (p := ⟨w.heap.size, 1, none⟩) (by show w.heap.size < _; omega)).trans h.c1, (hb.cell (p := ⟨w.heap.size + 1, 0, none⟩) (by show w.heap.size + 1 < _; omega)).trans h.cb, (hb.block _ (by omega)).trans h.rb⟩
theorem Dx.next {w W W2 : World} {N b r : Int} {v : Value} (h : Dx w W N v b r) (hb : Below W.heap.size W W2) : Dx w W2 N v b r := h.keeps (hb.mono (by have := lt_of_block h.rb; omega))
theorem Dx.res {w W : World} {N b r : Int} {v : Value} (h : Dx w W N v b r) : W.cell? ⟨w.heap.size + 1 + 1, 0, none⟩ = some (.int .i64 r) ∧ W.frozen? ⟨w.heap.size + 1 + 1, 0, none⟩ = false := ⟨cell_of_row _ _ 0 _ _ _ h.rb, frozen_of_row _ _ _ _ _ h.rb⟩
theorem Dx.put {w W : World} {N b r : Int} {v : Value} (h : Dx w W N v b r) (x : Int) : Dx w (W.setCell ⟨w.heap.size + 1 + 1, 0, none⟩ (.int .i64 x)) N v b x := by
  refine ⟨h.bl.setCell (p := ⟨w.heap.size + 1 + 1, 0, none⟩) (by show w.heap.size ≤ w.heap.size + 1 + 1; omega) _, (other_set (by omega)).trans h.c0, (other_set (by omega)).trans h.c1, (other_set (by omega)).trans h.cb, ?_⟩
  rw [heap_setCell_same _ _ _ _ _ _ h.rb]
  rfl
theorem Dx.ofW {w W : World} {N b : Int} {v : Value} (hW : ((w.alloc (Obj.cells (nt N v) 26)).alloc (Obj.cells #[.int .i64 b] 2)).alloc (Obj.cells #[.int .i64 0] 2) = W) : Dx w W N v b 0 := by
  subst hW
  have k1 : Below (w.alloc (Obj.cells (nt N v) 26)).heap.size (w.alloc (Obj.cells (nt N v) 26)) (((w.alloc (Obj.cells (nt N v) 26)).alloc (Obj.cells #[.int .i64 b] 2)).alloc (Obj.cells #[.int .i64 0] 2)) := ((Below.refl _ _).alloc (Nat.le_refl _) _).alloc (by simp) _
  have k2 := bx2 w (.int .i64 N) v 26
  refine ⟨(((Below.refl _ _).alloc (Nat.le_refl _) _).alloc (by simp) _).alloc (by simp; omega) _, keepc k1 k2.1, keepc k1 k2.2, ?_, ?_⟩
  · refine keepc ((Below.refl _ _).alloc (Nat.le_refl _) _) ?_
    have := cell_of_row _ _ 0 _ _ _ (heap_alloc_new (w.alloc (Obj.cells (nt N v) 26)) (.cells #[.int .i64 b] 2))
    rw [World.size_alloc] at this
    exact this
  · have := heap_alloc_new ((w.alloc (Obj.cells (nt N v) 26)).alloc (Obj.cells #[.int .i64 b] 2)) (.cells #[.int .i64 0] 2)
    simpa only [World.size_alloc] using this

set_option maxRecDepth 100000 in
set_option maxHeartbeats 4000000 in
theorem implDist_any (N : Int) (v : Value) (n : Nat) (f : Nat → Nat → Int) (a b : Int) (w : World) (hs : Sr w v 2 n f) (hl : n ≤ 1048576) :
    Calls Try.prog 10 #[.agg (nt N v), .int .i64 a, .int .i64 b] w fun e w' => e = .returned (.int .i64 (dstA N n f a b)) ∧ Below w.heap.size w w' := by
  have HS := hide hs
  obtain ⟨ad, cap, rfl, _⟩ := hs
  have h1 := fun W h => implNetOk_any N (.slice ad n cap) n f W h hl
  have h2 := fun W => hasNode_any N (.slice ad n cap) a W
  have h3 := fun W => hasNode_any N (.slice ad n cap) b W
  refine (callsIn_wide (n := 5)).1 ?_
  refine callsIn_of_wp_marks Try.func10 rfl trivial ?_ rfl
  simp only [Try.ntmps10, List.size_toArray, List.length_cons, List.length_nil, Nat.reduceAdd, Nat.reduceSub, Array.replicate_succ, Array.replicate_zero, List.push_toArray, List.append_toArray, List.nil_append, List.cons_append]
  gi_wp2_with fail
  generalize hW : (World.alloc (World.alloc (World.alloc _ _) _) _) = W
  have hdx := Dx.ofW hW
  clear hW
  refine ⟨trivial, ?_⟩
  refine (callsIn_wide.2 (h1 _ (HS.out.below hdx.bl))).mono ?_
  rintro e w1 ⟨rfl, hb1⟩
  have hd1 := hdx.next hb1
  clear h1 hdx hb1
  cases hN : netB N n f
  · have HO : Hid (-1 = dstA N n f a b) := hide (dstA_no (fun h => by rw [hN] at h; exact absurd h.1 (by decide))).symm
    obtain ⟨r0, r1⟩ := hd1.res
    have HP := hide (hd1.put (-1))
    clear hN hd1
    gi_wp2
    refine ⟨trivial, ?_⟩
    gi_wp2
    refine ⟨trivial, ?_⟩
    gi_wp2
    have q0 := HP.out.res.1
    refine ⟨.int .i64 (-1), by simp [results, Try.results10, go_sem, q0], ret_i HO.out, HP.out.bl⟩
  have hnt := nt_of hN
  have k0 := hd1.c0
  have k1 := hd1.c1
  gi_wp2_with fail
  refine ⟨trivial, ?_⟩
  refine (callsIn_wide.2 (h2 _)).mono ?_
  rintro e w2 ⟨rfl, hb2⟩
  have hd2 := hd1.next hb2
  clear h2 hd1 hb2 k0 k1
  cases ha : inB a 0 N
  · have HO : Hid (-1 = dstA N n f a b) := hide (dstA_no (fun h => by rw [ha] at h; exact absurd h.2.1 (by decide))).symm
    obtain ⟨r0, r1⟩ := hd2.res
    have HP := hide (hd2.put (-1))
    clear hN ha hd2
    gi_wp2
    refine ⟨trivial, ?_⟩
    gi_wp2
    have q0 := HP.out.res.1
    refine ⟨.int .i64 (-1), by simp [results, Try.results10, go_sem, q0], ret_i HO.out, HP.out.bl⟩
  have k0 := hd2.c0
  have k1 := hd2.c1
  have kb := hd2.cb
  gi_wp2_with fail
  refine ⟨trivial, ?_⟩
  refine (callsIn_wide.2 (h3 _)).mono ?_
  rintro e w3 ⟨rfl, hb3⟩
  have hd3 := hd2.next hb3
  clear h3 hd2 hb3 k0 k1 kb
  cases hbn : inB b 0 N
  · have HO : Hid (-1 = dstA N n f a b) := hide (dstA_no (fun h => by rw [hbn] at h; exact absurd h.2.2 (by decide))).symm
    obtain ⟨r0, r1⟩ := hd3.res
    have HP := hide (hd3.put (-1))
    clear hN ha hbn hd3
    gi_wp2
    have q0 := HP.out.res.1
    refine ⟨.int .i64 (-1), by simp [results, Try.results10, go_sem, q0], ret_i HO.out, HP.out.bl⟩
  have HO : Hid (dstA N n f a b = dst (jn n f) a b) := hide (dstA_yes hN ha hbn)
  have hab : 0 ≤ a ∧ a < N := by simpa [inB] using ha
  clear hN ha hbn
  obtain ⟨s, rfl⟩ : ∃ s : Nat, a = s := ⟨a.toNat, by omega⟩
  have k0 := hd3.c0
  have k1 := hd3.c1
  have HNT := hide hnt
  clear hnt
  gi_wp2_with (refine ⟨trivial, ?_⟩; gi_at_call 33; refine (callsIn_wide.2 (reached_any N (.slice ad n cap) s _)).mono ?_; rintro e w4 ⟨rfl, rfl⟩)
  clear k0 k1
  obtain ⟨W4, hW4⟩ : ∃ W4, (w3.alloc (Obj.cells (nt N (.slice ad n cap)) 26)).alloc (Obj.cells #[.int .i64 s] 2) = W4 := ⟨_, rfl⟩
  have hb4 : Below w3.heap.size w3 W4 := by rw [← hW4]; exact ((Below.refl _ _).alloc (Nat.le_refl _) _).alloc (by simp) _
  have hd4 := hd3.next hb4
  have hz3 := lt_of_block hd3.rb
  have hz4 : W4.heap.size = w3.heap.size + 1 + 1 := by rw [← hW4]; simp
  have e0 : W4.cell? ⟨w3.heap.size, 0, none⟩ = some (.int .i64 N) := by
    rw [← hW4]; exact keepc ((Below.refl _ _).alloc (Nat.le_refl _) _) (bx2 w3 (.int .i64 N) (.slice ad n cap) 26).1
  have e1 : W4.cell? ⟨w3.heap.size, 1, none⟩ = some (.slice ad n cap) := by
    rw [← hW4]; exact keepc ((Below.refl _ _).alloc (Nat.le_refl _) _) (bx2 w3 (.int .i64 N) (.slice ad n cap) 26).2
  have es : W4.cell? ⟨w3.heap.size + 1, 0, none⟩ = some (.int .i64 s) := by
    rw [← hW4]
    have := cell_of_row _ _ 0 _ _ _ (heap_alloc_new (w3.alloc (Obj.cells (nt N (.slice ad n cap)) 26)) (.cells #[.int .i64 s] 2))
    rw [World.size_alloc] at this
    exact this
  rw [hW4]
  have HS4 := hide (HS.out.below hd4.bl)
  clear hW4 hd3
  have hab' : ∀ (pre : List (Int × Int)) A A' (y : Int), Dx w A N (.slice ad n cap) b y → Below W4.heap.size A A' → Dx w A' N (.slice ad n cap) b y := fun pre A A' y h hb => h.keeps (hb.mono (by omega))
  refine range_kc (α := Int × Int) rfl (by omega) (gf := 46) (lb := #[.pointer (some ⟨w3.heap.size + 1, 0, none⟩), .pointer (some ⟨w3.heap.size, 0, none⟩)]) rfl trivial (enters_of Try.func46 (by kernel_rfl) rfl)
    (encs := fun x => #[.int .i64 x.1, .int .i64 x.2]) (S := fun xs => ∀ b, (∀ y ∈ xs, y.1 ≠ b) → isD (jn n f) s b (-1)) (Sp := fun pre => ∀ y ∈ pre, isD (jn n f) s y.1 y.2) (N := 6)
    (fun l J Jx W hW hJ hY h0 => reached1_any 4 (by omega) l (w3.heap.size + 1) w3.heap.size N (.slice ad n cap) n f s HNT.out hl hab.2 J Jx W hJ hY (HS4.out.below hW) (keepc hW es) (keepc hW e0) (keepc hW e1) h0) (fun _ => rfl)
    (fun pre W => (∀ y ∈ pre, y.1 ≠ b) ∧ Dx w W N (.slice ad n cap) b 0) (fun pre W => ∃ y ∈ pre, y.1 = b ∧ Dx w W N (.slice ad n cap) b y.2)
    (fun pre A A' h hb => ⟨h.1, hab' pre A A' _ h.2 hb⟩) (fun pre A A' h hb => by obtain ⟨y, h1, h2, h3⟩ := h; exact ⟨y, h1, h2, hab' pre A A' _ h3 hb⟩) ⟨by simp, hd4⟩
    (fun x => { tmps := #[.agg (nt N (.slice ad n cap)), .int .i64 s, .int .i64 b, .pointer (some ⟨w.heap.size, 0, none⟩), undef, .pointer (some ⟨w.heap.size + 1, 0, none⟩), .pointer (some ⟨w.heap.size + 1 + 1, 0, none⟩), .int .i64 x.1, .int .i64 x.2,
          .agg #[.int .i64 N, .slice ad n cap], .bool true, .bool false, .bool false, .agg #[.int .i64 N, .slice ad n cap], .int .i64 s, .bool true, .bool false, .bool false, .bool false, .agg #[.int .i64 N, .slice ad n cap], .int .i64 b, .bool true, .bool false, .bool false, .agg #[.int .i64 N, .slice ad n cap], .int .i64 s,
          .func (.func 46) #[] #[.pointer (some ⟨w3.heap.size + 1, 0, none⟩), .pointer (some ⟨w3.heap.size, 0, none⟩)], .int .i64 x.1, .int .i64 x.2, undef, undef, undef, undef], defers := [] }) ?assign ?body ?done ?stop
  case assign =>
    intro l x W K hK
    gi_wp2
    exact hK
  case body =>
    rintro l pre x W ⟨hp, hdx⟩ _
    have kb := hdx.cb
    obtain ⟨r0, r1⟩ := hdx.res
    by_cases hx : x.1 = b
    · have hxe : (x.1 == b) = true := by simpa using hx
      have HP := hide (hdx.put x.2)
      clear hdx
      gi_wp2
      exact ⟨KeepsOthers.setCell _ _ _, x, List.mem_append.2 (.inr (by simp)), hx, HP.out⟩
    · have hxe : (x.1 == b) = false := by simpa using hx
      have HP := hide hdx
      clear hdx
      gi_wp2
      exact ⟨KeepsOthers.refl _, Kc.refl _, fun y hy => (List.mem_append.1 hy).elim (hp y) (fun e => by simp at e; rw [e]; exact hx), HP.out⟩
  case done =>
    rintro D xs W hD hS ⟨hne, hdx⟩ hK
    have HV : Hid (-1 = dstA N n f s b) := hide (by rw [HO.out]; exact (dst_eq (hS b hne)).symm)
    obtain ⟨r0, r1⟩ := hdx.res
    have HP := hide (hdx.put (-1))
    have HDD : Hid (w.heap.size + 1 + 1 + 1 ≤ D) := hide (by omega)
    clear hdx
    gi_wp2
    have hK' := (KeepsOthers.setCell W ⟨w.heap.size + 1 + 1, 0, none⟩ (.int .i64 (-1))).same D _ hK rfl
    refine ⟨by simp, .inl ⟨_, _, rfl, run_takeDeferred hK', ?_⟩⟩
    have hb5 := belowK_b (n₀ := w.heap.size + 1 + 1 + 1) (w := W4) (by omega) (W.setCell ⟨w.heap.size + 1 + 1, 0, none⟩ (.int .i64 (-1))) D _ (.deferred none) (by omega) hK' rfl rfl
    have hd5 := HP.out.keeps hb5
    have q0 := hd5.res.1
    exact ⟨.int .i64 (-1), by simp [results, Try.results10, go_sem, q0], ret_i HV.out, hd5.bl⟩
  case stop =>
    rintro D pre W hD hSp ⟨y, hy, hyb, hdx⟩ hK
    have HV : Hid (y.2 = dstA N n f s b) := hide (by rw [HO.out, ← hyb]; exact (dst_eq (hSp y hy)).symm)
    have HP := hide hdx
    clear hdx
    gi_wp2
    refine ⟨by simp, .inl ⟨_, _, rfl, run_takeDeferred hK, ?_⟩⟩
    have hb5 := belowK_b (n₀ := w.heap.size + 1 + 1 + 1) (w := W4) (by omega) W D _ (.deferred none) (by omega) hK rfl rfl
    have hd5 := HP.out.keeps hb5
    have q0 := hd5.res.1
    exact ⟨.int .i64 y.2, by simp [results, Try.results10, go_sem, q0], ret_i HV.out, hd5.bl⟩

end Go.Proofs.Ytgafpepmmjjaaaa
