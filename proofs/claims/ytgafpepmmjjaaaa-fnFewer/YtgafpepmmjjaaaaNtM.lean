/- nets: the search that reached() hands out -/
import Derived.Test.YtgafpepmmjjaaaaNtL
namespace Go.Proofs.Ytgafpepmmjjaaaa
open Go.RowKit Go.Shelf
attribute [local go_sem] Oper.semAt_some
set_option linter.unusedVariables false
set_option linter.unusedSimpArgs false

theorem Ow.kc {w w' : World} {base : Nat} {v : Value} {zs : List Int} (h : Ow w base v zs) (hk : Kc w w') : Ow w' base v zs := by
  obtain ⟨h1, h2⟩ := h
  refine ⟨h1, ?_⟩
  rcases h2 with h2 | ⟨g, cap, cur, e, hb, hg, r⟩
  · exact .inl h2
  · exact .inr ⟨g, cap, cur, e, hb, hk.same g _ hg rfl, r⟩
theorem Ow.elder' {w : World} {base B i : Nat} {v : Value} {zs : List Int} {u : Value} (h : Ow w base v zs) (hB : B < base) : Ow (w.setCell ⟨B, i, none⟩ u) base v zs := by
  obtain ⟨h1, h2⟩ := h
  refine ⟨h1, ?_⟩
  rcases h2 with h2 | ⟨g, cap, cur, e, hb, hg, r⟩
  · exact .inl h2
  · exact .inr ⟨g, cap, cur, e, hb, by rw [heap_setCell_other _ _ _ _ (by simp; omega)]; exact hg, r⟩

/-- six distances, as cells -/
def fc (far : Int → Int) : Array Value := #[.int .i64 (far 0), .int .i64 (far 1), .int .i64 (far 2), .int .i64 (far 3), .int .i64 (far 4), .int .i64 (far 5)]

/-- the search's world: what lay when it began lies; the distances; the nodes found -/
structure Iw (W wr : World) (nv : Value) (qs : List Int) (far : Int → Int) : Prop where
  kp : ∀ (a : Addr) (u : Value), W.cell? a = some u → wr.cell? a = some u
  fb : wr.heap[W.heap.size]? = some (.cells (fc far) 59 (0, 0))
  ow : Ow wr (W.heap.size + 1) nv qs
theorem Iw.kc {W wr w2 : World} {nv : Value} {qs : List Int} {far : Int → Int} (h : Iw W wr nv qs far) (hk : Kc wr w2) : Iw W w2 nv qs far :=
  ⟨fun a u hc => hk.cell (h.kp a u hc), hk.same _ _ h.fb rfl, h.ow.kc hk⟩
theorem Iw.lt {W wr : World} {nv : Value} {qs : List Int} {far : Int → Int} (h : Iw W wr nv qs far) : W.heap.size < wr.heap.size := lt_of_block h.fb
theorem Iw.cell {W wr : World} {nv : Value} {qs : List Int} {far : Int → Int} (h : Iw W wr nv qs far) {m : Nat} (hm : m < 6) : wr.cell? ⟨W.heap.size, m, none⟩ = some (.int .i64 (far m)) := by
  rw [cell_of_row _ _ _ _ _ _ h.fb]
  match m, hm with
  | 0, _ => rfl
  | 1, _ => rfl
  | 2, _ => rfl
  | 3, _ => rfl
  | 4, _ => rfl
  | 5, _ => rfl
theorem fc_put (far : Int → Int) {m : Nat} (hm : m < 6) (d : Int) : (fc far).setIfInBounds m (.int .i64 d) = fc (fput far m d) := by
  match m, hm with
  | 0, _ => simp [fc, fput]
  | 1, _ => simp [fc, fput]
  | 2, _ => simp [fc, fput]
  | 3, _ => simp [fc, fput]
  | 4, _ => simp [fc, fput]
  | 5, _ => simp [fc, fput]
theorem Iw.put {W wr : World} {nv : Value} {qs : List Int} {far : Int → Int} (h : Iw W wr nv qs far) {m : Nat} (hm : m < 6) (d : Int) : Iw W (wr.setCell ⟨W.heap.size, m, none⟩ (.int .i64 d)) nv qs (fput far m d) := by
  refine ⟨fun a u hc => ?_, ?_, h.ow.elder' (by omega)⟩
  · have hlt := World.block_lt_of_cell? W a hc
    rw [World.cell?_setCell_other _ _ _ _ (fun e => by have := congrArg Addr.block e; simp at this; omega)]
    exact h.kp a u hc
  · rw [heap_setCell_same _ _ _ _ _ _ h.fb]
    rw [← fc_put far hm d]
theorem Iw.app {W wr w1 : World} {nv nv' : Value} {qs : List Int} {far : Int → Int} {x : Int} (h : Iw W wr nv qs far)
    (hO : Ow w1 (W.heap.size + 1) nv' (qs ++ [x])) (hg : (wr.alloc (.cells #[.int .i64 x] 2)).grownBy w1 nv.ownBlock) : Iw W w1 nv' (qs ++ [x]) far ∧ Below W.heap.size wr w1 := by
  have hlt5 : ∀ j, nv.ownBlock = some j → W.heap.size + 1 ≤ j := fun j hj => (World.ownsRow.lt h.ow j hj).1
  have hsz := h.lt
  have hb : Below W.heap.size wr w1 := ((Below.refl _ wr).alloc (by omega) _).grown hg (by simp; omega) (fun k hk => by have := hlt5 k hk; omega)
  refine ⟨⟨fun a u hc => ?_, ?_, hO⟩, hb⟩
  · rw [hb.cell (World.block_lt_of_cell? W a hc)]; exact h.kp a u hc
  · exact (hg.block _ (by simp; omega) (fun e => by have := hlt5 _ e.symm; omega)).trans ((Below.heap_alloc _ _ _ hsz).trans h.fb)
/-- the neighbours' row, beside the search's own -/
theorem Ow.beside {w wr w1 : World} {base : Nat} {uo nv : Value} {zs : List Int} {x : Int} (h : Ow wr base uo zs) (hne : ∀ j, nv.ownBlock = some j → uo.ownBlock ≠ some j) (hg : (wr.alloc (.cells #[.int .i64 x] 2)).grownBy w1 nv.ownBlock) : Ow w1 base uo zs := by
  have h2 : Ow (wr.alloc (.cells #[.int .i64 x] 2)) base uo zs := h.below ((Below.refl _ _).alloc (Nat.le_refl _) _)
  refine World.ownsRow.kept h2 hg ?_
  cases hv : uo.ownBlock with
  | none => exact .inl rfl
  | some k =>
    refine .inr fun e => ?_
    exact hne k e.symm hv

theorem wpListIn_app1 {F : Fence} {n : Nat} (w : World) {ops : Array Oper} {rest : List Oper} {o : Oper} {a : Act} {Q : Exit → Act → World → Prop}
    (hg : o.guard = none) (s x : Operand) (hop : o.op = Op.call { callee := Callee.builtin Builtin.append, args := #[s, x], argTypes := #[32, 32] })
    (base : Nat) (v : Value) (zs : List Int) (z : Int) (ad : Addr) (hs : a.eval s = v) (hown : Ow w base v zs) (hx : a.eval x = .slice (some ad) 1 1) (hc : ∀ j u, [Value.int .i64 z][j]? = some u → w.cell? (ad.add j) = some u) (hl : zs.length ≤ 1048576) (hb : base ≤ w.heap.size)
    (hK : ∀ v' w', Ow w' base v' (zs ++ [z]) → w.grownBy w' v.ownBlock → (v'.ownBlock = v.ownBlock ∨ v'.ownBlock = some w.heap.size) → wpListIn F n Try.prog ops Q rest (a.put o.dst v') w') :
    wpListIn F n Try.prog ops Q (o :: rest) a w := by
  refine wpListIn_plain hg fun K hK' => ?_
  obtain ⟨i0, hi, hz0, hz1, hz2⟩ := info_parts Try.info2
  obtain ⟨v', w', hrun, r1, r2, r3, r4⟩ := run_append_own_at (P := Try.prog) w base 32 o.type 2 i0 (.int .i64 0) 1 8 Try.underlying32 hi hz0 hz1 hz2 rfl (by decide) v zs.length _ hown ad 1 1 [.int .i64 z] rfl hc (by intro u hu; simp at hu; subst hu; rfl) (by unfold maxLen; omega) (by omega) hb
  unfold Oper.wpIn
  refine ⟨?_, ?_⟩
  · simp [Oper.about, hop, resolve, Target.leads, Sem.run_pure]
  · rw [Oper.semAt_plain F _ _ (by rw [hop]; intro c hc'; cases hc')]
    simp [execOp, hop, resolve, invoke, builtin, hs, hx, hrun, Result.andThen]
    exact hK' _ _ (hK v' w' (Ow.snoc r1) r2 r4)

theorem Ow.ownlt {w : World} {base : Nat} {v : Value} {zs : List Int} (h : Ow w base v zs) : ∀ j, v.ownBlock = some j → j < w.heap.size := fun j hj => (World.ownsRow.lt h j hj).2
theorem Ow.at {w : World} {base g k cap : Nat} {zs : List Int} (h : Ow w base (.slice (some ⟨g, 0, none⟩) k cap) zs) {i : Nat} (hi : i < zs.length) : w.cell? ⟨g, i, none⟩ = some (.int .i64 (gd zs i)) := by
  obtain ⟨ad, c, e, hf⟩ := h.sl
  obtain ⟨b, off, rfl, hc⟩ := hf (by omega)
  simp only [Value.slice.injEq, Option.some.injEq, Addr.mk.injEq] at e
  obtain ⟨⟨rfl, rfl, _⟩, _, _⟩ := e
  have := hc i hi
  rwa [Nat.zero_add] at this

/-- what came: the nodes looked through, with their distances -/
structure Pre (R : Int → Int → Bool) (s : Int) (pre : List (Int × Int)) (qs : List Int) (p : Nat) : Prop where
  len : pre.length = p
  ns : ∀ x, x ∈ qs.take p → ∃ y ∈ pre, y.1 = x
  ds : ∀ y, y ∈ pre → isD R s y.1 y.2
theorem Pre.push {R : Int → Int → Bool} {s : Int} {pre : List (Int × Int)} {qs : List Int} {p : Nat} {v : Int} (h : Pre R s pre qs p) (hp : p ≤ qs.length) : Pre R s pre (qs ++ [v]) p := by
  refine ⟨h.len, fun x hx => h.ns x ?_, h.ds⟩
  rwa [List.take_append_of_le_length hp] at hx
theorem Pre.next {R : Int → Int → Bool} {s : Int} {pre : List (Int × Int)} {qs : List Int} {p : Nat} {d : Int} (h : Pre R s pre qs p) (hp : p < qs.length) (hd : isD R s (gd qs p) d) : Pre R s (pre ++ [(gd qs p, d)]) qs (p + 1) := by
  refine ⟨by simp [h.len], fun x hx => ?_, fun y hy => ?_⟩
  · rw [List.take_add_one] at hx
    rcases List.mem_append.1 hx with hx | hx
    · obtain ⟨y, hy, e⟩ := h.ns x hx
      exact ⟨y, List.mem_append.2 (.inl hy), e⟩
    · simp [hp] at hx
      exact ⟨(gd qs p, d), List.mem_append.2 (.inr (by simp)), by simp [gd, hp, hx]⟩
  · rcases List.mem_append.1 hy with hy | hy
    · exact h.ds y hy
    · simp at hy; subst hy; exact hd

set_option maxRecDepth 100000 in
set_option maxHeartbeats 4000000 in
theorem reached1_any (fu : Nat) (hfu : 1 ≤ fu) (l Bs Bn : Nat) (N : Int) (v : Value) (n : Nat) (f : Nat → Nat → Int) (s : Nat) (hn : Nt N n f) (hl : n ≤ 1048576) (hsN : (s : Int) < N) (J Jx : List (Int × Int) → World → Prop) (W : World)
    (hJ : AbB W.heap.size J)
    (hY : ∀ pre x W1, J pre W1 → pre.length < 6 → YieldAt Fence.wide (fu - 1) Try.prog l #[.int .i64 x.1, .int .i64 x.2] W1 fun e W' =>
      (e = .returned (.bool true) ∧ J (pre ++ [x]) W' ∧ Kc W1 W') ∨ (e = .returned (.bool false) ∧ Jx (pre ++ [x]) W'))
    (hs : Sr W v 2 n f) (cs : W.cell? ⟨Bs, 0, none⟩ = some (.int .i64 s)) (c0 : W.cell? ⟨Bn, 0, none⟩ = some (.int .i64 N)) (c1 : W.cell? ⟨Bn, 1, none⟩ = some v) (h0 : J [] W) :
    CallsIn Fence.wide fu Try.prog 46 #[.func (.yield l) #[] #[], .pointer (some ⟨Bs, 0, none⟩), .pointer (some ⟨Bn, 0, none⟩)] W fun e W' => (∃ v, e = .returned v) ∧
      ((∃ xs, (∀ b, (∀ y ∈ xs, y.1 ≠ b) → isD (jn n f) s b (-1)) ∧ J xs W') ∨ (∃ pre, (∀ y ∈ pre, isD (jn n f) s y.1 y.2) ∧ Jx pre W')) := by
  obtain ⟨i0, hi, hz0, hz1, hz2⟩ := info_parts Try.info2
  have HS := hide hs
  obtain ⟨ad, cap, rfl, _⟩ := hs
  have HN := hide hn
  have HJ := hide hJ
  have HY := hide hY
  have hN6 : N ≤ 6 := hn.hi
  clear hn hJ hY
  refine callsIn_of_wp Try.func46 rfl trivial ?_ rfl
  simp only [Try.ntmps46, List.size_toArray, List.length_cons, List.length_nil, Nat.reduceAdd, Nat.reduceSub, Array.replicate_succ, Array.replicate_zero, List.push_toArray, List.append_toArray, List.nil_append, List.cons_append]
  have cs2 : (W.alloc (.cells (fc (fun _ => 0)) 59)).cell? ⟨Bs, 0, none⟩ = some (.int .i64 s) := keepc ((Below.refl _ _).alloc (Nat.le_refl _) _) cs
  have hA0 : Below W.heap.size W ((W.alloc (.cells (fc (fun _ => 0)) 59)).alloc (.cells #[.int .i64 s] 2)) := ((Below.refl _ _).alloc (Nat.le_refl _) _).alloc (by simp) _
  have HI : Hid (Iw W ((W.alloc (.cells (fc (fun _ => 0)) 59)).alloc (.cells #[.int .i64 s] 2)) (.slice (some ⟨W.heap.size + 1, 0, none⟩) 1 1) [(s : Int)] (fun _ => 0) ∧ J [] ((W.alloc (.cells (fc (fun _ => 0)) 59)).alloc (.cells #[.int .i64 s] 2))) := by
    refine hide ⟨⟨fun a u hc => ?_, ?_, ?_⟩, HJ.out _ _ _ h0 hA0⟩
    · exact keepc hA0 hc
    · rw [Below.heap_alloc _ _ _ (by simp)]; exact heap_alloc_new _ _
    · have h2 : World.ownsRow ((W.alloc (.cells (fc (fun _ => 0)) 59)).alloc (.cells #[.int .i64 s] 2)) (W.alloc (.cells (fc (fun _ => 0)) 59)).heap.size 2 1 (.slice (some ⟨(W.alloc (.cells (fc (fun _ => 0)) 59)).heap.size, 0, none⟩) 1 1) 1 [.int .i64 s] := ⟨rfl, .inr ⟨_, 1, #[.int .i64 s], rfl, Nat.le_refl _, heap_alloc_new _ _, Nat.le_refl _, by unfold maxLen; omega, rfl, rfl⟩⟩
      rw [World.size_alloc] at h2
      exact h2
  have HBf : Hid (Bf (jn n f) N s [(s : Int)] 0 (fun _ => 0) ∧ Pre (jn n f) s [] [(s : Int)] 0) := hide ⟨Bf.start _ _ (by omega) _ rfl, rfl, fun x hx => absurd hx (by simp), fun y hy => absurd hy (by simp)⟩
  clear hA0
  unfold fc at cs2
  simp only [fc] at HI
  gi_wp2
  gi_loopw [5, 6] (fun nv i wr => ∃ (p : Nat) (qs : List Int) (far : Int → Int) (pre : List (Int × Int)), p ≤ qs.length ∧ i = .int .i64 p ∧ Iw W wr nv qs far ∧ J pre wr ∧ Hid (Bf (jn n f) N s qs p far ∧ Pre (jn n f) s pre qs p)) (fun _ i _ => 6 - (intOf i).toNat)
  case atStart => exact ⟨0, _, _, _, Nat.zero_le _, rfl, HI.out.1, HI.out.2, HBf⟩
  case round =>
    obtain ⟨p, qs, far, pre, hp, rfl, hiw, hJs, HB⟩ := hrel
    clear HI HBf cs2 h0
    have hq6 := HB.out.1.len hN6
    by_cases hlt : p < qs.length
    · obtain ⟨ad', cap', rfl, hf⟩ := hiw.ow.form
      obtain ⟨g, rfl⟩ := hf (by omega)
      have cq := hiw.ow.at hlt
      have hnd := HB.out.1.lt _ (gd_mem hlt)
      obtain ⟨m, hm⟩ : ∃ m : Nat, gd qs p = m := ⟨(gd qs p).toNat, by omega⟩
      rw [hm] at cq hnd
      have hm6 : m < 6 := by omega
      have HM := hide hm
      have cf := hiw.cell hm6
      obtain ⟨y, hyf⟩ : ∃ y, far m = y := ⟨_, rfl⟩
      rw [hyf] at cf
      obtain ⟨fn, tmps, assign, body, hy, hR⟩ := HY.out pre ((m : Int), y) wr hJs (by rw [HB.out.2.len]; omega)
      dsimp only at hy
      have HP : Hid (Bf (jn n f) N s qs p far ∧ Pre (jn n f) s (pre ++ [((m : Int), y)]) qs (p + 1)) := hide ⟨HB.out.1, by
        have h1 := HB.out.1.exact hlt
        have := HB.out.2.next hlt h1
        rw [hm, hyf] at this
        exact this⟩
      obtain ⟨q, hq⟩ : ∃ q, qs.length = q := ⟨_, rfl⟩
      have HQ := hide hq
      rw [hq] at hlt hp hq6 ⊢
      rw [hq] at hiw
      have HIW := hide hiw
      clear hm hyf hf hq hiw hJs HB
      gi_wp2
      refine hR.mono ?_
      rintro e W3 (⟨rfl, hJ3, hk3⟩ | ⟨rfl, hJx3⟩)
      · obtain ⟨pre2, hpre2⟩ : ∃ pre2, pre ++ [((m : Int), y)] = pre2 := ⟨_, rfl⟩
        rw [hpre2] at hJ3
        have HP2 : Hid (Bf (jn n f) N s qs p far ∧ Pre (jn n f) s pre2 qs (p + 1)) := hide ⟨HP.out.1, by rw [← hpre2]; exact HP.out.2⟩
        have hiw3 := HIW.out.kc hk3
        have d0 := hiw3.kp _ _ c0
        have d1 := hiw3.kp _ _ c1
        have HSr := hide (HS.out.carry hiw3.kp)
        have HI3 := hide hiw3
        have HNE : Hid (∀ k, k < n → f k 0 ≠ f k 1) := hide (fun k hk => by have := HN.out.lk k hk; omega)
        have hg3 := hiw3.ow.ownlt
        have HW3 := hide hiw3.lt
        clear hpre2 HP HIW hR hk3 hiw3 hy cq cf
        gi_wp2_with (refine ⟨trivial, ?_⟩; gi_at_call 40; refine (callsIn_wide.2 (implJoined_any N (.slice ad n cap) n f m _ HSr.out hl HNE.out)).mono ?_; rintro e w4 ⟨uo, rfl, hou, hb4⟩; obtain ⟨ad2, cap2, rfl, hf2⟩ := hou.form)
        obtain ⟨L, hL⟩ : ∃ L, (jl f (m : Int) n).length = L := ⟨_, rfl⟩
        have HLn := hide hL
        rw [hL] at hf2 hou ⊢
        have HL2 : Hid (L ≤ 2097152) := hide (by have := jl_le f (m : Int) n; omega)
        have HSt : Hid (Iw W w4 (.slice (some ⟨g, 0, none⟩) q cap') qs far ∧ Ow w4 W3.heap.size (.slice ad2 L cap2) (jl f m n) ∧ J pre2 w4 ∧ (Bf (jn n f) N s qs p far ∧ Pre (jn n f) s pre2 qs (p + 1) ∧ gd qs p = m ∧ p < qs.length ∧ (∀ j, j < 0 → gd (jl f m n) j ∈ qs) ∧ ∀ j, (Value.slice (some ⟨g, 0, none⟩) q cap').ownBlock = some j → (Value.slice ad2 L cap2).ownBlock ≠ some j)) := hide ⟨HI3.out.kc (Kc.below hb4), hou, HJ.out _ _ _ hJ3 (hb4.mono (Nat.le_of_lt HI3.out.lt)), HP2.out.1, HP2.out.2, HM.out, by rw [HQ.out]; exact hlt, fun j hj => by omega, fun j hj hj2 => by
          have h1 := hg3 j hj
          have h2 := (World.ownsRow.lt hou j hj2).1
          omega⟩
        have hLb : L ≤ 2097152 := HL2.out
        clear hL hou hb4 hJ3 HP2 HI3 HSr d0 d1 hg3
        gi_loopw [5, 33] (fun nv i wr => ∃ (k : Nat) (qs : List Int) (far : Int → Int), k ≤ L ∧ i = .int .i64 k ∧ Iw W wr nv qs far ∧ Ow wr W3.heap.size (.slice ad2 L cap2) (jl f m n) ∧ J pre2 wr ∧ Hid (Bf (jn n f) N s qs p far ∧ Pre (jn n f) s pre2 qs (p + 1) ∧ gd qs p = m ∧ p < qs.length ∧ (∀ j, j < k → gd (jl f m n) j ∈ qs) ∧ ∀ j, nv.ownBlock = some j → (Value.slice ad2 L cap2).ownBlock ≠ some j)) (fun _ i _ => L - (intOf i).toNat)
        case atStart => exact ⟨0, qs, far, Nat.zero_le _, rfl, HSt.out.1, HSt.out.2.1, HSt.out.2.2.1, hide HSt.out.2.2.2⟩
        case round =>
          obtain ⟨k, qs', far', hk, rfl, hiw, hou, hJs, HB⟩ := hrel
          clear HSt HQ HM
          by_cases hkL : k < L
          · obtain ⟨g2, rfl⟩ := hf2 (by omega)
            have hkl : k < (jl f (m : Int) n).length := by rw [HLn.out]; exact hkL
            have co := hou.at hkl
            have hmem := gd_mem hkl
            have hjn := (mem_jl_jn HN.out).1 hmem
            have hb9 := jn_lt HN.out hjn
            obtain ⟨o, ho⟩ : ∃ o : Nat, gd (jl f (m : Int) n) k = o := ⟨(gd (jl f (m : Int) n) k).toNat, by omega⟩
            rw [ho] at co hjn hb9
            have ho6 : o < 6 := by omega
            have HO := hide (And.intro ho hjn)
            have hq6' := HB.out.1.len hN6
            have hC := contains_any u5 qs' o wr hiw.ow.sl (by omega)
            clear hkl hmem hjn ho hf2
            by_cases hin : (o : Int) ∈ qs'
            · have hct : qs'.contains (o : Int) = true := by rw [List.contains_iff_mem]; exact hin
              rw [hct] at hC
              have HX : Hid (Bf (jn n f) N s qs' p far' ∧ Pre (jn n f) s pre2 qs' (p + 1) ∧ gd qs' p = m ∧ p < qs'.length ∧ (∀ j, j < k + 1 → gd (jl f m n) j ∈ qs') ∧ ∀ j, u5.ownBlock = some j → (Value.slice (some ⟨g2, 0, none⟩) L cap2).ownBlock ≠ some j) := hide ⟨HB.out.1, HB.out.2.1, HB.out.2.2.1, HB.out.2.2.2.1, fun j hj => by
                by_cases e : j = k
                · subst e; rw [HO.out.1]; exact hin
                · exact HB.out.2.2.2.2.1 j (by omega), HB.out.2.2.2.2.2⟩
              have HZ := hide (And.intro hiw (And.intro hou hJs))
              clear HB hct hin hiw hou hJs HO
              gi_wp2_with (refine ⟨trivial, ?_⟩; gi_at_call 47; refine (callsIn_wide.2 hC).mono ?_; rintro e w5 ⟨rfl, rfl⟩)
              go_roundw
              case rel => exact ⟨k + 1, qs', far', by omega, by go_num, HZ.out.1, HZ.out.2.1, HZ.out.2.2, HX⟩
              case measure => simp [intOf]; omega
            · have hct : qs'.contains (o : Int) = false := by
                cases e : qs'.contains (o : Int)
                · rfl
                · rw [List.contains_iff_mem] at e; exact absurd e hin
              rw [hct] at hC
              have cm := hiw.cell hm6
              have cp := hiw.cell ho6
              have fr : wr.frozen? ⟨W.heap.size, o, none⟩ = false := frozen_of_row _ _ _ _ _ hiw.fb
              obtain ⟨y2, hy2⟩ : ∃ y2, far' m = y2 := ⟨_, rfl⟩
              have hex := HB.out.1.exact HB.out.2.2.2.1
              rw [HB.out.2.2.1, hy2] at hex
              have hyb : -1 ≤ y2 ∧ y2 < 6 := by
                have h1 := dst_eq hex
                have h2 := dst_ge (jn n f) s m
                have h3 := dst_lt (R := jn n f) (N := 6) (a := s) (b := m) (fun x y h => by have := jn_lt HN.out h; omega) (by omega)
                omega
              rw [hy2] at cm
              have hw1 : wrap64 (y2 + 1) = y2 + 1 := Go.IntWalk.wrap64_in _ (by omega)
              have hput := hiw.put ho6 (y2 + 1)
              have hpo := hput.ow
              have hnew : ∀ j u, [Value.int .i64 o][j]? = some u → ((wr.setCell ⟨W.heap.size, o, none⟩ (.int .i64 (y2 + 1))).alloc (.cells #[.int .i64 o] 2)).cell? ((⟨wr.heap.size, 0, none⟩ : Addr).add j) = some u := by
                have := cell_one_new (wr.setCell ⟨W.heap.size, o, none⟩ (.int .i64 (y2 + 1))) (.int .i64 o) 2
                rwa [World.size_setCell] at this
              have hpa : Ow ((wr.setCell ⟨W.heap.size, o, none⟩ (.int .i64 (y2 + 1))).alloc (.cells #[.int .i64 o] 2)) (W.heap.size + 1) u5 qs' := hpo.below ((Below.refl _ _).alloc (Nat.le_refl _) _)
              have hsz := hiw.lt
              have hbs : W.heap.size + 1 ≤ ((wr.setCell ⟨W.heap.size, o, none⟩ (.int .i64 (y2 + 1))).alloc (.cells #[.int .i64 o] 2)).heap.size := by simp; omega
              have HF : Hid (∀ v' w1, Ow w1 (W.heap.size + 1) v' (qs' ++ [(o : Int)]) → ((wr.setCell ⟨W.heap.size, o, none⟩ (.int .i64 (y2 + 1))).alloc (.cells #[.int .i64 o] 2)).grownBy w1 u5.ownBlock → (v'.ownBlock = u5.ownBlock ∨ v'.ownBlock = some ((wr.setCell ⟨W.heap.size, o, none⟩ (.int .i64 (y2 + 1))).alloc (.cells #[.int .i64 o] 2)).heap.size) →
                  Iw W w1 v' (qs' ++ [(o : Int)]) (fput far' o (y2 + 1)) ∧ Ow w1 W3.heap.size (.slice (some ⟨g2, 0, none⟩) L cap2) (jl f m n) ∧ J pre2 w1 ∧ (Bf (jn n f) N s (qs' ++ [(o : Int)]) p (fput far' o (y2 + 1)) ∧ Pre (jn n f) s pre2 (qs' ++ [(o : Int)]) (p + 1) ∧ gd (qs' ++ [(o : Int)]) p = m ∧ p < (qs' ++ [(o : Int)]).length ∧ (∀ j, j < k + 1 → gd (jl f m n) j ∈ qs' ++ [(o : Int)]) ∧ ∀ j, v'.ownBlock = some j → (Value.slice (some ⟨g2, 0, none⟩) L cap2).ownBlock ≠ some j)) := by
                refine hide fun v' w1 hO hg hor => ?_
                obtain ⟨hb1, hb2, hb3, hb4, hb5, hb6⟩ := HB.out
                have hou2 : Ow (wr.setCell ⟨W.heap.size, o, none⟩ (.int .i64 (y2 + 1))) W3.heap.size (.slice (some ⟨g2, 0, none⟩) L cap2) (jl f m n) := hou.elder' HW3.out
                obtain ⟨h1, h2⟩ := hput.app hO hg
                have hst : Below W.heap.size wr (wr.setCell ⟨W.heap.size, o, none⟩ (.int .i64 (y2 + 1))) := (Below.refl W.heap.size wr).setCell (p := ⟨W.heap.size, o, none⟩) (Nat.le_refl _) _
                refine ⟨h1, hou2.beside (w := wr) hb6 hg, HJ.out _ _ _ hJs (hst.trans h2), ?_, hb2.push (by omega), by rw [gd_snoc_lt hb4]; exact hb3, by simp; omega, fun j hj => ?_, fun j hj hj2 => ?_⟩
                · have := hb1.push hb4 hin (by rw [hb3]; exact HO.out.2) (by omega)
                  rw [hb3, hy2] at this
                  exact this
                · by_cases e : j = k
                  · subst e; rw [HO.out.1]; exact List.mem_append.2 (.inr (by simp))
                  · exact List.mem_append.2 (.inl (hb5 j (by omega)))
                · rcases hor with e | e
                  · exact hb6 j (by rw [← e]; exact hj) hj2
                  · rw [e] at hj
                    have := (World.ownsRow.lt hou2 j hj2).2
                    simp at hj this
                    omega
              have hq7 : qs'.length ≤ 1048576 := by omega
              clear HB hct hin hiw hou hJs HO hput hpo hex hy2
              gi_wp2_with (first | (refine ⟨trivial, ?_⟩; gi_at_call 47; refine (callsIn_wide.2 hC).mono ?_; rintro e w5 ⟨rfl, rfl⟩) | (gi_at_builtin; refine wpListIn_app1 _ rfl _ _ rfl (W.heap.size + 1) _ qs' o ⟨w5.heap.size, 0, none⟩ rfl hpa rfl hnew hq7 hbs ?_; intro v' w1 hO hG hOr))
              have HX := hide (HF.out v' w1 hO hG hOr)
              clear HF hO hG hOr
              go_roundw
              case rel => exact ⟨k + 1, _, _, by omega, by go_num, HX.out.1, HX.out.2.1, HX.out.2.2.1, hide HX.out.2.2.2⟩
              case measure => simp [intOf]; omega
          · have e : k = L := by omega
            have HX : Hid (Bf (jn n f) N s qs' (p + 1) far' ∧ Pre (jn n f) s pre2 qs' (p + 1)) := hide ⟨HB.out.1.next HB.out.2.2.2.1 (fun v hv => by
              rw [HB.out.2.2.1] at hv
              obtain ⟨j, hj, ej⟩ := gd_of_mem ((mem_jl_jn HN.out).2 hv)
              rw [← ej]
              exact HB.out.2.2.2.2.1 j (by rw [e, ← HLn.out]; exact hj)), HB.out.2.1⟩
            have HY2 : Hid (p + 1 ≤ qs'.length) := hide (by have := HB.out.2.2.2.1; omega)
            clear HB e hou
            gi_wp2
            go_roundw
            case rel => exact ⟨p + 1, qs', far', pre2, HY2.out, by go_num, hiw, hJs, HX⟩
            case measure => simp [intOf]; omega
      · have HX : Hid (∀ y' ∈ pre ++ [((m : Int), y)], isD (jn n f) s y'.1 y'.2) := hide HP.out.2.ds
        clear HP hR
        gi_wp2
        refine bodyPost_ret (results_none rfl _ _ _) rfl ?_
        exact ⟨⟨_, rfl⟩, .inr ⟨_, HX.out, hJx3⟩⟩
    · have e : p = qs.length := by omega
      have HX : Hid (∀ b, (∀ y ∈ pre, y.1 ≠ b) → isD (jn n f) s b (-1)) := hide (fun b hb => by
        have h1 := HB.out.1
        rw [e] at h1
        refine h1.none (fun hm => ?_)
        have h2 := HB.out.2.ns b (by rw [e, List.take_length]; exact hm)
        obtain ⟨y, hy, hb2⟩ := h2
        exact hb y hy hb2)
      obtain ⟨ad', cap', rfl, hf⟩ := hiw.ow.form
      clear HB e hf hiw
      gi_wp2
      go_end0
      exact ⟨⟨_, rfl⟩, .inl ⟨_, HX.out, hJs⟩⟩

end Go.Proofs.Ytgafpepmmjjaaaa
