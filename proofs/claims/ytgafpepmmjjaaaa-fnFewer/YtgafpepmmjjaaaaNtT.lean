/- nets: PathBy, both sides -/
import Derived.Test.YtgafpepmmjjaaaaNtR
namespace Go.Proofs.Ytgafpepmmjjaaaa
open Go.RowKit
set_option linter.unusedVariables false
set_option linter.unusedSimpArgs false

theorem nx_step {N : Int} {n : Nat} {f : Nat → Nat → Int} (hn : Nt N n f) {x b : Int} (h : 0 < dst (jn n f) x b) : jn n f x (nx n f x b) = true ∧ dst (jn n f) (nx n f x b) b = dst (jn n f) x b - 1 := by
  have hw := dst_wk (R := jn n f) (a := x) (b := b) (by omega)
  obtain ⟨d, hd⟩ : ∃ d : Nat, dst (jn n f) x b = (d : Int) + 1 := ⟨(dst (jn n f) x b - 1).toNat, by omega⟩
  have e : (dst (jn n f) x b).toNat = d + 1 := by omega
  rw [e] at hw
  obtain ⟨c, hc, hw2⟩ := hw
  have h1 := dst_le hw2
  have h2 := dst_wk (R := jn n f) (a := c) (b := b) h1.1
  have h3 : Wk (jn n f) ((dst (jn n f) c b).toNat + 1) x b := ⟨c, hc, h2⟩
  have h4 := dst_le h3
  have hcd : dst (jn n f) c b = dst (jn n f) x b - 1 := by omega
  have hnn : (jl f x n).find? (nr n f x b) ≠ none := by
    intro hnone
    rw [List.find?_eq_none] at hnone
    exact hnone c ((mem_jl_jn hn).2 hc) (by rw [nr, decide_eq_true hcd])
  obtain ⟨y, hy⟩ : ∃ y, (jl f x n).find? (nr n f x b) = some y := by
    cases hf : (jl f x n).find? (nr n f x b) with
    | none => exact absurd hf hnn
    | some y => exact ⟨y, rfl⟩
  have hnx : nx n f x b = y := by rw [nx, if_pos h, hy]; rfl
  rw [hnx]
  have hp := List.find?_some hy
  rw [nr, decide_eq_true_eq] at hp
  exact ⟨(mem_jl_jn hn).1 (List.mem_of_find?_eq_some hy), hp⟩

/-- step by step nearer -/
noncomputable def ph (n : Nat) (f : Nat → Nat → Int) (a b : Int) : Nat → Int
  | 0 => a
  | k + 1 => nx n f (ph n f a b k) b
theorem ph_facts {N : Int} {n : Nat} {f : Nat → Nat → Int} (hn : Nt N n f) {a b : Int} (ha : 0 ≤ a ∧ a < N) {d : Nat} (hd : dst (jn n f) a b = d) : ∀ k, k ≤ d → (0 ≤ ph n f a b k ∧ ph n f a b k < N) ∧ dst (jn n f) (ph n f a b k) b = (d : Int) - k := by
  intro k
  induction k with
  | zero => intro _; exact ⟨ha, by rw [ph, hd]; omega⟩
  | succ k ih =>
    intro hk
    obtain ⟨h1, h2⟩ := ih (by omega)
    obtain ⟨h3, h4⟩ := nx_step hn (x := ph n f a b k) (b := b) (by omega)
    have h5 := jn_lt hn h3
    exact ⟨⟨h5.2.2.1, h5.2.2.2.1⟩, by rw [ph, h4, h2]; omega⟩
/-- the path -/
noncomputable def pthA (N : Int) (n : Nat) (f : Nat → Nat → Int) (a b : Int) : List Int := if dstA N n f a b < 0 then [] else rl ((dstA N n f a b).toNat + 1) (ph n f a b)
theorem rl_succ (M : Nat) (o : Nat → Int) : rl (M + 1) o = rl M o ++ [o M] := by simp [rl, List.range_succ]
theorem pth_no {N : Int} {n : Nat} {f : Nat → Nat → Int} {a b : Int} (h : dstA N n f a b < 0) : pthA N n f a b = [] := if_pos h
theorem pth_yes {N : Int} {n : Nat} {f : Nat → Nat → Int} {a b : Int} {d : Nat} (h : dstA N n f a b = d) : pthA N n f a b = rl (d + 1) (ph n f a b) := by
  rw [pthA, h, if_neg (by omega)]; rfl
theorem dstA_ge (N : Int) (n : Nat) (f : Nat → Nat → Int) (a b : Int) : -1 ≤ dstA N n f a b := by
  unfold dstA
  split
  · exact dst_ge _ _ _
  · decide
theorem dstA_lt {N : Int} {n : Nat} {f : Nat → Nat → Int} {a b : Int} : dstA N n f a b < 6 := by
  unfold dstA
  split
  · rename_i h
    have hnt := nt_of h.1
    have := hnt.hi
    have h2 : 0 ≤ a ∧ a < N := by simpa [inB] using h.2.1
    exact dst_lt (R := jn n f) (N := 6) (fun x y h => by have := jn_lt hnt h; omega) (by omega)
  · decide
theorem pth_le (N : Int) (n : Nat) (f : Nat → Nat → Int) (a b : Int) : (pthA N n f a b).length ≤ 6 := by
  unfold pthA
  split
  · simp
  · rw [rl_length]; have := dstA_lt (N := N) (n := n) (f := f) (a := a) (b := b); omega
theorem th_of {N : Int} {n : Nat} {f : Nat → Nat → Int} {a b : Int} {d : Nat} (h : dstA N n f a b = d) : thB N n f a b = true := by
  cases e : thB N n f a b
  · rw [dstA_nth e] at h; omega
  · rfl

def slen : Value → Nat
  | .slice _ l _ => l
  | _ => 0

theorem Ow.one {w : World} {x : Int} (base : Nat) (hb : base ≤ w.heap.size) : Ow (w.alloc (.cells #[.int .i64 x] 2)) base (.slice (some ⟨w.heap.size, 0, none⟩) 1 1) [x] :=
  ⟨rfl, .inr ⟨_, 1, #[.int .i64 x], rfl, hb, heap_alloc_new _ _, Nat.le_refl _, by unfold maxLen; omega, rfl, rfl⟩⟩

set_option maxHeartbeats 4000000 in
theorem implPath_any (N : Int) (v : Value) (n : Nat) (f : Nat → Nat → Int) (a b : Int) (w : World) (hs : Sr w v 2 n f) (hl : n ≤ 1048576) :
    Calls Try.prog 15 #[.agg (nt N v), .int .i64 a, .int .i64 b] w fun e w' => ∃ u, e = .returned u ∧ Ow w' w.heap.size u (pthA N n f a b) ∧ Below w.heap.size w w' := by
  have HS := hide hs
  obtain ⟨ad, cap, rfl, _⟩ := hs
  obtain ⟨i0, hi, hz0, hz1, hz2⟩ := info_parts Try.info2
  have hB0 : Below w.heap.size w (w.alloc (.cells (nt N (.slice ad n cap)) 26)) := (Below.refl _ _).alloc (Nat.le_refl _) _
  have hbx : (w.alloc (.cells (nt N (.slice ad n cap)) 26)).heap[w.heap.size]? = some (.cells (nt N (.slice ad n cap)) 26 (0, 0)) := heap_alloc_new _ _
  have hD := fun W h => implDist_any N (.slice ad n cap) n f a b W h hl
  have hX := fun x W h => implNext_any N (.slice ad n cap) n f x b W h hl
  go_enter Try.func15, Try.ntmps15
  go_wp2_with fail
  refine (hD _ (HS.out.below hB0)).mono ?_
  rintro e w2 ⟨rfl, hb2⟩
  have hbx2 := (hb2.block _ (lt_of_block hbx)).trans hbx
  have hB2 := hB0.trans (hb2.mono hB0.size)
  clear hb2 hB0 hbx hD
  have hge := dstA_ge N n f a b
  have hlt6 := dstA_lt (N := N) (n := n) (f := f) (a := a) (b := b)
  obtain ⟨x, hx⟩ : ∃ x, dstA N n f a b = x := ⟨_, rfl⟩
  rw [hx] at hge hlt6 ⊢
  by_cases hx1 : x = -1
  · have hxe : (x == -1) = true := by simpa using hx1
    have HO : Hid (Ow w2 w.heap.size (.slice none 0 0) (pthA N n f a b)) := hide (by rw [pth_no (by omega)]; exact Ow.empty_nil _ _)
    clear hx1 hx
    go_wp2
    go_ret
    exact ⟨_, rfl, HO.out, hB2⟩
  have hxe : (x == -1) = false := by simpa using hx1
  obtain ⟨d, rfl⟩ : ∃ d : Nat, x = d := ⟨x.toNat, by omega⟩
  have hd6 : d < 6 := by omega
  have HP := hide (pth_yes hx)
  have ht := th_of hx
  rw [dstA_th ht] at hx
  simp only [thB, Bool.and_eq_true] at ht
  obtain ⟨⟨hN, ha⟩, hb⟩ := ht
  have hnt := nt_of hN
  have hF := ph_facts hnt (a := a) (b := b) (by simpa [inB] using ha) hx
  have HF := hide hF
  have HX : Hid (∀ k, k ≤ d → nxA N n f (ph n f a b k) b = ph n f a b (k + 1)) := hide (fun k hk => by
    have := (HF.out k hk).1
    rw [nxA, if_pos (by rw [thB, hN, hb, inB, decide_eq_true (by omega)]; rfl), ph])
  have HE : Hid (∀ k, k ≤ d → (ph n f a b k = b ↔ k = d)) := hide (fun k hk => by
    have h2 := (HF.out k hk).2
    constructor
    · intro e; rw [e, dst_self] at h2; omega
    · intro e; subst e; exact dst_zero (R := jn n f) (by omega))
  have HB2 := hide hB2
  have hz2' : w.heap.size ≤ w2.heap.size := hB2.size
  have hbx3 : (w2.alloc (.cells #[.int .i64 a] 2)).heap[w.heap.size]? = some (.cells (nt N (.slice ad n cap)) 26 (0, 0)) := (Below.heap_alloc _ _ _ (lt_of_block hbx2)).trans hbx2
  have HW : Hid (Ow (w2.alloc (.cells #[.int .i64 a] 2)) (w.heap.size + 1) (.slice (some ⟨w2.heap.size, 0, none⟩) 1 1) (rl (0 + 1) (ph n f a b))) := hide (Ow.one _ (by have := lt_of_block hbx2; omega))
  clear hx hN ha hb hnt hF hx1 hB2
  obtain ⟨_, n0, n1⟩ := row2_facts hbx2
  go_wp2
  go_loopw [7, 8] (fun t i wr => ∃ k : Nat, k ≤ d ∧ i = .int .i64 (ph n f a b k) ∧ Ow wr (w.heap.size + 1) t (rl (k + 1) (ph n f a b)) ∧ wr.heap[w.heap.size]? = some (.cells (nt N (.slice ad n cap)) 26 (0, 0)) ∧ Hid (Below w.heap.size w wr)) (fun t _ _ => d + 1 - slen t)
  case atStart => exact ⟨0, Nat.zero_le _, rfl, HW.out, hbx3, hide (HB2.out.alloc hz2' _)⟩
  case round =>
    obtain ⟨k, hk, rfl, hok, hbk, HB⟩ := hrel
    clear HW hbx3 HB2 hbx2 n0 n1
    obtain ⟨_, n0, n1⟩ := row2_facts hbk
    have hszb := lt_of_block hbk
    by_cases hlt : k < d
    · have hne : (ph n f a b k != b) = true := by
        have : ph n f a b k ≠ b := fun e => by have := (HE.out k hk).1 e; omega
        simpa using this
      have hXk := hX (ph n f a b k) wr (HS.out.below HB.out)
      rw [HX.out k hk] at hXk
      obtain ⟨y, hy⟩ : ∃ y, ph n f a b (k + 1) = y := ⟨_, rfl⟩
      obtain ⟨x, hx⟩ : ∃ x, ph n f a b k = x := ⟨_, rfl⟩
      rw [hy] at hXk
      rw [hx] at hne hXk ⊢
      have HR : Hid (rl (k + 1 + 1) (ph n f a b) = rl (k + 1) (ph n f a b) ++ [y]) := hide (by rw [rl_succ (k + 1), hy])
      have HL := hide (rl_length (k + 1) (ph n f a b))
      have hlen : (rl (k + 1) (ph n f a b)).length ≤ 7 := by rw [rl_length]; omega
      have HY := hide hy
      have HT : Hid (slen u7 = k + 1) := hide (by
        obtain ⟨a7, c7, e7, _⟩ := hok.form
        rw [e7, slen, rl_length])
      clear hx hy
      go_wp2_with fail
      refine hXk.mono ?_
      rintro e w3 ⟨rfl, hb3⟩
      have hok3 := hok.below hb3
      have hbk3 := (hb3.block _ hszb).trans hbk
      have HB3 := hide (HB.out.trans (hb3.mono HB.out.size))
      have hsz3 := lt_of_block hbk3
      clear hb3 hok hbk HB hXk n0 n1
      have HG : Hid (∀ w1, (w3.alloc (.cells #[.int .i64 y] 2)).grownBy w1 u7.ownBlock → w1.heap[w.heap.size]? = some (.cells (nt N (.slice ad n cap)) 26 (0, 0)) ∧ Below w.heap.size w w1) := hide (fun w1 hg => by
        have hlt5 : ∀ j, u7.ownBlock = some j → w.heap.size + 1 ≤ j := fun j hj => (World.ownsRow.lt hok3 j hj).1
        refine ⟨(hg.block _ (by simp; omega) (fun e => by have := hlt5 _ e.symm; omega)).trans ((Below.heap_alloc _ _ _ hsz3).trans hbk3), ?_⟩
        exact (HB3.out.alloc (by omega) _).grown hg (by simp; omega) (fun j hj => by have := hlt5 j hj; omega))
      go_wp2_with (at_builtin; refine wpList_append_own _ rfl _ _ 32 rfl (w.heap.size + 1) 2 i0 (.int .i64 0) 1 8 Try.underlying32 hi hz0 hz1 hz2 rfl (by decide) _ _ _ rfl (World.ownsRow.alloc hok3 _) _ 1 1 [.int .i64 y] rfl rfl (cell_one_new _ _ _) (by intro u hu; simp at hu; subst hu; rfl) (by unfold maxLen; omega) (by omega) (by simp; omega) ?_)
      intro v' w1 hown' hgrow _
      have hR := Ow.snoc hown'
      rw [← HR.out] at hR
      have HT2 : Hid (slen v' = k + 1 + 1) := hide (by
        obtain ⟨a7, c7, e7, _⟩ := hR.form
        rw [e7, slen, rl_length])
      have HZ := hide (And.intro hR (HG.out w1 hgrow))
      clear hown' hgrow hR hok3 HB3 HG hbk3
      go_wp2
      go_roundw
      case rel => exact ⟨k + 1, by omega, by rw [HY.out], HZ.out.1, HZ.out.2.1, hide HZ.out.2.2⟩
      case measure => simp only [HT.out, HT2.out] <;> simp [HT.out, HT2.out] <;> omega
    · have e : k = d := by omega
      have hne : (ph n f a b k != b) = false := by
        have : ph n f a b k = b := (HE.out k hk).2 e
        simpa using this
      have HR : Hid (Ow wr w.heap.size u7 (pthA N n f a b)) := hide (by rw [HP.out, ← e]; exact hok.mono (by omega))
      clear e
      go_wp2
      go_ret
      exact ⟨_, rfl, HR.out, HB.out⟩

end Go.Proofs.Ytgafpepmmjjaaaa
