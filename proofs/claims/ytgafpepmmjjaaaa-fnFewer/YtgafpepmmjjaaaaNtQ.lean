/- nets: NextHop, both sides -/
import Derived.Test.YtgafpepmmjjaaaaNtP
import Derived.Deep.RegionHeld3
namespace Go.Proofs.Ytgafpepmmjjaaaa
open Go.RowKit
set_option linter.unusedVariables false
set_option linter.unusedSimpArgs false

/-- the first of a list that meets p -/
theorem find_at {l : List Int} {p : Int → Bool} {k : Nat} (hk : k < l.length) (hp : p (gd l k) = true) (h : ∀ j, j < k → p (gd l j) = false) : l.find? p = some (gd l k) := by
  induction l generalizing k with
  | nil => simp at hk
  | cons x l ih =>
    cases k with
    | zero => have : p x = true := hp; simp [List.find?, this]
    | succ k =>
      have h0 : p x = false := h 0 (by omega)
      have e : gd (x :: l) (k + 1) = gd l k := by simp [gd]
      rw [e] at hp ⊢
      rw [List.find?_cons_of_neg (by simp [h0])]
      refine ih (by simpa using hk) hp (fun j hj => ?_)
      have := h (j + 1) (by omega)
      simpa [gd] using this
theorem find_no {l : List Int} {p : Int → Bool} (h : ∀ j, j < l.length → p (gd l j) = false) : l.find? p = none := by
  rw [List.find?_eq_none]
  intro x hx
  obtain ⟨j, hj, rfl⟩ := gd_of_mem hx
  rw [h j hj]; decide
theorem find_least {l : List Int} {p : Int → Bool} {c : Int} (hs : l.Pairwise (· < ·)) (hc : c ∈ l) (hp : p c = true) (h : ∀ x, x ∈ l → x < c → p x = false) : l.find? p = some c := by
  induction l with
  | nil => simp at hc
  | cons x l ih =>
    rw [List.pairwise_cons] at hs
    by_cases e : x = c
    · subst e; simp [List.find?, hp]
    · have hc2 : c ∈ l := by
        rcases List.mem_cons.1 hc with h1 | h1
        · exact absurd h1.symm e
        · exact h1
      have h0 := h x (by simp) (hs.1 c hc2)
      rw [List.find?_cons_of_neg (by simp [h0])]
      exact ih hs.2 hc2 (fun y hy hlt => h y (List.mem_cons.2 (.inr hy)) hlt)

/-- a neighbour of a that is nearer to b -/
noncomputable def nr (n : Nat) (f : Nat → Nat → Int) (a b c : Int) : Bool := decide (dst (jn n f) c b = dst (jn n f) a b - 1)
/-- the least neighbour that is nearer -/
noncomputable def nx (n : Nat) (f : Nat → Nat → Int) (a b : Int) : Int := if 0 < dst (jn n f) a b then ((jl f a n).find? (nr n f a b)).getD (-1) else -1
noncomputable def nxA (N : Int) (n : Nat) (f : Nat → Nat → Int) (a b : Int) : Int := if thB N n f a b = true then nx n f a b else -1
theorem nx_zero {n : Nat} {f : Nat → Nat → Int} {a b : Int} (h : ¬ 0 < dst (jn n f) a b) : nx n f a b = -1 := if_neg h
theorem nx_at {n : Nat} {f : Nat → Nat → Int} {a b : Int} (h : 0 < dst (jn n f) a b) {k : Nat} (hk : k < (jl f a n).length) (hp : dst (jn n f) (gd (jl f a n) k) b = dst (jn n f) a b - 1) (hj : ∀ j, j < k → dst (jn n f) (gd (jl f a n) j) b ≠ dst (jn n f) a b - 1) : nx n f a b = gd (jl f a n) k := by
  rw [nx, if_pos h, find_at hk (by rw [nr, decide_eq_true hp]) (fun j hj' => by rw [nr, decide_eq_false (hj j hj')])]
  rfl
theorem nx_none {n : Nat} {f : Nat → Nat → Int} {a b : Int} (hj : ∀ j, j < (jl f a n).length → dst (jn n f) (gd (jl f a n) j) b ≠ dst (jn n f) a b - 1) : nx n f a b = -1 := by
  unfold nx
  split
  · rw [find_no (fun j hj' => by rw [nr, decide_eq_false (hj j hj')])]
    rfl
  · rfl
theorem nx_least {N : Int} {n : Nat} {f : Nat → Nat → Int} (hn : Nt N n f) {a b c : Int} (h : 0 < dst (jn n f) a b) (hc : jn n f a c = true) (hp : dst (jn n f) c b = dst (jn n f) a b - 1) (hl : ∀ x, 0 ≤ x → x < c → jn n f a x = true → dst (jn n f) x b ≠ dst (jn n f) a b - 1) : nx n f a b = c := by
  rw [nx, if_pos h, find_least (jl_rise hn a n (Nat.le_refl _)) ((mem_jl_jn hn).2 hc) (by rw [nr, decide_eq_true hp]) (fun x hx hlt => by
    have hj := (mem_jl_jn hn).1 hx
    rw [nr, decide_eq_false (hl x (jn_lt hn hj).2.2.1 hlt hj)])]
  rfl
theorem nx_no {N : Int} {n : Nat} {f : Nat → Nat → Int} (hn : Nt N n f) {a b : Int} (hl : ∀ x, 0 ≤ x → x < N → jn n f a x = true → dst (jn n f) x b ≠ dst (jn n f) a b - 1) : nx n f a b = -1 :=
  nx_none (fun j hj => by
    have hj2 := (mem_jl_jn hn).1 (gd_mem hj)
    exact hl _ (jn_lt hn hj2).2.2.1 (jn_lt hn hj2).2.2.2.1 hj2)

set_option maxHeartbeats 4000000 in
theorem implNext_any (N : Int) (v : Value) (n : Nat) (f : Nat → Nat → Int) (a b : Int) (w : World) (hs : Sr w v 2 n f) (hl : n ≤ 1048576) :
    Calls Try.prog 18 #[.agg (nt N v), .int .i64 a, .int .i64 b] w fun e w' => e = .returned (.int .i64 (nxA N n f a b)) ∧ Below w.heap.size w w' := by
  have HS := hide hs
  obtain ⟨ad, cap, rfl, _⟩ := hs
  have hB0 : Below w.heap.size w (w.alloc (.cells (nt N (.slice ad n cap)) 26)) := (Below.refl _ _).alloc (Nat.le_refl _) _
  have hbx : (w.alloc (.cells (nt N (.slice ad n cap)) 26)).heap[w.heap.size]? = some (.cells (nt N (.slice ad n cap)) 26 (0, 0)) := heap_alloc_new _ _
  have hD := fun a W h => implDist_any N (.slice ad n cap) n f a b W h hl
  go_enter Try.func18, Try.ntmps18
  go_wp2_with fail
  refine (hD a _ (HS.out.below hB0)).mono ?_
  rintro e w2 ⟨rfl, hb2⟩
  have hbx2 := (hb2.block _ (lt_of_block hbx)).trans hbx
  have hB2 := hB0.trans (hb2.mono hB0.size)
  clear hb2 hB0 hbx
  obtain ⟨d, hd⟩ : ∃ d, dstA N n f a b = d := ⟨_, rfl⟩
  rw [hd]
  by_cases hd1 : d < 1
  · have HO : Hid (-1 = nxA N n f a b) := hide (by
      rw [nxA]
      split
      · rename_i ht
        rw [dstA_th ht] at hd
        exact (nx_zero (by omega)).symm
      · rfl)
    have hde : decide (d < 1) = true := by simpa using hd1
    clear hd hd1
    go_wp2
    go_ret
    exact ⟨ret_i HO.out, hB2⟩
  have hde : decide (d < 1) = false := by simpa using hd1
  have ht : thB N n f a b = true := by
    cases e : thB N n f a b
    · rw [dstA_nth e] at hd; omega
    · rfl
  rw [dstA_th ht] at hd
  have HO : Hid (nxA N n f a b = nx n f a b) := hide (if_pos ht)
  simp only [thB, Bool.and_eq_true] at ht
  obtain ⟨⟨hN, ha⟩, hb⟩ := ht
  have hnt := nt_of hN
  have HV : Hid (∀ c, 0 ≤ c → c < N → dstA N n f c b = dst (jn n f) c b) := hide (fun c h0 h1 => dstA_yes hN (by simp [inB]; omega) hb)
  have hd0 : 1 ≤ d := by omega
  have hdb : d < 6 := by
    have h3 := dst_lt (R := jn n f) (N := 6) (a := a) (b := b) (fun x y h => by have := jn_lt hnt h; have := hnt.hi; omega) (by have := hnt.hi; simp [inB] at ha; omega)
    omega
  have hw1 : wrap64 (d - 1) = d - 1 := Go.IntWalk.wrap64_in _ (by omega)
  have HN := hide hnt
  have HD := hide hd
  have hJ := fun W h => implJoined_any N (.slice ad n cap) n f a W h hl (fun k hk => by have := hnt.lk k hk; omega)
  clear hN ha hb hnt hd hd1
  obtain ⟨_, n0, n1⟩ := row2_facts hbx2
  go_wp2_with fail
  refine (hJ _ (HS.out.below hB2)).mono ?_
  rintro e w3 ⟨uo, rfl, hou, hb3⟩
  have hbx3 := (hb3.block _ (lt_of_block hbx2)).trans hbx2
  have hB3 := hB2.trans (hb3.mono hB2.size)
  clear hb3 hB2 hJ n0 n1 hbx2
  obtain ⟨ad2, cap2, rfl, hf2⟩ := hou.form
  have hLb : (jl f a n).length ≤ 2097152 := by have := jl_le f a n; omega
  obtain ⟨L, hL⟩ : ∃ L, (jl f a n).length = L := ⟨_, rfl⟩
  rw [hL] at hf2 hou hLb ⊢
  have HL := hide hL
  have HU := hide hou
  clear hL hou
  go_wp2
  go_loopw [20] (fun i wr => ∃ k : Nat, k ≤ L ∧ i = .int .i64 k ∧ wr.heap[w.heap.size]? = some (.cells (nt N (.slice ad n cap)) 26 (0, 0)) ∧ Below w.heap.size w wr ∧ Below w3.heap.size w3 wr ∧ Hid (∀ j, j < k → dst (jn n f) (gd (jl f a n) j) b ≠ d - 1)) (fun i _ => L - (intOf i).toNat)
  case atStart => exact ⟨0, Nat.zero_le _, rfl, hbx3, hB3, Below.refl _ _, hide (fun j hj => by omega)⟩
  case round =>
    obtain ⟨k, hk, rfl, hbk, hB, hB', HA⟩ := hrel
    clear hbx3 hB3
    obtain ⟨_, n0, n1⟩ := row2_facts hbk
    by_cases hlt : k < L
    · obtain ⟨g2, rfl⟩ := hf2 (by omega)
      have hkl : k < (jl f a n).length := by rw [HL.out]; exact hlt
      have ck := keepc hB' (HU.out.at hkl)
      have hjn := jn_lt HN.out ((mem_jl_jn HN.out).1 (gd_mem hkl))
      obtain ⟨c, hc⟩ : ∃ c, gd (jl f a n) k = c := ⟨_, rfl⟩
      rw [hc] at ck hjn
      have hDc := hD c wr (HS.out.below hB)
      rw [HV.out c hjn.2.2.1 hjn.2.2.2.1] at hDc
      obtain ⟨x, hx⟩ : ∃ x, dst (jn n f) c b = x := ⟨_, rfl⟩
      rw [hx] at hDc
      by_cases hxd : x = d - 1
      · have hxe : (x == d - 1) = true := by simpa using hxd
        have HR : Hid (c = nxA N n f a b) := hide (by
          rw [HO.out, ← hc]
          refine (nx_at (by rw [HD.out]; omega) hkl (by rw [hc, hx, hxd, HD.out]) (fun j hj => by rw [HD.out]; exact HA.out j hj)).symm)
        clear hxd hx hc hjn hkl HA hf2
        go_wp2_with (go_at_call 10; refine hDc.mono ?_; rintro e w4 ⟨rfl, hb4⟩)
        go_ret
        exact ⟨ret_i HR.out, hB.trans (hb4.mono hB.size)⟩
      · have hxe : (x == d - 1) = false := by simpa using hxd
        have HA3 : Hid (∀ j, j < k + 1 → dst (jn n f) (gd (jl f a n) j) b ≠ d - 1) := hide (fun j hj => by
          by_cases e : j = k
          · subst e; rw [hc, hx]; exact hxd
          · exact HA.out j (by omega))
        clear hxd hx hc hjn hkl HA hf2
        go_wp2_with (go_at_call 10; refine hDc.mono ?_; rintro e w4 ⟨rfl, hb4⟩)
        have HZ := hide (And.intro ((hb4.block _ (lt_of_block hbk)).trans hbk) (And.intro (hB.trans (hb4.mono hB.size)) (hB'.trans (hb4.mono hB'.size))))
        clear hb4 hB hbk hB'
        go_roundw
        case rel => exact ⟨k + 1, by omega, by go_num, HZ.out.1, HZ.out.2.1, HZ.out.2.2, HA3⟩
        case measure => simp [intOf]; omega
    · have HR : Hid (-1 = nxA N n f a b) := hide (by
        rw [HO.out]
        refine (nx_none (fun j hj => ?_)).symm
        rw [HD.out]
        exact HA.out j (by rw [HL.out] at hj; omega))
      clear HA hf2
      go_wp2
      go_ret
      exact ⟨ret_i HR.out, hB⟩

end Go.Proofs.Ytgafpepmmjjaaaa
