/- LdD -/
import Derived.Test.YtnkocikbapbbmaaYnkPlay7
/- slices.Clone of texts, of wires; impl.linkCopy (written by mkLdD.py) -/
namespace Go.Proofs.Ytnkocikbapbbmaa
open Go.RowKit
set_option linter.unusedVariables false
set_option linter.unusedSimpArgs false

/-- a row that is nil, or has a place -/
def Pl (v : Value) (n : Nat) : Prop := (v = .slice none 0 0 ∧ n = 0) ∨ ∃ a k, v = .slice (some a) n k
theorem Rg.news {w : World} {m n : Nat} {f : Nat → Nat → Value} {a : Addr} {k : Nat} (hm : 0 < m) (h : Sg w (.slice (some a) n k) m n f) : ∀ j u, (rowG m n f)[j]? = some u → w.cell? (a.add j) = some u := by
  intro j u hu
  have hj : j < n * m := by
    have := (List.getElem?_eq_some_iff.1 hu).1
    rwa [rowG_len] at this
  rw [rowG_get hj] at hu
  obtain ⟨ad, cap, e, hc⟩ := h
  simp only [Value.slice.injEq] at e
  obtain ⟨rfl, _, rfl⟩ := e
  have hn : 0 < n := by
    rcases Nat.eq_zero_or_pos n with h0 | h0
    · subst h0; simp at hj
    · exact h0
  obtain ⟨b, off, e, hd⟩ := hc hn
  cases e
  have h1 : j / m < n := Nat.div_lt_of_lt_mul (by rw [Nat.mul_comm]; exact hj)
  have := hd (j / m) h1 (j % m) (Nat.mod_lt _ hm)
  rw [addrN]
  have e2 : off + j = off + j / m * m + j % m := by have := Nat.div_add_mod j m; rw [Nat.mul_comm] at this; omega
  rw [e2, this]
  exact hu

theorem nil_yes_texts (W : World) : (binOp BinOp.eql 22 (.slice none 0 0) (.slice none 0 0)).run Try.prog W = .ok (.bool true) W := by kernel_rfl
theorem nil_no_texts (a : Addr) (n c : Nat) (W : World) : (binOp BinOp.eql 22 (.slice (some a) n c) (.slice none 0 0)).run Try.prog W = .ok (.bool false) W := by kernel_rfl
theorem one_texts {n : Nat} (s : Nat → ByteArray) : ∀ u ∈ rowG 1 n (tF s), u.oneCell' = true := by
  intro u hu
  obtain ⟨x, _, rfl⟩ := List.mem_map.1 hu
  rfl

set_option maxRecDepth 20000 in
set_option maxHeartbeats 1000000 in
theorem clone_texts (v : Value) (n : Nat) (s : Nat → ByteArray) (w : World) (hp : Pl v n) (hs : Sg w v 1 n (tF s)) (hn : n ≤ 1048576) :
    Calls Try.prog 60 #[v] w fun e w' => ∃ u, e = .returned u ∧ Rg w' w.heap.size u 1 n (tF s) ∧ Below w.heap.size w w' := by
  obtain ⟨i0, hi, hz0, hz1, hz2⟩ := info_parts infoStr
  rcases hp with ⟨rfl, rfl⟩ | ⟨a, k, rfl⟩
  · have hq := nil_yes_texts
    go_enter Try.func60, Try.ntmps60
    go_wp2
    go_ret
    exact ⟨_, rfl, .inl ⟨⟨none, rfl⟩, rfl⟩, Below.refl _ _⟩
  · have hA : Below w.heap.size w (w.alloc (.cells #[] 9)) := (Below.refl _ _).alloc (Nat.le_refl _) _
    have hnew := Rg.news (by decide) (hs.below hA)
    have hone := one_texts (n := n) s
    have hown : (w.alloc (.cells #[] 9)).ownsRow w.heap.size 9 1 (.slice (some ⟨w.heap.size, 0, none⟩) 0 0) 0 [] := ⟨by simp, .inr ⟨w.heap.size, 0, #[], rfl, Nat.le_refl _, heap_alloc_new _ _, Nat.le_refl _, by decide, by simp, rfl⟩⟩
    have HF : Hid (∀ v' w', w'.ownsRow w.heap.size 9 1 v' n (rowG 1 n (tF s)) → (w.alloc (.cells #[] 9)).grownBy w' (some w.heap.size) → Rg w' w.heap.size v' 1 n (tF s) ∧ Below w.heap.size w w') := hide (fun v' w' h1 h2 => by
      exact ⟨own_rg h1 (fun x hx => rowG_get hx), hA.grown h2 hA.size (fun k hk => by have := Option.some.inj hk; omega)⟩)
    clear hA hs
    have hq := nil_no_texts a n k
    go_enter Try.func60, Try.ntmps60
    go_wp2_with (first | (at_builtin; refine wpList_append_own _ rfl _ _ 22 rfl w.heap.size 9 i0 (.string ⟨#[]⟩) 1 16 Try.underlying22 hi hz0 hz1 hz2 rfl (by decide) _ _ _ rfl hown a n k (rowG 1 n (tF s)) rfl (by rw [rowG_len]) hnew hone (by unfold maxLen; omega) (by omega) (by simp) ?_) | go_in)
    intro v' w' h1 h2 _
    have HF2 := hide (HF.out v' w' h1 h2)
    clear h1 h2 HF hnew hone hown
    go_wp2
    go_ret
    exact ⟨_, rfl, HF2.out.1, HF2.out.2⟩

theorem nil_yes_wires (W : World) : (binOp BinOp.eql 28 (.slice none 0 0) (.slice none 0 0)).run Try.prog W = .ok (.bool true) W := by kernel_rfl
theorem nil_no_wires (a : Addr) (n c : Nat) (W : World) : (binOp BinOp.eql 28 (.slice (some a) n c) (.slice none 0 0)).run Try.prog W = .ok (.bool false) W := by kernel_rfl
theorem one_wires {n : Nat} (t : Nat → ByteArray) (h : Nat → Bool) : ∀ u ∈ rowG 2 n (wF t h), u.oneCell' = true := by
  intro u hu
  obtain ⟨x, _, rfl⟩ := List.mem_map.1 hu
  show (wF t h (x / 2) (x % 2)).oneCell' = true
  unfold wF
  split <;> rfl

set_option maxRecDepth 20000 in
set_option maxHeartbeats 1000000 in
theorem clone_wires (v : Value) (n : Nat) (t : Nat → ByteArray) (h : Nat → Bool) (w : World) (hp : Pl v n) (hs : Sg w v 2 n (wF t h)) (hn : n ≤ 1048576) :
    Calls Try.prog 61 #[v] w fun e w' => ∃ u, e = .returned u ∧ Rg w' w.heap.size u 2 n (wF t h) ∧ Below w.heap.size w w' := by
  obtain ⟨i0, hi, hz0, hz1, hz2⟩ := info_parts infoWi
  rcases hp with ⟨rfl, rfl⟩ | ⟨a, k, rfl⟩
  · have hq := nil_yes_wires
    go_enter Try.func61, Try.ntmps61
    go_wp2
    go_ret
    exact ⟨_, rfl, .inl ⟨⟨none, rfl⟩, rfl⟩, Below.refl _ _⟩
  · have hA : Below w.heap.size w (w.alloc (.cells #[] 73)) := (Below.refl _ _).alloc (Nat.le_refl _) _
    have hnew := Rg.news (by decide) (hs.below hA)
    have hone := one_wires (n := n) t h
    have hown : (w.alloc (.cells #[] 73)).ownsRow w.heap.size 73 2 (.slice (some ⟨w.heap.size, 0, none⟩) 0 0) 0 [] := ⟨by simp, .inr ⟨w.heap.size, 0, #[], rfl, Nat.le_refl _, heap_alloc_new _ _, Nat.le_refl _, by decide, by simp, rfl⟩⟩
    have HF : Hid (∀ v' w', w'.ownsRow w.heap.size 73 2 v' n (rowG 2 n (wF t h)) → (w.alloc (.cells #[] 73)).grownBy w' (some w.heap.size) → Rg w' w.heap.size v' 2 n (wF t h) ∧ Below w.heap.size w w') := hide (fun v' w' h1 h2 => by
      exact ⟨own_rg h1 (fun x hx => rowG_get hx), hA.grown h2 hA.size (fun k hk => by have := Option.some.inj hk; omega)⟩)
    clear hA hs
    have hq := nil_no_wires a n k
    go_enter Try.func61, Try.ntmps61
    go_wp2_with (first | (at_builtin; refine wpList_append_own _ rfl _ _ 28 rfl w.heap.size 73 i0 (.agg #[.string ⟨#[]⟩, .bool false]) 2 24 Try.underlying28 hi hz0 hz1 hz2 rfl (by decide) _ _ _ rfl hown a n k (rowG 2 n (wF t h)) rfl (by rw [rowG_len]) hnew hone (by unfold maxLen; omega) (by omega) (by simp) ?_) | go_in)
    intro v' w' h1 h2 _
    have HF2 := hide (HF.out v' w' h1 h2)
    clear h1 h2 HF hnew hone hown
    go_wp2
    go_ret
    exact ⟨_, rfl, HF2.out.1, HF2.out.2⟩

/-- a link in memory, its rows in blocks of their own, with room -/
structure Lr (w : World) (base : Nat) (wv gv dv uv : Value) (p : Lk) : Prop where
  wa : Rg w base wv 1 p.nw (tF p.ws)
  go : Rg w base gv 1 p.ng (tF p.gs)
  dn : Rg w base dv 2 p.nd (wF p.dt p.dh)
  up : Rg w base uv 2 p.nu (wF p.ut p.uh)
  aw : ∀ g, rb wv = some g → rb gv ≠ some g ∧ rb dv ≠ some g ∧ rb uv ≠ some g
  ag : ∀ g, rb gv = some g → rb dv ≠ some g ∧ rb uv ≠ some g
  ad : ∀ g, rb dv = some g → rb uv ≠ some g
theorem Lr.below {w w' : World} {base : Nat} {wv gv dv uv : Value} {p : Lk} (h : Lr w base wv gv dv uv p) (hb : Below w.heap.size w w') : Lr w' base wv gv dv uv p := ⟨h.wa.below hb, h.go.below hb, h.dn.below hb, h.up.below hb, h.aw, h.ag, h.ad⟩
theorem Lr.lv {w : World} {base : Nat} {wv gv dv uv : Value} {p : Lk} (h : Lr w base wv gv dv uv p) : Lv w wv gv dv uv p := ⟨h.wa.sg, h.go.sg, h.dn.sg, h.up.sg⟩
theorem Rg.base {w : World} {base base' : Nat} {v : Value} {m n : Nat} {f : Nat → Nat → Value} (h : Rg w base v m n f) (hb : base' ≤ base) : Rg w base' v m n f := by
  rcases h with h | ⟨g, off, k, e, h1, hp, h0, h2, h3⟩
  · exact .inl h
  · exact .inr ⟨g, off, k, e, h1, hp, h0, by omega, h3⟩
theorem Rg.other {w : World} {base B i : Nat} {u v : Value} {m n : Nat} {f : Nat → Nat → Value} (h : Rg w base v m n f) (hB : B < base) : Rg (w.setCell ⟨B, i, none⟩ u) base v m n f := by
  have hb : Below 0 w (w.setCell ⟨B, i, none⟩ u) := (Below.refl 0 w).setCell (Nat.zero_le _) u
  have hg : w.grownBy (w.setCell ⟨B, i, none⟩ u) (some B) := ⟨hb.os, hb.tape, hb.output, hb.size, fun j hj hne => heap_setCell_other _ _ _ _ (fun e => hne (by rw [e]))⟩
  exact h.kept hg (fun g hg' e => by have := (h.lt g hg').1; have := Option.some.inj e; omega)
theorem Lr.set {w : World} {base B i : Nat} {u wv gv dv uv : Value} {p : Lk} (h : Lr w base wv gv dv uv p) (hB : B < base) : Lr (w.setCell ⟨B, i, none⟩ u) base wv gv dv uv p := ⟨h.wa.other hB, h.go.other hB, h.dn.other hB, h.up.other hB, h.aw, h.ag, h.ad⟩
theorem Lr.down {w : World} {base base' : Nat} {wv gv dv uv : Value} {p : Lk} (h : Lr w base wv gv dv uv p) (hb : base' ≤ base) : Lr w base' wv gv dv uv p := ⟨h.wa.base hb, h.go.base hb, h.dn.base hb, h.up.base hb, h.aw, h.ag, h.ad⟩

set_option maxRecDepth 20000 in
set_option maxHeartbeats 4000000 in
theorem linkCopy_any (wv gv dv uv : Value) (p : Lk) (w : World) (hv : Lv w wv gv dv uv p) (hs : Lsm 1048576 p) (hp : Pl wv p.nw ∧ Pl gv p.ng ∧ Pl dv p.nd ∧ Pl uv p.nu) :
    Calls Try.prog 42 #[.agg (l6 p.base wv p.want gv dv uv)] w fun e w' => ∃ wv' gv' dv' uv', e = .returned (.agg (l6 p.base wv' p.want gv' dv' uv')) ∧ Lr w' w.heap.size wv' gv' dv' uv' p ∧ Below w.heap.size w w' := by
  have hB0 : Below w.heap.size w ((w.alloc (.cells (l6 p.base wv p.want gv dv uv) 30)).alloc (.cells #[.int .i64 0, .slice none 0 0, .int .i64 0, .slice none 0 0, .slice none 0 0, .slice none 0 0] 30)) := ((Below.refl _ _).alloc (Nat.le_refl _) _).alloc (by simp) _
  have qa : ((w.alloc (.cells (l6 p.base wv p.want gv dv uv) 30)).alloc (.cells #[.int .i64 0, .slice none 0 0, .int .i64 0, .slice none 0 0, .slice none 0 0, .slice none 0 0] 30)).heap[w.heap.size]? = some (.cells (l6 p.base wv p.want gv dv uv) 30 (0, 0)) := by
    rw [Below.heap_alloc _ _ _ (by simp)]; exact heap_alloc_new _ _
  have qr : ((w.alloc (.cells (l6 p.base wv p.want gv dv uv) 30)).alloc (.cells #[.int .i64 0, .slice none 0 0, .int .i64 0, .slice none 0 0, .slice none 0 0, .slice none 0 0] 30)).heap[w.heap.size + 1]? = some (.cells #[.int .i64 0, .slice none 0 0, .int .i64 0, .slice none 0 0, .slice none 0 0, .slice none 0 0] 30 (0, 0)) := by
    have := heap_alloc_new (w.alloc (.cells (l6 p.base wv p.want gv dv uv) 30)) (.cells #[.int .i64 0, .slice none 0 0, .int .i64 0, .slice none 0 0, .slice none 0 0, .slice none 0 0] 30)
    simpa only [World.size_alloc] using this
  have HV := hide hv
  obtain ⟨⟨wa, wc, rfl, _⟩, ⟨ga, gc, rfl, _⟩, ⟨da, dc, rfl, _⟩, ⟨ua, uc, rfl, _⟩⟩ := hv
  obtain ⟨⟨s1, _⟩, ⟨s2, _⟩, ⟨s3, _⟩, ⟨s4, _⟩⟩ := hs
  obtain ⟨p1, p2, p3, p4⟩ := hp
  generalize p.base = pb at hB0 qa qr ⊢
  generalize p.want = pk at hB0 qa qr ⊢
  obtain ⟨W, hE⟩ : ∃ W, ((w.alloc (.cells (l6 pb (.slice wa p.nw wc) pk (.slice ga p.ng gc) (.slice da p.nd dc) (.slice ua p.nu uc)) 30)).alloc (.cells #[.int .i64 0, .slice none 0 0, .int .i64 0, .slice none 0 0, .slice none 0 0, .slice none 0 0] 30)) = W := ⟨_, rfl⟩
  rw [hE] at hB0 qa qr
  have HC1 := hide (fun W' (h : Below w.heap.size w W') => clone_texts (.slice wa p.nw wc) p.nw p.ws W' p1 (HV.out.wa.below h) s1)
  have HC2 := hide (fun W' (h : Below w.heap.size w W') => clone_texts (.slice ga p.ng gc) p.ng p.gs W' p2 (HV.out.go.below h) s2)
  have HC3 := hide (fun W' (h : Below w.heap.size w W') => clone_wires (.slice da p.nd dc) p.nd p.dt p.dh W' p3 (HV.out.dn.below h) s3)
  have HC4 := hide (fun W' (h : Below w.heap.size w W') => clone_wires (.slice ua p.nu uc) p.nu p.ut p.uh W' p4 (HV.out.up.below h) s4)
  clear HV p1 p2 p3 p4
  go_enter Try.func42, Try.ntmps42
  go_wp2
  clear hE
  refine wp_region_held_drew (S := fun w' => Below w.heap.size w w' ∧ w'.heap[w.heap.size]? = some (.cells (l6 pb (.slice wa p.nw wc) pk (.slice ga p.ng gc) (.slice da p.nd dc) (.slice ua p.nu uc)) 30 (0, 0))) (by kernel_rfl) ⟨hB0.drew, qa⟩ (fun hHeld => ?_)
  refine th 0 (.pointer (some ⟨w.heap.size, 0, none⟩)) rfl (fun w' hSw => by (try dsimp only at hSw); obtain ⟨_, z0, z1, z2, z3, z4, z5⟩ := box6 hSw.2; go_simp) fun _ => ?_
  refine th 1 (.int .i64 pb) rfl (fun w' hSw => by (try dsimp only at hSw); obtain ⟨_, z0, z1, z2, z3, z4, z5⟩ := box6 hSw.2; go_simp) fun _ => ?_
  refine th 2 (.pointer (some ⟨w.heap.size, 1, none⟩)) rfl (fun w' hSw => by (try dsimp only at hSw); obtain ⟨_, z0, z1, z2, z3, z4, z5⟩ := box6 hSw.2; go_simp) fun _ => ?_
  refine th 3 (.slice wa p.nw wc) rfl (fun w' hSw => by (try dsimp only at hSw); obtain ⟨_, z0, z1, z2, z3, z4, z5⟩ := box6 hSw.2; go_simp) fun _ => ?_
  refine th 5 (.pointer (some ⟨w.heap.size, 2, none⟩)) rfl (fun w' hSw => by (try dsimp only at hSw); obtain ⟨_, z0, z1, z2, z3, z4, z5⟩ := box6 hSw.2; go_simp) fun _ => ?_
  refine th 6 (.int .i64 pk) rfl (fun w' hSw => by (try dsimp only at hSw); obtain ⟨_, z0, z1, z2, z3, z4, z5⟩ := box6 hSw.2; go_simp) fun _ => ?_
  refine th 7 (.pointer (some ⟨w.heap.size, 3, none⟩)) rfl (fun w' hSw => by (try dsimp only at hSw); obtain ⟨_, z0, z1, z2, z3, z4, z5⟩ := box6 hSw.2; go_simp) fun _ => ?_
  refine th 8 (.slice ga p.ng gc) rfl (fun w' hSw => by (try dsimp only at hSw); obtain ⟨_, z0, z1, z2, z3, z4, z5⟩ := box6 hSw.2; go_simp) fun _ => ?_
  refine th 10 (.pointer (some ⟨w.heap.size, 4, none⟩)) rfl (fun w' hSw => by (try dsimp only at hSw); obtain ⟨_, z0, z1, z2, z3, z4, z5⟩ := box6 hSw.2; go_simp) fun _ => ?_
  refine th 11 (.slice da p.nd dc) rfl (fun w' hSw => by (try dsimp only at hSw); obtain ⟨_, z0, z1, z2, z3, z4, z5⟩ := box6 hSw.2; go_simp) fun _ => ?_
  refine th 13 (.pointer (some ⟨w.heap.size, 5, none⟩)) rfl (fun w' hSw => by (try dsimp only at hSw); obtain ⟨_, z0, z1, z2, z3, z4, z5⟩ := box6 hSw.2; go_simp) fun _ => ?_
  refine th 14 (.slice ua p.nu uc) rfl (fun w' hSw => by (try dsimp only at hSw); obtain ⟨_, z0, z1, z2, z3, z4, z5⟩ := box6 hSw.2; go_simp) fun _ => ?_
  have qr0 : W.drew.heap[w.heap.size + 1]? = some (.cells #[.int .i64 0, .slice none 0 0, .int .i64 0, .slice none 0 0, .slice none 0 0, .slice none 0 0] 30 (0, 0)) := qr
  have hz0 : w.heap.size + 1 < W.drew.heap.size := lt_of_block qr0
  refine wpAnyH_ready (rs := [4]) (by kernel_rfl) (by simp) ?_
  refine AllReadyH.cons rfl (fun K hK => ?_) AllReadyH.nil
  go_simp
  refine (HC1.out _ hHeld.1).mono ?_
  rintro e w1 ⟨u1, rfl, r1, hb1⟩
  have qr1 := heap_bl qr0 hb1
  have hz1 : w.heap.size + 1 < w1.heap.size := lt_of_block qr1
  have hzz1 := hb1.size
  have lt1 := r1.lt
  refine hK.out _ _ ⟨hHeld.1.trans (hb1.mono hHeld.1.size), heap_bl hHeld.2 hb1⟩ (fun hHeld => ?_)
  clear hK K hb1
  try simp only [Act.put, List.getElem_toArray, List.getElem_cons_zero, List.getElem_cons_succ, List.setIfInBounds_toArray, List.set_cons_zero, List.set_cons_succ]
  refine wpAnyH_ready (rs := [9]) (by kernel_rfl) (by simp) ?_
  refine AllReadyH.cons rfl (fun K hK => ?_) AllReadyH.nil
  go_simp
  refine (HC2.out _ hHeld.1).mono ?_
  rintro e w2 ⟨u2, rfl, r2, hb2⟩
  have qr2 := heap_bl qr1 hb2
  have hz2 : w.heap.size + 1 < w2.heap.size := lt_of_block qr2
  have hzz2 := hb2.size
  have lt2 := r2.lt
  replace r1 := r1.below hb2
  refine hK.out _ _ ⟨hHeld.1.trans (hb2.mono hHeld.1.size), heap_bl hHeld.2 hb2⟩ (fun hHeld => ?_)
  clear hK K hb2
  try simp only [Act.put, List.getElem_toArray, List.getElem_cons_zero, List.getElem_cons_succ, List.setIfInBounds_toArray, List.set_cons_zero, List.set_cons_succ]
  refine wpAnyH_ready (rs := [12]) (by kernel_rfl) (by simp) ?_
  refine AllReadyH.cons rfl (fun K hK => ?_) AllReadyH.nil
  go_simp
  refine (HC3.out _ hHeld.1).mono ?_
  rintro e w3 ⟨u3, rfl, r3, hb3⟩
  have qr3 := heap_bl qr2 hb3
  have hz3 : w.heap.size + 1 < w3.heap.size := lt_of_block qr3
  have hzz3 := hb3.size
  have lt3 := r3.lt
  replace r1 := r1.below hb3
  replace r2 := r2.below hb3
  refine hK.out _ _ ⟨hHeld.1.trans (hb3.mono hHeld.1.size), heap_bl hHeld.2 hb3⟩ (fun hHeld => ?_)
  clear hK K hb3
  try simp only [Act.put, List.getElem_toArray, List.getElem_cons_zero, List.getElem_cons_succ, List.setIfInBounds_toArray, List.set_cons_zero, List.set_cons_succ]
  refine wpAnyH_ready (rs := [15]) (by kernel_rfl) (by simp) ?_
  refine AllReadyH.cons rfl (fun K hK => ?_) AllReadyH.nil
  go_simp
  refine (HC4.out _ hHeld.1).mono ?_
  rintro e w4 ⟨u4, rfl, r4, hb4⟩
  have qr4 := heap_bl qr3 hb4
  have hz4 : w.heap.size + 1 < w4.heap.size := lt_of_block qr4
  have hzz4 := hb4.size
  have lt4 := r4.lt
  replace r1 := r1.below hb4
  replace r2 := r2.below hb4
  replace r3 := r3.below hb4
  refine hK.out _ _ ⟨hHeld.1.trans (hb4.mono hHeld.1.size), heap_bl hHeld.2 hb4⟩ (fun hHeld => ?_)
  clear hK K hb4
  try simp only [Act.put, List.getElem_toArray, List.getElem_cons_zero, List.getElem_cons_succ, List.setIfInBounds_toArray, List.set_cons_zero, List.set_cons_succ]
  obtain ⟨f1, k1, e1, _⟩ := r1.form
  obtain ⟨f2, k2, e2, _⟩ := r2.form
  obtain ⟨f3, k3, e3, _⟩ := r3.form
  obtain ⟨f4, k4, e4, _⟩ := r4.form
  have LR : Lr w4 (w.heap.size + 1 + 1) u1 u2 u3 u4 p := by
    refine ⟨r1.base (by omega), r2.base (by omega), r3.base (by omega), r4.base (by omega), fun g hg => ⟨fun e => ?_, fun e => ?_, fun e => ?_⟩, fun g hg => ⟨fun e => ?_, fun e => ?_⟩, fun g hg e => ?_⟩
    · have a1 := lt1 g hg; have a2 := lt2 g e; omega
    · have a1 := lt1 g hg; have a2 := lt3 g e; omega
    · have a1 := lt1 g hg; have a2 := lt4 g e; omega
    · have a1 := lt2 g hg; have a2 := lt3 g e; omega
    · have a1 := lt2 g hg; have a2 := lt4 g e; omega
    · have a1 := lt3 g hg; have a2 := lt4 g e; omega
  clear r1 r2 r3 r4 lt1 lt2 lt3 lt4
  subst e1 e2 e3 e4
  refine th0 16 (.agg (l6 pb (.slice f1 p.nw k1) pk (.slice f2 p.ng k2) (.slice f3 p.nd k3) (.slice f4 p.nu k4))) rfl fun _ => ?_
  refine wpAnyH_ready (rs := [17]) (by kernel_rfl) (by simp) ?_
  refine AllReadyH.cons rfl (fun K hK => ?_) AllReadyH.nil
  obtain ⟨fr, y0, y1, y2, y3, y4, y5⟩ := box6 qr4
  go_simp
  have hbs : Below (w.heap.size + 1) w4 ((((((w4.setCell ⟨w.heap.size + 1, 0, none⟩ (.int .i64 pb)).setCell ⟨w.heap.size + 1, 1, none⟩ (.slice f1 p.nw k1)).setCell ⟨w.heap.size + 1, 2, none⟩ (.int .i64 pk)).setCell ⟨w.heap.size + 1, 3, none⟩ (.slice f2 p.ng k2)).setCell ⟨w.heap.size + 1, 4, none⟩ (.slice f3 p.nd k3)).setCell ⟨w.heap.size + 1, 5, none⟩ (.slice f4 p.nu k4)) := by
    have hle : w.heap.size + 1 ≤ w.heap.size + 1 := Nat.le_refl _
    iterate 6 (refine Below.setCell ?_ hle _)
    exact Below.refl _ _
  have hrow : ((((((w4.setCell ⟨w.heap.size + 1, 0, none⟩ (.int .i64 pb)).setCell ⟨w.heap.size + 1, 1, none⟩ (.slice f1 p.nw k1)).setCell ⟨w.heap.size + 1, 2, none⟩ (.int .i64 pk)).setCell ⟨w.heap.size + 1, 3, none⟩ (.slice f2 p.ng k2)).setCell ⟨w.heap.size + 1, 4, none⟩ (.slice f3 p.nd k3)).setCell ⟨w.heap.size + 1, 5, none⟩ (.slice f4 p.nu k4)).heap[w.heap.size + 1]? = some (.cells (l6 pb (.slice f1 p.nw k1) pk (.slice f2 p.ng k2) (.slice f3 p.nd k3) (.slice f4 p.nu k4)) 30 (0, 0)) := by
    rw [heap_setCell_same _ _ 5 _ _ _ (heap_setCell_same _ _ 4 _ _ _ (heap_setCell_same _ _ 3 _ _ _ (heap_setCell_same _ _ 2 _ _ _ (heap_setCell_same _ _ 1 _ _ _ (heap_setCell_same _ _ 0 _ _ _ qr4)))))]; rfl
  have hLR : Lr ((((((w4.setCell ⟨w.heap.size + 1, 0, none⟩ (.int .i64 pb)).setCell ⟨w.heap.size + 1, 1, none⟩ (.slice f1 p.nw k1)).setCell ⟨w.heap.size + 1, 2, none⟩ (.int .i64 pk)).setCell ⟨w.heap.size + 1, 3, none⟩ (.slice f2 p.ng k2)).setCell ⟨w.heap.size + 1, 4, none⟩ (.slice f3 p.nd k3)).setCell ⟨w.heap.size + 1, 5, none⟩ (.slice f4 p.nu k4)) w.heap.size (.slice f1 p.nw k1) (.slice f2 p.ng k2) (.slice f3 p.nd k3) (.slice f4 p.nu k4) p := by
    refine Lr.down ?_ (Nat.le_succ_of_le (Nat.le_succ _))
    iterate 6 (refine Lr.set ?_ (Nat.lt_succ_self _))
    exact LR
  have hBB : Below w.heap.size w ((((((w4.setCell ⟨w.heap.size + 1, 0, none⟩ (.int .i64 pb)).setCell ⟨w.heap.size + 1, 1, none⟩ (.slice f1 p.nw k1)).setCell ⟨w.heap.size + 1, 2, none⟩ (.int .i64 pk)).setCell ⟨w.heap.size + 1, 3, none⟩ (.slice f2 p.ng k2)).setCell ⟨w.heap.size + 1, 4, none⟩ (.slice f3 p.nd k3)).setCell ⟨w.heap.size + 1, 5, none⟩ (.slice f4 p.nu k4)) := hHeld.1.trans (hbs.mono (Nat.le_succ _))
  have hq0 : ((((((w4.setCell ⟨w.heap.size + 1, 0, none⟩ (.int .i64 pb)).setCell ⟨w.heap.size + 1, 1, none⟩ (.slice f1 p.nw k1)).setCell ⟨w.heap.size + 1, 2, none⟩ (.int .i64 pk)).setCell ⟨w.heap.size + 1, 3, none⟩ (.slice f2 p.ng k2)).setCell ⟨w.heap.size + 1, 4, none⟩ (.slice f3 p.nd k3)).setCell ⟨w.heap.size + 1, 5, none⟩ (.slice f4 p.nu k4)).heap[w.heap.size]? = some (.cells (l6 pb (.slice wa p.nw wc) pk (.slice ga p.ng gc) (.slice da p.nd dc) (.slice ua p.nu uc)) 30 (0, 0)) := (hbs.block _ (Nat.lt_succ_self _)).trans hHeld.2
  refine hK.out _ _ ⟨hBB, hq0⟩ (fun hHeld => ?_)
  clear hK K hHeld fr y0 y1 y2 y3 y4 y5 LR qr0 qr1 qr2 qr3 qr4 hz0 hz1 hz2 hz3 hz4 hzz1 hzz2 hzz3 hzz4 hq0 hbs HC1 HC2 HC3 HC4 qr qa hB0
  try simp only [Act.put, List.getElem_toArray, List.getElem_cons_zero, List.getElem_cons_succ, List.setIfInBounds_toArray, List.set_cons_zero, List.set_cons_succ]
  refine wpAnyH_done (by kernel_rfl) ?_ _
  obtain ⟨_, q0, q1, q2, q3, q4, q5⟩ := box6 hrow
  have HF := hide (And.intro hLR hBB)
  clear hrow hLR hBB
  generalize (World.setCell _ _ _) = Y at q0 q1 q2 q3 q4 q5 HF ⊢
  go_wp2
  exact bodyPost_ret (v := .agg (l6 pb (.slice f1 p.nw k1) pk (.slice f2 p.ng k2) (.slice f3 p.nd k3) (.slice f4 p.nu k4))) (by simp [results, Try.results42, go_sem, q0, q1, q2, q3, q4, q5, l6]) rfl ⟨_, _, _, _, rfl, HF.out.1, HF.out.2⟩

end Go.Proofs.Ytnkocikbapbbmaa
