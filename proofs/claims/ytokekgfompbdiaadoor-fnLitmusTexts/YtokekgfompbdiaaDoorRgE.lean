/- FnLitmusTexts's walk (written by mkRgE.py) -/
import Derived.Test.YtokekgfompbdiaaDoorRgD
import Derived.Deep.RegionHeld3
namespace Go.Proofs.YtokekgfompbdiaaDoor
open Go.RowKit
set_option linter.unusedVariables false
set_option linter.unusedSimpArgs false

/-- what the walk keeps of the world: the table, MaxLen's cell, the code -/
def Kt (a0 : Option Addr) (len0 : Nat) (w : World) : Prop := Pow w ∧ Mx w ∧ Bt w a0 len0
theorem Kt.below {a0 : Option Addr} {len0 : Nat} {w w' : World} (h : Kt a0 len0 w) (hb : Below w.heap.size w w') : Kt a0 len0 w' := by
  obtain ⟨h1, h2, h5⟩ := h
  refine ⟨h1.below hb, h2.below hb, fun h0 => ?_⟩
  obtain ⟨b, off, e, hc⟩ := h5 h0
  exact ⟨b, off, e, fun j hj => by obtain ⟨c, k1, k2, k3⟩ := hc j hj; exact ⟨c, k1, k2, keepc hb k3⟩⟩
/-- a test comes back from its text -/
theorem rl_back (ts : List (List Ac)) : rlI (tsL ts) = if litT ts = true then some ts else none := by
  cases h : litT ts with
  | true => rw [if_pos rfl]; exact rl_some.2 ⟨h, by rw [tsL_eq, h]; rfl⟩
  | false =>
    rw [if_neg (by decide), tsL_eq, h]
    cases h2 : rlI (if false = true then ltL ts else []) with
    | none => rfl
    | some tt =>
      have hq := rl_some.1 h2
      exact absurd hq.2 (lt_ne (rt_of hq.1).1.1)

set_option maxRecDepth 20000 in
set_option maxHeartbeats 8000000 in
theorem walk (a0 : Option Addr) (len0 cap0 : Nat) (w : World) (hk : Kt a0 len0 w) :
    Calls Tryd.prog 3 #[.slice a0 len0 cap0] w fun e w' => e = .returned (.bool true) ∧ Below w.heap.size w w' := by
  by_cases hbig : (1048576 : Int) < (len0 : Int)
  · go_enter Tryd.func3, Tryd.ntmps3
    go_wp2
    go_ret
    exact ⟨rfl, Below.refl _ _⟩
  have hb : len0 ≤ 1048576 := by omega
  go_enter Tryd.func3, Tryd.ntmps3
  go_wp2_with (first | (go_at_call 4; go_in) | fail)
  refine (drawLitText_any a0 len0 cap0 _ hk.2.2 hb).mono ?_
  rintro e w1 ⟨v, ts, vs, rfl, ho1, hb1, ht12, ht3⟩
  obtain ⟨va, vc, ev⟩ : ∃ a c, v = .slice a ts.length c := by obtain ⟨a, c, e, _⟩ := ho1.sa; exact ⟨a, c, e⟩
  subst ev
  have HX6 : Hid (∀ c, c < ts.length → Lf ts c ≤ 1048576) := hide (fun c hc => by
    have : ts.getD c [] ∈ ts := by simp [List.getElem?_eq_getElem hc]
    have := ht3 _ this
    unfold Lf
    omega)
  have HRB := hide (rl_back ts)
  have HSL := hide (tsL_len ts)
  have HTS : Hid (tsL ts = tsT ts.length (Lf ts) (Ff ts)) := hide rfl
  have HTL : Hid (litT ts = litB ts.length (Lf ts) (Ff ts)) := hide rfl
  obtain ⟨n, hn⟩ : ∃ n, ts.length = n := ⟨_, rfl⟩
  have HN := hide hn
  have hA1 : Below w1.heap.size w1 (w1.alloc (.cells #[.slice va ts.length vc] 26)) := (Below.refl _ _).alloc (Nat.le_refl _) _
  have q1 : (w1.alloc (.cells #[.slice va ts.length vc] 26)).heap[w1.heap.size]? = some (.cells #[.slice va ts.length vc] 26 (0, 0)) := heap_alloc_new _ _
  have HO1 := hide (ho1.below hA1).sa
  have HB1 := hide (hb1.trans (hA1.mono hb1.size))
  have HK1 := hide ((hk.below hb1).below hA1)
  rw [hn] at q1 HO1 HB1 HK1 HX6 HTS HTL ht12 ⊢
  obtain ⟨W1, hE1⟩ : ∃ W1, w1.alloc (.cells #[.slice va n vc] 26) = W1 := ⟨_, rfl⟩
  rw [hE1] at q1 HO1 HB1 HK1
  have c1 := (cell_of_row _ _ 0 _ _ _ q1).trans rfl
  clear ho1 hb1 hA1 hk hbig hn ht3
  go_wp2_with fail
  refine (implText_any _ n (Lf ts) (Ff ts) _ HO1.out HK1.out.1).mono ?_
  rintro e w2 ⟨rfl, hb2⟩
  have q2 := heap_bl q1 hb2
  have HO2 := hide (HO1.out.below hb2)
  have HB2 := hide (HB1.out.trans (hb2.mono HB1.out.size))
  have HK2 := hide (HK1.out.below hb2)
  rw [← HTS.out]
  clear hb2 hE1 q1 HO1 HB1 HK1 c1
  have HI := hide (fun W h => implReadLit_any (tsL ts) W h (by have := HSL.out; omega))
  rw [HRB.out] at HI
  obtain ⟨ok, hok⟩ : ∃ ok, litT ts = ok := ⟨_, rfl⟩
  have HOKE := hide hok
  rw [hok] at HI
  clear hok
  go_wp2_with fail
  refine (HI.out _ HK2.out.2.1).mono ?_
  intro e w3 hp3
  obtain ⟨v3, vs3, rfl, ho3, hb3⟩ := rl_all hp3
  have q3 := heap_bl q2 hb3
  have HO3 := hide (HO2.out.below hb3)
  have HB3' := hide (HB2.out.trans (hb3.mono HB2.out.size))
  have HK3' := hide (HK2.out.below hb3)
  clear hb3 hp3 HO2 HB2 HK2 q2 HI
  have HSPE : Hid (∀ W, Sa W (.slice va n vc) n (Lf ts) (Ff ts) → Calls Tryd.prog 8 #[.agg #[.slice va n vc]] W fun e w' => e = .returned (.string (bstr (tsL ts))) ∧ Below W.heap.size W w') := hide (fun W h => by rw [HTS.out]; exact specText_any _ n (Lf ts) (Ff ts) W h (by omega) HX6.out)
  have HOKF : Hid (∀ W, Sa W (.slice va n vc) n (Lf ts) (Ff ts) → Calls Tryd.prog 9 #[.agg #[.slice va n vc]] W fun e w' => e = .returned (.bool ok) ∧ Below W.heap.size W w') := hide (fun W h => by rw [← HOKE.out, HTL.out]; exact implLitmusOk_any _ n (Lf ts) (Ff ts) W h)
  have HSOF : Hid (∀ W, Sa W (.slice va n vc) n (Lf ts) (Ff ts) → Calls Tryd.prog 10 #[.agg #[.slice va n vc]] W fun e w' => e = .returned (.bool ok) ∧ Below W.heap.size W w') := hide (fun W h => by rw [← HOKE.out, HTL.out]; exact specLitmusOk_any _ n (Lf ts) (Ff ts) W h (by omega) HX6.out)
  have HIMF : Hid (∀ W u, Sa W u n (Lf ts) (Ff ts) → Pow W → Calls Tryd.prog 6 #[.agg #[u]] W fun e w' => e = .returned (.string (bstr (tsL ts))) ∧ Below W.heap.size W w') := hide (fun W u h hp => by rw [HTS.out]; exact implText_any u n (Lf ts) (Ff ts) W h hp)
  generalize bstr (tsL ts) = bs at HSPE HIMF ⊢
  cases ok with
  | true =>
    obtain ⟨a3, c3, ev3⟩ : ∃ a c, v3 = .slice a ts.length c := by obtain ⟨a, c, e, _⟩ := ho3.sa; exact ⟨a, c, e⟩
    subst ev3
    have hs3 : Sa w3 (.slice a3 ts.length c3) ts.length (Lf ts) (Ff ts) := ho3.sa
    rw [HN.out] at hs3 ⊢
    have hA3 : Below w3.heap.size w3 (w3.alloc (.cells #[.slice a3 n c3] 26)) := (Below.refl _ _).alloc (Nat.le_refl _) _
    have qm : (w3.alloc (.cells #[.slice a3 n c3] 26)).heap[w3.heap.size]? = some (.cells #[.slice a3 n c3] 26 (0, 0)) := heap_alloc_new _ _
    have ql := heap_bl q3 hA3
    have HOW := hide (HO3.out.below hA3)
    have HOM := hide (hs3.below hA3)
    have HB3 := hide (HB3'.out.trans (hA3.mono HB3'.out.size))
    have HK3 := hide (HK3'.out.below hA3)
    obtain ⟨W3, hE3⟩ : ∃ W3, w3.alloc (.cells #[.slice a3 n c3] 26) = W3 := ⟨_, rfl⟩
    rw [hE3] at qm ql HOW HB3 HK3 HOM
    have cl := (cell_of_row _ _ 0 _ _ _ ql).trans rfl
    have cm := (cell_of_row _ _ 0 _ _ _ qm).trans rfl
    have HSP := hide (fun W (h : Below W3.heap.size W3 W) => HSPE.out W (HOW.out.below h))
    have HOK := hide (fun W (h : Below W3.heap.size W3 W) => HOKF.out W (HOW.out.below h))
    have HSO := hide (fun W (h : Below W3.heap.size W3 W) => HSOF.out W (HOW.out.below h))
    have HIM := hide (fun W (h : Below W3.heap.size W3 W) => HIMF.out W _ (HOM.out.below h) (HK3.out.below h).1)
    clear hA3 q3 HO3 HB3' HK3' ho3 HSPE HOKF HSOF HIMF HOW qm ql HRB HTS HTL HX6 HOKE HOM hs3
    go_wp2
    clear hE3
    refine wp_region_held_drew (S := fun w' => Below W3.heap.size W3 w') (by kernel_rfl) ((Below.refl _ _).drew) (fun hHeld => ?_)
    refine wpAnyH_take (i := 0) (v := .string bs) rfl (by kernel_rfl) (by kernel_rfl) (by kernel_rfl) (fun _ _ _ h => h) (Or.inl ⟨by rfl, fun w' hSw => ?_⟩) (by assumption) ?_
    · (try dsimp only at hSw); skip; go_simp
    try simp only [Act.put, List.getElem_toArray, List.getElem_cons_zero, List.getElem_cons_succ, List.setIfInBounds_toArray, List.set_cons_zero, List.set_cons_succ]
    refine wpAnyH_take (i := 1) (v := .agg #[.slice va n vc]) rfl (by kernel_rfl) (by kernel_rfl) (by kernel_rfl) (fun _ _ _ h => h) (Or.inl ⟨by rfl, fun w' hSw => ?_⟩) (by assumption) ?_
    · (try dsimp only at hSw); have zl := keepc hSw cl; go_simp
    try simp only [Act.put, List.getElem_toArray, List.getElem_cons_zero, List.getElem_cons_succ, List.setIfInBounds_toArray, List.set_cons_zero, List.set_cons_succ]
    refine wpAnyH_ready (rs := [2]) (by kernel_rfl) (by simp) ?_
    refine AllReadyH.cons rfl (fun K hK => ?_) AllReadyH.nil
    go_simp
    refine (HSP.out _ hHeld).mono ?_
    rintro e wc ⟨rfl, hbc⟩
    refine hK.out _ _ (hHeld.trans (hbc.mono hHeld.size)) (fun hHeld => ?_)
    clear hK K hbc
    try simp only [Act.put, List.getElem_toArray, List.getElem_cons_zero, List.getElem_cons_succ, List.setIfInBounds_toArray, List.set_cons_zero, List.set_cons_succ]
    refine wpAnyH_take (i := 3) (v := .bool false) rfl (by kernel_rfl) (by kernel_rfl) (by kernel_rfl) (fun _ _ _ h => h) (Or.inl ⟨by rfl, fun w' hSw => ?_⟩) (by assumption) ?_
    · (try dsimp only at hSw); skip; go_simp
    try simp only [Act.put, List.getElem_toArray, List.getElem_cons_zero, List.getElem_cons_succ, List.setIfInBounds_toArray, List.set_cons_zero, List.set_cons_succ]
    refine wpAnyH_take (i := 4) (v := .bool false) rfl (by kernel_rfl) (by kernel_rfl) (by kernel_rfl) (fun _ _ _ h => h) (Or.inl ⟨by rfl, fun w' hSw => ?_⟩) (by assumption) ?_
    · (try dsimp only at hSw); skip; go_simp
    try simp only [Act.put, List.getElem_toArray, List.getElem_cons_zero, List.getElem_cons_succ, List.setIfInBounds_toArray, List.set_cons_zero, List.set_cons_succ]
    refine wpAnyH_take (i := 5) (v := .bool true) rfl (by kernel_rfl) (by kernel_rfl) (by kernel_rfl) (fun _ _ _ h => h) (Or.inl ⟨by rfl, fun w' hSw => ?_⟩) (by assumption) ?_
    · (try dsimp only at hSw); skip; go_simp
    try simp only [Act.put, List.getElem_toArray, List.getElem_cons_zero, List.getElem_cons_succ, List.setIfInBounds_toArray, List.set_cons_zero, List.set_cons_succ]
    refine wpAnyH_take (i := 6) (v := .agg #[.slice va n vc]) rfl (by kernel_rfl) (by kernel_rfl) (by kernel_rfl) (fun _ _ _ h => h) (Or.inl ⟨by rfl, fun w' hSw => ?_⟩) (by assumption) ?_
    · (try dsimp only at hSw); have zl := keepc hSw cl; go_simp
    try simp only [Act.put, List.getElem_toArray, List.getElem_cons_zero, List.getElem_cons_succ, List.setIfInBounds_toArray, List.set_cons_zero, List.set_cons_succ]
    refine wpAnyH_ready (rs := [7]) (by kernel_rfl) (by simp) ?_
    refine AllReadyH.cons rfl (fun K hK => ?_) AllReadyH.nil
    go_simp
    refine (HOK.out _ hHeld).mono ?_
    rintro e wc ⟨rfl, hbc⟩
    refine hK.out _ _ (hHeld.trans (hbc.mono hHeld.size)) (fun hHeld => ?_)
    clear hK K hbc
    try simp only [Act.put, List.getElem_toArray, List.getElem_cons_zero, List.getElem_cons_succ, List.setIfInBounds_toArray, List.set_cons_zero, List.set_cons_succ]
    refine wpAnyH_take (i := 8) (v := .bool false) rfl (by kernel_rfl) (by kernel_rfl) (by kernel_rfl) (fun _ _ _ h => h) (Or.inl ⟨by rfl, fun w' hSw => ?_⟩) (by assumption) ?_
    · (try dsimp only at hSw); skip; go_simp
    try simp only [Act.put, List.getElem_toArray, List.getElem_cons_zero, List.getElem_cons_succ, List.setIfInBounds_toArray, List.set_cons_zero, List.set_cons_succ]
    refine wpAnyH_take (i := 9) (v := .bool false) rfl (by kernel_rfl) (by kernel_rfl) (by kernel_rfl) (fun _ _ _ h => h) (Or.inl ⟨by rfl, fun w' hSw => ?_⟩) (by assumption) ?_
    · (try dsimp only at hSw); skip; go_simp
    try simp only [Act.put, List.getElem_toArray, List.getElem_cons_zero, List.getElem_cons_succ, List.setIfInBounds_toArray, List.set_cons_zero, List.set_cons_succ]
    refine wpAnyH_take (i := 10) (v := .bool false) rfl (by kernel_rfl) (by kernel_rfl) (by kernel_rfl) (fun _ _ _ h => h) (Or.inl ⟨by rfl, fun w' hSw => ?_⟩) (by assumption) ?_
    · (try dsimp only at hSw); skip; go_simp
    try simp only [Act.put, List.getElem_toArray, List.getElem_cons_zero, List.getElem_cons_succ, List.setIfInBounds_toArray, List.set_cons_zero, List.set_cons_succ]
    refine wpAnyH_take (i := 11) (v := .agg #[.slice va n vc]) rfl (by kernel_rfl) (by kernel_rfl) (by kernel_rfl) (fun _ _ _ h => h) (Or.inl ⟨by rfl, fun w' hSw => ?_⟩) (by assumption) ?_
    · (try dsimp only at hSw); have zl := keepc hSw cl; go_simp
    try simp only [Act.put, List.getElem_toArray, List.getElem_cons_zero, List.getElem_cons_succ, List.setIfInBounds_toArray, List.set_cons_zero, List.set_cons_succ]
    refine wpAnyH_take (i := 13) (v := .agg #[.slice va n vc]) rfl (by kernel_rfl) (by kernel_rfl) (by kernel_rfl) (fun _ _ _ h => h) (Or.inl ⟨by rfl, fun w' hSw => ?_⟩) (by assumption) ?_
    · (try dsimp only at hSw); have zl := keepc hSw cl; go_simp
    try simp only [Act.put, List.getElem_toArray, List.getElem_cons_zero, List.getElem_cons_succ, List.setIfInBounds_toArray, List.set_cons_zero, List.set_cons_succ]
    refine wpAnyH_ready (rs := [12]) (by kernel_rfl) (by simp) ?_
    refine AllReadyH.cons rfl (fun K hK => ?_) AllReadyH.nil
    go_simp
    refine (HOK.out _ hHeld).mono ?_
    rintro e wc ⟨rfl, hbc⟩
    refine hK.out _ _ (hHeld.trans (hbc.mono hHeld.size)) (fun hHeld => ?_)
    clear hK K hbc
    try simp only [Act.put, List.getElem_toArray, List.getElem_cons_zero, List.getElem_cons_succ, List.setIfInBounds_toArray, List.set_cons_zero, List.set_cons_succ]
    refine wpAnyH_ready (rs := [14]) (by kernel_rfl) (by simp) ?_
    refine AllReadyH.cons rfl (fun K hK => ?_) AllReadyH.nil
    go_simp
    refine (HSO.out _ hHeld).mono ?_
    rintro e wc ⟨rfl, hbc⟩
    refine hK.out _ _ (hHeld.trans (hbc.mono hHeld.size)) (fun hHeld => ?_)
    clear hK K hbc
    try simp only [Act.put, List.getElem_toArray, List.getElem_cons_zero, List.getElem_cons_succ, List.setIfInBounds_toArray, List.set_cons_zero, List.set_cons_succ]
    refine wpAnyH_take (i := 15) (v := .bool false) rfl (by kernel_rfl) (by kernel_rfl) (by kernel_rfl) (fun _ _ _ h => h) (Or.inl ⟨by rfl, fun w' hSw => ?_⟩) (by assumption) ?_
    · (try dsimp only at hSw); skip; go_simp
    try simp only [Act.put, List.getElem_toArray, List.getElem_cons_zero, List.getElem_cons_succ, List.setIfInBounds_toArray, List.set_cons_zero, List.set_cons_succ]
    refine wpAnyH_take (i := 16) (v := .bool false) rfl (by kernel_rfl) (by kernel_rfl) (by kernel_rfl) (fun _ _ _ h => h) (Or.inl ⟨by rfl, fun w' hSw => ?_⟩) (by assumption) ?_
    · (try dsimp only at hSw); skip; go_simp
    try simp only [Act.put, List.getElem_toArray, List.getElem_cons_zero, List.getElem_cons_succ, List.setIfInBounds_toArray, List.set_cons_zero, List.set_cons_succ]
    refine wpAnyH_take (i := 17) (v := .bool false) rfl (by kernel_rfl) (by kernel_rfl) (by kernel_rfl) (fun _ _ _ h => h) (Or.inl ⟨by rfl, fun w' hSw => ?_⟩) (by assumption) ?_
    · (try dsimp only at hSw); skip; go_simp
    try simp only [Act.put, List.getElem_toArray, List.getElem_cons_zero, List.getElem_cons_succ, List.setIfInBounds_toArray, List.set_cons_zero, List.set_cons_succ]
    refine wpAnyH_take (i := 18) (v := .bool true) rfl (by kernel_rfl) (by kernel_rfl) (by kernel_rfl) (fun _ _ _ h => h) (Or.inl ⟨by rfl, fun w' hSw => ?_⟩) (by assumption) ?_
    · (try dsimp only at hSw); skip; go_simp
    try simp only [Act.put, List.getElem_toArray, List.getElem_cons_zero, List.getElem_cons_succ, List.setIfInBounds_toArray, List.set_cons_zero, List.set_cons_succ]
    refine wpAnyH_take (i := 19) (v := .bool true) rfl (by kernel_rfl) (by kernel_rfl) (by kernel_rfl) (fun _ _ _ h => h) (Or.inl ⟨by rfl, fun w' hSw => ?_⟩) (by assumption) ?_
    · (try dsimp only at hSw); skip; go_simp
    try simp only [Act.put, List.getElem_toArray, List.getElem_cons_zero, List.getElem_cons_succ, List.setIfInBounds_toArray, List.set_cons_zero, List.set_cons_succ]
    refine wpAnyH_take (i := 20) (v := .agg #[.slice a3 n c3]) rfl (by kernel_rfl) (by kernel_rfl) (by kernel_rfl) (fun _ _ _ h => h) (Or.inl ⟨by rfl, fun w' hSw => ?_⟩) (by assumption) ?_
    · (try dsimp only at hSw); have zm := keepc hSw cm; go_simp
    try simp only [Act.put, List.getElem_toArray, List.getElem_cons_zero, List.getElem_cons_succ, List.setIfInBounds_toArray, List.set_cons_zero, List.set_cons_succ]
    refine wpAnyH_take (i := 22) (v := .string bs) rfl (by kernel_rfl) (by kernel_rfl) (by kernel_rfl) (fun _ _ _ h => h) (Or.inl ⟨by rfl, fun w' hSw => ?_⟩) (by assumption) ?_
    · (try dsimp only at hSw); skip; go_simp
    try simp only [Act.put, List.getElem_toArray, List.getElem_cons_zero, List.getElem_cons_succ, List.setIfInBounds_toArray, List.set_cons_zero, List.set_cons_succ]
    refine wpAnyH_ready (rs := [21]) (by kernel_rfl) (by simp) ?_
    refine AllReadyH.cons rfl (fun K hK => ?_) AllReadyH.nil
    go_simp
    refine (HIM.out _ hHeld).mono ?_
    rintro e wc ⟨rfl, hbc⟩
    refine hK.out _ _ (hHeld.trans (hbc.mono hHeld.size)) (fun hHeld => ?_)
    clear hK K hbc
    try simp only [Act.put, List.getElem_toArray, List.getElem_cons_zero, List.getElem_cons_succ, List.setIfInBounds_toArray, List.set_cons_zero, List.set_cons_succ]
    refine wpAnyH_take (i := 23) (v := .bool false) rfl (by kernel_rfl) (by kernel_rfl) (by kernel_rfl) (fun _ _ _ h => h) (Or.inl ⟨by rfl, fun w' hSw => ?_⟩) (by assumption) ?_
    · (try dsimp only at hSw); skip; go_simp
    try simp only [Act.put, List.getElem_toArray, List.getElem_cons_zero, List.getElem_cons_succ, List.setIfInBounds_toArray, List.set_cons_zero, List.set_cons_succ]
    refine wpAnyH_take (i := 24) (v := .bool false) rfl (by kernel_rfl) (by kernel_rfl) (by kernel_rfl) (fun _ _ _ h => h) (Or.inl ⟨by rfl, fun w' hSw => ?_⟩) (by assumption) ?_
    · (try dsimp only at hSw); skip; go_simp
    try simp only [Act.put, List.getElem_toArray, List.getElem_cons_zero, List.getElem_cons_succ, List.setIfInBounds_toArray, List.set_cons_zero, List.set_cons_succ]
    refine wpAnyH_take (i := 25) (v := .bool false) rfl (by kernel_rfl) (by kernel_rfl) (by kernel_rfl) (fun _ _ _ h => h) (Or.inl ⟨by rfl, fun w' hSw => ?_⟩) (by assumption) ?_
    · (try dsimp only at hSw); skip; go_simp
    try simp only [Act.put, List.getElem_toArray, List.getElem_cons_zero, List.getElem_cons_succ, List.setIfInBounds_toArray, List.set_cons_zero, List.set_cons_succ]
    refine wpAnyH_done (by kernel_rfl) ?_ _
    have HB6 := hide (HB3.out.trans (hHeld.mono HB3.out.size))
    have HK6 := hide (HK3.out.below hHeld)
    clear hHeld cl cm HSP HOK HSO HIM HB3 HK3
    obtain ⟨W6, hW6⟩ : ∃ W6, W6 = wc := ⟨_, rfl⟩
    rw [← hW6] at HB6 HK6
    rw [← hW6]
    clear hW6
    go_wp2_with fail
    refine (drawReadLit_any a0 len0 cap0 _ HK6.out.2.2 hb).mono ?_
    rintro e w7 ⟨u, rfl, hu, hb7⟩
    have HB7 := hide (HB6.out.trans (hb7.mono HB6.out.size))
    have HK7 := hide (HK6.out.below hb7)
    clear hb7 HB6 HK6
    have HI7 := hide (fun W h => implReadLit_any u W h (by omega))
    have HS7 := hide (fun W h => specReadLit_any u W h (by omega))
    rw [← rl_same u] at HS7
    have HRS := hide (fun ts' => rl_some (s := u) (ts := ts'))
    generalize rlI u = r7 at HI7 HS7 HRS
    go_wp2_with fail
    refine (HI7.out _ HK7.out.2.1).mono ?_
    intro e w8 hp8
    obtain ⟨v8, vs8, rfl, ho8, hb8⟩ := rl_all hp8
    obtain ⟨a8, c8, ev8⟩ : ∃ a c, v8 = .slice a (r7.getD []).length c := by obtain ⟨a, c, e, _⟩ := ho8.sa; exact ⟨a, c, e⟩
    subst ev8
    obtain ⟨T8, hT8⟩ : ∃ T, r7.getD [] = T := ⟨_, rfl⟩
    rw [hT8] at ho8 ⊢
    have HT8 := hide hT8
    have hA8 : Below w8.heap.size w8 (w8.alloc (.cells #[.slice a8 T8.length c8] 26)) := (Below.refl _ _).alloc (Nat.le_refl _) _
    have q8 : (w8.alloc (.cells #[.slice a8 T8.length c8] 26)).heap[w8.heap.size]? = some (.cells #[.slice a8 T8.length c8] 26 (0, 0)) := heap_alloc_new _ _
    have hb8a := hb8.trans (hA8.mono hb8.size)
    have HB8 := hide (HB7.out.trans (hb8a.mono HB7.out.size))
    have HK8 := hide (HK7.out.below hb8a)
    have HO8 := hide (ho8.below hA8).sa
    obtain ⟨W8, hE8⟩ : ∃ W8, w8.alloc (.cells #[.slice a8 T8.length c8] 26) = W8 := ⟨_, rfl⟩
    rw [hE8] at q8 HB8 HK8 HO8
    clear hp8 ho8 hb8 hA8 hb8a HB7 HK7 HI7 hT8
    go_wp2_with fail
    refine (HS7.out _ (Nat.lt_of_le_of_lt (Nat.zero_le _) HK8.out.2.1.lt)).mono ?_
    intro e w9 hp9
    obtain ⟨v9, vs9, rfl, ho9, hb9⟩ := rl_all hp9
    obtain ⟨a9, c9, ev9⟩ : ∃ a c, v9 = .slice a (r7.getD []).length c := by obtain ⟨a, c, e, _⟩ := ho9.sa; exact ⟨a, c, e⟩
    subst ev9
    have q9 := heap_bl q8 hb9
    have hA9 : ∀ o, Below w9.heap.size w9 (w9.alloc o) := fun o => (Below.refl _ _).alloc (Nat.le_refl _) _
    have HB9 : Hid (∀ o, Below w.heap.size w (w9.alloc o)) := hide (fun o => by
      have h := HB8.out.trans (hb9.mono HB8.out.size)
      exact h.trans ((hA9 o).mono h.size))
    have HK9 : Hid (∀ o, Kt a0 len0 (w9.alloc o)) := hide (fun o => (HK8.out.below hb9).below (hA9 o))
    have HO9 : Hid (∀ o, Sa (w9.alloc o) (.slice a8 T8.length c8) T8.length (Lf T8) (Ff T8)) := hide (fun o => (HO8.out.below hb9).below (hA9 o))
    have cx : ∀ o, (w9.alloc o).cell? ⟨w8.heap.size, 0, none⟩ = some (.slice a8 T8.length c8) := fun o => keepc (hA9 o) ((cell_of_row _ _ 0 _ _ _ q9).trans rfl)
    clear hE8 q8 q9 hp9 ho9 hb9 HB8 HK8 HO8 HS7 hA9
    cases hr7 : r7 with
    | none =>
      simp only [Option.isSome]
      clear hr7
      go_wp2
      go_ret
      exact ⟨rfl, HB9.out _⟩
    | some tt =>
      have hts : tsT T8.length (Lf T8) (Ff T8) = u := by
        have hq := (HRS.out tt).1 hr7
        have e8 : T8 = tt := by rw [← HT8.out, hr7]; rfl
        rw [e8]
        show tsL tt = u
        rw [tsL_eq, if_pos hq.1, hq.2]
      have HIT := hide (fun o => implText_any (.slice a8 T8.length c8) T8.length (Lf T8) (Ff T8) (w9.alloc o) (HO9.out o) (HK9.out o).1)
      rw [hts] at HIT
      simp only [Option.isSome]
      clear hr7 hts HRS
      go_wp2_with fail
      refine (HIT.out _).mono ?_
      rintro e w10 ⟨rfl, hb10⟩
      have HBE := hide ((HB9.out _).trans (hb10.mono (HB9.out _).size))
      clear hb10 HIT cx
      go_wp2
      go_ret
      exact ⟨rfl, HBE.out⟩
  | false =>
    obtain ⟨a3, c3, ev3⟩ : ∃ a c, v3 = .slice a 0 c := by obtain ⟨a, c, e, _⟩ := ho3.sa; exact ⟨a, c, e⟩
    subst ev3
    have hA3 : Below w3.heap.size w3 (w3.alloc (.cells #[.slice a3 0 c3] 26)) := (Below.refl _ _).alloc (Nat.le_refl _) _
    have qm : (w3.alloc (.cells #[.slice a3 0 c3] 26)).heap[w3.heap.size]? = some (.cells #[.slice a3 0 c3] 26 (0, 0)) := heap_alloc_new _ _
    have ql := heap_bl q3 hA3
    have HOW := hide (HO3.out.below hA3)
    have HB3 := hide (HB3'.out.trans (hA3.mono HB3'.out.size))
    have HK3 := hide (HK3'.out.below hA3)
    obtain ⟨W3, hE3⟩ : ∃ W3, w3.alloc (.cells #[.slice a3 0 c3] 26) = W3 := ⟨_, rfl⟩
    rw [hE3] at qm ql HOW HB3 HK3
    have cl := (cell_of_row _ _ 0 _ _ _ ql).trans rfl
    have cm := (cell_of_row _ _ 0 _ _ _ qm).trans rfl
    have HSP := hide (fun W (h : Below W3.heap.size W3 W) => HSPE.out W (HOW.out.below h))
    have HOK := hide (fun W (h : Below W3.heap.size W3 W) => HOKF.out W (HOW.out.below h))
    have HSO := hide (fun W (h : Below W3.heap.size W3 W) => HSOF.out W (HOW.out.below h))
    have HIM := hide (fun W (h : Below W3.heap.size W3 W) => (trivial : True))
    clear hA3 q3 HO3 HB3' HK3' ho3 HSPE HOKF HSOF HIMF HOW qm ql HRB HTS HTL HX6 HOKE
    go_wp2
    clear hE3
    refine wp_region_held_drew (S := fun w' => Below W3.heap.size W3 w') (by kernel_rfl) ((Below.refl _ _).drew) (fun hHeld => ?_)
    refine wpAnyH_take (i := 0) (v := .string bs) rfl (by kernel_rfl) (by kernel_rfl) (by kernel_rfl) (fun _ _ _ h => h) (Or.inl ⟨by rfl, fun w' hSw => ?_⟩) (by assumption) ?_
    · (try dsimp only at hSw); skip; go_simp
    try simp only [Act.put, List.getElem_toArray, List.getElem_cons_zero, List.getElem_cons_succ, List.setIfInBounds_toArray, List.set_cons_zero, List.set_cons_succ]
    refine wpAnyH_take (i := 1) (v := .agg #[.slice va n vc]) rfl (by kernel_rfl) (by kernel_rfl) (by kernel_rfl) (fun _ _ _ h => h) (Or.inl ⟨by rfl, fun w' hSw => ?_⟩) (by assumption) ?_
    · (try dsimp only at hSw); have zl := keepc hSw cl; go_simp
    try simp only [Act.put, List.getElem_toArray, List.getElem_cons_zero, List.getElem_cons_succ, List.setIfInBounds_toArray, List.set_cons_zero, List.set_cons_succ]
    refine wpAnyH_ready (rs := [2]) (by kernel_rfl) (by simp) ?_
    refine AllReadyH.cons rfl (fun K hK => ?_) AllReadyH.nil
    go_simp
    refine (HSP.out _ hHeld).mono ?_
    rintro e wc ⟨rfl, hbc⟩
    refine hK.out _ _ (hHeld.trans (hbc.mono hHeld.size)) (fun hHeld => ?_)
    clear hK K hbc
    try simp only [Act.put, List.getElem_toArray, List.getElem_cons_zero, List.getElem_cons_succ, List.setIfInBounds_toArray, List.set_cons_zero, List.set_cons_succ]
    refine wpAnyH_take (i := 3) (v := .bool false) rfl (by kernel_rfl) (by kernel_rfl) (by kernel_rfl) (fun _ _ _ h => h) (Or.inl ⟨by rfl, fun w' hSw => ?_⟩) (by assumption) ?_
    · (try dsimp only at hSw); skip; go_simp
    try simp only [Act.put, List.getElem_toArray, List.getElem_cons_zero, List.getElem_cons_succ, List.setIfInBounds_toArray, List.set_cons_zero, List.set_cons_succ]
    refine wpAnyH_take (i := 4) (v := .bool false) rfl (by kernel_rfl) (by kernel_rfl) (by kernel_rfl) (fun _ _ _ h => h) (Or.inl ⟨by rfl, fun w' hSw => ?_⟩) (by assumption) ?_
    · (try dsimp only at hSw); skip; go_simp
    try simp only [Act.put, List.getElem_toArray, List.getElem_cons_zero, List.getElem_cons_succ, List.setIfInBounds_toArray, List.set_cons_zero, List.set_cons_succ]
    refine wpAnyH_take (i := 5) (v := .bool false) rfl (by kernel_rfl) (by kernel_rfl) (by kernel_rfl) (fun _ _ _ h => h) (Or.inl ⟨by rfl, fun w' hSw => ?_⟩) (by assumption) ?_
    · (try dsimp only at hSw); skip; go_simp
    try simp only [Act.put, List.getElem_toArray, List.getElem_cons_zero, List.getElem_cons_succ, List.setIfInBounds_toArray, List.set_cons_zero, List.set_cons_succ]
    refine wpAnyH_take (i := 6) (v := .agg #[.slice va n vc]) rfl (by kernel_rfl) (by kernel_rfl) (by kernel_rfl) (fun _ _ _ h => h) (Or.inl ⟨by rfl, fun w' hSw => ?_⟩) (by assumption) ?_
    · (try dsimp only at hSw); have zl := keepc hSw cl; go_simp
    try simp only [Act.put, List.getElem_toArray, List.getElem_cons_zero, List.getElem_cons_succ, List.setIfInBounds_toArray, List.set_cons_zero, List.set_cons_succ]
    refine wpAnyH_ready (rs := [7]) (by kernel_rfl) (by simp) ?_
    refine AllReadyH.cons rfl (fun K hK => ?_) AllReadyH.nil
    go_simp
    refine (HOK.out _ hHeld).mono ?_
    rintro e wc ⟨rfl, hbc⟩
    refine hK.out _ _ (hHeld.trans (hbc.mono hHeld.size)) (fun hHeld => ?_)
    clear hK K hbc
    try simp only [Act.put, List.getElem_toArray, List.getElem_cons_zero, List.getElem_cons_succ, List.setIfInBounds_toArray, List.set_cons_zero, List.set_cons_succ]
    refine wpAnyH_take (i := 8) (v := .bool false) rfl (by kernel_rfl) (by kernel_rfl) (by kernel_rfl) (fun _ _ _ h => h) (Or.inl ⟨by rfl, fun w' hSw => ?_⟩) (by assumption) ?_
    · (try dsimp only at hSw); skip; go_simp
    try simp only [Act.put, List.getElem_toArray, List.getElem_cons_zero, List.getElem_cons_succ, List.setIfInBounds_toArray, List.set_cons_zero, List.set_cons_succ]
    refine wpAnyH_take (i := 9) (v := .bool false) rfl (by kernel_rfl) (by kernel_rfl) (by kernel_rfl) (fun _ _ _ h => h) (Or.inl ⟨by rfl, fun w' hSw => ?_⟩) (by assumption) ?_
    · (try dsimp only at hSw); skip; go_simp
    try simp only [Act.put, List.getElem_toArray, List.getElem_cons_zero, List.getElem_cons_succ, List.setIfInBounds_toArray, List.set_cons_zero, List.set_cons_succ]
    refine wpAnyH_take (i := 10) (v := .bool false) rfl (by kernel_rfl) (by kernel_rfl) (by kernel_rfl) (fun _ _ _ h => h) (Or.inl ⟨by rfl, fun w' hSw => ?_⟩) (by assumption) ?_
    · (try dsimp only at hSw); skip; go_simp
    try simp only [Act.put, List.getElem_toArray, List.getElem_cons_zero, List.getElem_cons_succ, List.setIfInBounds_toArray, List.set_cons_zero, List.set_cons_succ]
    refine wpAnyH_take (i := 11) (v := .agg #[.slice va n vc]) rfl (by kernel_rfl) (by kernel_rfl) (by kernel_rfl) (fun _ _ _ h => h) (Or.inl ⟨by rfl, fun w' hSw => ?_⟩) (by assumption) ?_
    · (try dsimp only at hSw); have zl := keepc hSw cl; go_simp
    try simp only [Act.put, List.getElem_toArray, List.getElem_cons_zero, List.getElem_cons_succ, List.setIfInBounds_toArray, List.set_cons_zero, List.set_cons_succ]
    refine wpAnyH_take (i := 13) (v := .agg #[.slice va n vc]) rfl (by kernel_rfl) (by kernel_rfl) (by kernel_rfl) (fun _ _ _ h => h) (Or.inl ⟨by rfl, fun w' hSw => ?_⟩) (by assumption) ?_
    · (try dsimp only at hSw); have zl := keepc hSw cl; go_simp
    try simp only [Act.put, List.getElem_toArray, List.getElem_cons_zero, List.getElem_cons_succ, List.setIfInBounds_toArray, List.set_cons_zero, List.set_cons_succ]
    refine wpAnyH_ready (rs := [12]) (by kernel_rfl) (by simp) ?_
    refine AllReadyH.cons rfl (fun K hK => ?_) AllReadyH.nil
    go_simp
    refine (HOK.out _ hHeld).mono ?_
    rintro e wc ⟨rfl, hbc⟩
    refine hK.out _ _ (hHeld.trans (hbc.mono hHeld.size)) (fun hHeld => ?_)
    clear hK K hbc
    try simp only [Act.put, List.getElem_toArray, List.getElem_cons_zero, List.getElem_cons_succ, List.setIfInBounds_toArray, List.set_cons_zero, List.set_cons_succ]
    refine wpAnyH_ready (rs := [14]) (by kernel_rfl) (by simp) ?_
    refine AllReadyH.cons rfl (fun K hK => ?_) AllReadyH.nil
    go_simp
    refine (HSO.out _ hHeld).mono ?_
    rintro e wc ⟨rfl, hbc⟩
    refine hK.out _ _ (hHeld.trans (hbc.mono hHeld.size)) (fun hHeld => ?_)
    clear hK K hbc
    try simp only [Act.put, List.getElem_toArray, List.getElem_cons_zero, List.getElem_cons_succ, List.setIfInBounds_toArray, List.set_cons_zero, List.set_cons_succ]
    refine wpAnyH_take (i := 15) (v := .bool false) rfl (by kernel_rfl) (by kernel_rfl) (by kernel_rfl) (fun _ _ _ h => h) (Or.inl ⟨by rfl, fun w' hSw => ?_⟩) (by assumption) ?_
    · (try dsimp only at hSw); skip; go_simp
    try simp only [Act.put, List.getElem_toArray, List.getElem_cons_zero, List.getElem_cons_succ, List.setIfInBounds_toArray, List.set_cons_zero, List.set_cons_succ]
    refine wpAnyH_take (i := 16) (v := .bool false) rfl (by kernel_rfl) (by kernel_rfl) (by kernel_rfl) (fun _ _ _ h => h) (Or.inl ⟨by rfl, fun w' hSw => ?_⟩) (by assumption) ?_
    · (try dsimp only at hSw); skip; go_simp
    try simp only [Act.put, List.getElem_toArray, List.getElem_cons_zero, List.getElem_cons_succ, List.setIfInBounds_toArray, List.set_cons_zero, List.set_cons_succ]
    refine wpAnyH_take (i := 17) (v := .bool false) rfl (by kernel_rfl) (by kernel_rfl) (by kernel_rfl) (fun _ _ _ h => h) (Or.inl ⟨by rfl, fun w' hSw => ?_⟩) (by assumption) ?_
    · (try dsimp only at hSw); skip; go_simp
    try simp only [Act.put, List.getElem_toArray, List.getElem_cons_zero, List.getElem_cons_succ, List.setIfInBounds_toArray, List.set_cons_zero, List.set_cons_succ]
    refine wpAnyH_take (i := 18) (v := .bool false) rfl (by kernel_rfl) (by kernel_rfl) (by kernel_rfl) (fun _ _ _ h => h) (Or.inl ⟨by rfl, fun w' hSw => ?_⟩) (by assumption) ?_
    · (try dsimp only at hSw); skip; go_simp
    try simp only [Act.put, List.getElem_toArray, List.getElem_cons_zero, List.getElem_cons_succ, List.setIfInBounds_toArray, List.set_cons_zero, List.set_cons_succ]
    refine wpAnyH_take (i := 19) (v := .bool false) rfl (by kernel_rfl) (by kernel_rfl) (by kernel_rfl) (fun _ _ _ h => h) (Or.inl ⟨by rfl, fun w' hSw => ?_⟩) (by assumption) ?_
    · (try dsimp only at hSw); skip; go_simp
    try simp only [Act.put, List.getElem_toArray, List.getElem_cons_zero, List.getElem_cons_succ, List.setIfInBounds_toArray, List.set_cons_zero, List.set_cons_succ]
    refine wpAnyH_take (i := 20) (v := undef) rfl (by kernel_rfl) (by kernel_rfl) (by kernel_rfl) (fun _ _ _ h => h) (Or.inr ⟨by rfl, rfl⟩) (by assumption) ?_
    try simp only [Act.put, List.getElem_toArray, List.getElem_cons_zero, List.getElem_cons_succ, List.setIfInBounds_toArray, List.set_cons_zero, List.set_cons_succ]
    refine wpAnyH_take (i := 21) (v := undef) rfl (by kernel_rfl) (by kernel_rfl) (by kernel_rfl) (fun _ _ _ h => h) (Or.inr ⟨by rfl, rfl⟩) (by assumption) ?_
    try simp only [Act.put, List.getElem_toArray, List.getElem_cons_zero, List.getElem_cons_succ, List.setIfInBounds_toArray, List.set_cons_zero, List.set_cons_succ]
    refine wpAnyH_take (i := 22) (v := undef) rfl (by kernel_rfl) (by kernel_rfl) (by kernel_rfl) (fun _ _ _ h => h) (Or.inr ⟨by rfl, rfl⟩) (by assumption) ?_
    try simp only [Act.put, List.getElem_toArray, List.getElem_cons_zero, List.getElem_cons_succ, List.setIfInBounds_toArray, List.set_cons_zero, List.set_cons_succ]
    refine wpAnyH_take (i := 23) (v := undef) rfl (by kernel_rfl) (by kernel_rfl) (by kernel_rfl) (fun _ _ _ h => h) (Or.inr ⟨by rfl, rfl⟩) (by assumption) ?_
    try simp only [Act.put, List.getElem_toArray, List.getElem_cons_zero, List.getElem_cons_succ, List.setIfInBounds_toArray, List.set_cons_zero, List.set_cons_succ]
    refine wpAnyH_take (i := 24) (v := .bool false) rfl (by kernel_rfl) (by kernel_rfl) (by kernel_rfl) (fun _ _ _ h => h) (Or.inl ⟨by rfl, fun w' hSw => ?_⟩) (by assumption) ?_
    · (try dsimp only at hSw); skip; go_simp
    try simp only [Act.put, List.getElem_toArray, List.getElem_cons_zero, List.getElem_cons_succ, List.setIfInBounds_toArray, List.set_cons_zero, List.set_cons_succ]
    refine wpAnyH_take (i := 25) (v := .bool false) rfl (by kernel_rfl) (by kernel_rfl) (by kernel_rfl) (fun _ _ _ h => h) (Or.inl ⟨by rfl, fun w' hSw => ?_⟩) (by assumption) ?_
    · (try dsimp only at hSw); skip; go_simp
    try simp only [Act.put, List.getElem_toArray, List.getElem_cons_zero, List.getElem_cons_succ, List.setIfInBounds_toArray, List.set_cons_zero, List.set_cons_succ]
    refine wpAnyH_done (by kernel_rfl) ?_ _
    have HB6 := hide (HB3.out.trans (hHeld.mono HB3.out.size))
    have HK6 := hide (HK3.out.below hHeld)
    clear hHeld cl cm HSP HOK HSO HIM HB3 HK3
    obtain ⟨W6, hW6⟩ : ∃ W6, W6 = wc := ⟨_, rfl⟩
    rw [← hW6] at HB6 HK6
    rw [← hW6]
    clear hW6
    go_wp2_with fail
    refine (drawReadLit_any a0 len0 cap0 _ HK6.out.2.2 hb).mono ?_
    rintro e w7 ⟨u, rfl, hu, hb7⟩
    have HB7 := hide (HB6.out.trans (hb7.mono HB6.out.size))
    have HK7 := hide (HK6.out.below hb7)
    clear hb7 HB6 HK6
    have HI7 := hide (fun W h => implReadLit_any u W h (by omega))
    have HS7 := hide (fun W h => specReadLit_any u W h (by omega))
    rw [← rl_same u] at HS7
    have HRS := hide (fun ts' => rl_some (s := u) (ts := ts'))
    generalize rlI u = r7 at HI7 HS7 HRS
    go_wp2_with fail
    refine (HI7.out _ HK7.out.2.1).mono ?_
    intro e w8 hp8
    obtain ⟨v8, vs8, rfl, ho8, hb8⟩ := rl_all hp8
    obtain ⟨a8, c8, ev8⟩ : ∃ a c, v8 = .slice a (r7.getD []).length c := by obtain ⟨a, c, e, _⟩ := ho8.sa; exact ⟨a, c, e⟩
    subst ev8
    obtain ⟨T8, hT8⟩ : ∃ T, r7.getD [] = T := ⟨_, rfl⟩
    rw [hT8] at ho8 ⊢
    have HT8 := hide hT8
    have hA8 : Below w8.heap.size w8 (w8.alloc (.cells #[.slice a8 T8.length c8] 26)) := (Below.refl _ _).alloc (Nat.le_refl _) _
    have q8 : (w8.alloc (.cells #[.slice a8 T8.length c8] 26)).heap[w8.heap.size]? = some (.cells #[.slice a8 T8.length c8] 26 (0, 0)) := heap_alloc_new _ _
    have hb8a := hb8.trans (hA8.mono hb8.size)
    have HB8 := hide (HB7.out.trans (hb8a.mono HB7.out.size))
    have HK8 := hide (HK7.out.below hb8a)
    have HO8 := hide (ho8.below hA8).sa
    obtain ⟨W8, hE8⟩ : ∃ W8, w8.alloc (.cells #[.slice a8 T8.length c8] 26) = W8 := ⟨_, rfl⟩
    rw [hE8] at q8 HB8 HK8 HO8
    clear hp8 ho8 hb8 hA8 hb8a HB7 HK7 HI7 hT8
    go_wp2_with fail
    refine (HS7.out _ (Nat.lt_of_le_of_lt (Nat.zero_le _) HK8.out.2.1.lt)).mono ?_
    intro e w9 hp9
    obtain ⟨v9, vs9, rfl, ho9, hb9⟩ := rl_all hp9
    obtain ⟨a9, c9, ev9⟩ : ∃ a c, v9 = .slice a (r7.getD []).length c := by obtain ⟨a, c, e, _⟩ := ho9.sa; exact ⟨a, c, e⟩
    subst ev9
    have q9 := heap_bl q8 hb9
    have hA9 : ∀ o, Below w9.heap.size w9 (w9.alloc o) := fun o => (Below.refl _ _).alloc (Nat.le_refl _) _
    have HB9 : Hid (∀ o, Below w.heap.size w (w9.alloc o)) := hide (fun o => by
      have h := HB8.out.trans (hb9.mono HB8.out.size)
      exact h.trans ((hA9 o).mono h.size))
    have HK9 : Hid (∀ o, Kt a0 len0 (w9.alloc o)) := hide (fun o => (HK8.out.below hb9).below (hA9 o))
    have HO9 : Hid (∀ o, Sa (w9.alloc o) (.slice a8 T8.length c8) T8.length (Lf T8) (Ff T8)) := hide (fun o => (HO8.out.below hb9).below (hA9 o))
    have cx : ∀ o, (w9.alloc o).cell? ⟨w8.heap.size, 0, none⟩ = some (.slice a8 T8.length c8) := fun o => keepc (hA9 o) ((cell_of_row _ _ 0 _ _ _ q9).trans rfl)
    clear hE8 q8 q9 hp9 ho9 hb9 HB8 HK8 HO8 HS7 hA9
    cases hr7 : r7 with
    | none =>
      simp only [Option.isSome]
      clear hr7
      go_wp2
      go_ret
      exact ⟨rfl, HB9.out _⟩
    | some tt =>
      have hts : tsT T8.length (Lf T8) (Ff T8) = u := by
        have hq := (HRS.out tt).1 hr7
        have e8 : T8 = tt := by rw [← HT8.out, hr7]; rfl
        rw [e8]
        show tsL tt = u
        rw [tsL_eq, if_pos hq.1, hq.2]
      have HIT := hide (fun o => implText_any (.slice a8 T8.length c8) T8.length (Lf T8) (Ff T8) (w9.alloc o) (HO9.out o) (HK9.out o).1)
      rw [hts] at HIT
      simp only [Option.isSome]
      clear hr7 hts HRS
      go_wp2_with fail
      refine (HIT.out _).mono ?_
      rintro e w10 ⟨rfl, hb10⟩
      have HBE := hide ((HB9.out _).trans (hb10.mono (HB9.out _).size))
      clear hb10 HIT cx
      go_wp2
      go_ret
      exact ⟨rfl, HBE.out⟩

end Go.Proofs.YtokekgfompbdiaaDoor
