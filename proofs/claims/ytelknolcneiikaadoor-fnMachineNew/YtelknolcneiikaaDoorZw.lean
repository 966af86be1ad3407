/- MwB, MwC, in one text -/
import Derived.Test.YtelknolcneiikaaDoorMwA
import Derived.Test.YtelknolcneiikaaDoorZn
import Derived.Test.YtelknolcneiikaaDoorZr
import Derived.Deep.RegionWith
import Derived.Deep.QuietTactic
import Derived.BigQuiet
/- what is told of a new machine; FnMachineNew's walk -/
namespace Go.Proofs.YtelknolcneiikaaDoor
open Go.RowKit
set_option linter.unusedVariables false
set_option linter.unusedSimpArgs false

abbrev nF : Nat → Nat → Nat → Int := fun _ _ _ => 0
abbrev nG : Nat → LnD := fun _ => zLn
abbrev nM : Nat → Nat → Int := fun _ _ => 0

theorem new_mach {C N : Nat} (h : sizeB (C : Int) (N : Int) = true) : machB C (fun _ => N) nF N nG 0 nM = true := by
  unfold machB
  have h1 : slotsB C (fun _ => N) nF N = true := (slotsB_yes (fun c hc => ⟨rfl, fun j hj => by show slB 0 0 0 0 = true; decide⟩)).symm
  have h2 : linesB C N nG = true := (linesB_yes (fun j hj => ⟨(lineB_yes ⟨by simp [zLn], by simp [zLn], by rfl, .inl ⟨rfl, rfl, rfl, rfl⟩⟩).symm, (withinB_yes ⟨by simp [zLn], by simp [zLn], fun j hj => by simp [zLn] at hj, fun j hj => by simp [zLn] at hj⟩).symm⟩)).symm
  have h3 : mailB C N 0 nM = true := (mailB_yes ⟨by omega, fun j hj => by omega⟩).symm
  rw [h, h1, h2, h3]; rfl

theorem new_st (k st C : Nat) (h : 0 < st) : stL (pS nF k (st : Int)) C = [] := by
  induction C with
  | zero => rfl
  | succ n ih =>
    have e : pS nF k (st : Int) n = false := by
      unfold pS
      have : ¬ (0 : Int) = (st : Int) := by omega
      simp [this]
    show stL _ n ++ cond (pS nF k (st : Int) n) _ _ = []
    rw [ih, e]; rfl

theorem new_nvB {C N k : Nat} (h : sizeB (C : Int) (N : Int) = true) (hk : k < N) : nvB C (fun _ => N) nF N nG 0 nM (k : Int) = true := by
  unfold nvB hlB
  rw [new_mach h]
  have h1 : (0 : Int) ≤ (k : Int) := by omega
  have h2 : (k : Int) < (N : Int) := by omega
  simp [h2]

theorem new_nvI {C N k : Nat} (h : sizeB (C : Int) (N : Int) = true) (hk : k < N) : nvI C (fun _ => N) nF N nG 0 nM (k : Int) = 0 := by
  obtain ⟨_, k2, e, _, e2⟩ := nv_parts (new_nvB h hk)
  rw [e2]
  unfold newV
  rw [show stL (pS nF k2 2) C = [] from new_st k2 2 C (by omega)]
  rfl

theorem new_csL {C N k : Nat} (st : Nat) (hs : 0 < st) (h : sizeB (C : Int) (N : Int) = true) (hk : k < N) : csL (st : Int) C (fun _ => N) nF N nG 0 nM (k : Int) = [] := by
  rw [csL_yes (new_nvB h hk)]; exact new_st k st C hs

theorem new_quiet {C N : Nat} (h : sizeB (C : Int) (N : Int) = true) : quietB C (fun _ => N) nF N nG 0 nM = true := by
  rw [quietB_yes (new_mach h)]
  have h1 : allB (fun _ => N) nF C 0 = true := decide_eq_true ⟨fun c hc j hj => by rfl, fun j hj => by omega⟩
  have h2 : noBusy nG N = true := decide_eq_true (fun j hj => rfl)
  rw [h1, h2]; rfl

/-- a new machine in memory -/
structure NM (w : World) (sa : Option Addr) (sc : Nat) (la : Option Addr) (lc C N : Nat) : Prop where
  tab : Tab w
  ss : Ss w (.slice sa C sc) C (fun _ => N) nF
  ls : Ls w (.slice la N lc) N nG
  hC : C ≤ 5
  hN : N ≤ 4
  ok : sizeB (C : Int) (N : Int) = true

theorem NM.below {w w' : World} {sa : Option Addr} {sc : Nat} {la : Option Addr} {lc C N : Nat} (h : NM w sa sc la lc C N) (hb : Below w.heap.size w w') : NM w' sa sc la lc C N := ⟨h.tab.below hb, h.ss.below hb, h.ls.below hb, h.hC, h.hN, h.ok⟩

theorem ow_nil {w : World} {base : Nat} {u : Value} (h : Ow w base u []) : ∃ ad cap, u = .slice ad 0 cap := by
  rcases h.2 with ⟨e, _⟩ | ⟨g, cap, cur, hv, _⟩
  · exact ⟨none, 0, e⟩
  · exact ⟨_, cap, hv⟩

abbrev mA (sa : Option Addr) (sc : Nat) (la : Option Addr) (lc C N : Nat) : Array Value := mc3 (.slice sa C sc) (.slice la N lc) (.slice none 0 0)

theorem newest_new {w : World} {sa : Option Addr} {sc : Nat} {la : Option Addr} {lc C N : Nat} (h : NM w sa sc la lc C N) (k : Nat) (hk : k < N) :
    Calls Tryd.prog 9 #[.agg (mA sa sc la lc C N), .int .i64 (k : Int)] w fun e w' => e = .returned (.tuple #[.int .i64 0, .bool true]) ∧ Below w.heap.size w w' := by
  have := implNewest_any sa C sc la N lc none 0 0 (fun _ => N) nF nG nM (k : Int) w h.tab h.ss h.ls (nil_Sr _ _ _) (by have := h.hC; omega) (fun c hc => by have := h.hN; omega) (by have := h.hN; omega) (fun c hc => ⟨by simp [zLn], by simp [zLn]⟩) (by omega)
  rw [new_nvI h.ok hk, new_nvB h.ok hk] at this
  exact this

theorem owners_new {w : World} {sa : Option Addr} {sc : Nat} {la : Option Addr} {lc C N : Nat} (h : NM w sa sc la lc C N) (k : Nat) (hk : k < N) :
    Calls Tryd.prog 10 #[.agg (mA sa sc la lc C N), .int .i64 (k : Int)] w fun e w' => (∃ ad cap, e = .returned (.slice ad 0 cap)) ∧ Below w.heap.size w w' := by
  have := implOwnersOf_any sa C sc la N lc none 0 0 (fun _ => N) nF nG nM (k : Int) w h.tab h.ss h.ls (nil_Sr _ _ _) (by have := h.hC; omega) (fun c hc => by have := h.hN; omega) (by have := h.hN; omega) (fun c hc => ⟨by simp [zLn], by simp [zLn]⟩) (by omega)
  refine this.mono ?_
  rintro e w' ⟨u, rfl, ho, hb⟩
  rw [show csL 2 C (fun _ => N) nF N nG 0 nM (k : Int) = [] from new_csL 2 (by omega) h.ok hk] at ho
  obtain ⟨ad, cap, rfl⟩ := ow_nil ho
  exact ⟨⟨ad, cap, rfl⟩, hb⟩

theorem sharers_new {w : World} {sa : Option Addr} {sc : Nat} {la : Option Addr} {lc C N : Nat} (h : NM w sa sc la lc C N) (k : Nat) (hk : k < N) :
    Calls Tryd.prog 11 #[.agg (mA sa sc la lc C N), .int .i64 (k : Int)] w fun e w' => (∃ ad cap, e = .returned (.slice ad 0 cap)) ∧ Below w.heap.size w w' := by
  have := implSharersOf_any sa C sc la N lc none 0 0 (fun _ => N) nF nG nM (k : Int) w h.tab h.ss h.ls (nil_Sr _ _ _) (by have := h.hC; omega) (fun c hc => by have := h.hN; omega) (by have := h.hN; omega) (fun c hc => ⟨by simp [zLn], by simp [zLn]⟩) (by omega)
  refine this.mono ?_
  rintro e w' ⟨u, rfl, ho, hb⟩
  rw [show csL 1 C (fun _ => N) nF N nG 0 nM (k : Int) = [] from new_csL 1 (by omega) h.ok hk] at ho
  obtain ⟨ad, cap, rfl⟩ := ow_nil ho
  exact ⟨⟨ad, cap, rfl⟩, hb⟩

theorem ok_new {w : World} {sa : Option Addr} {sc : Nat} {la : Option Addr} {lc C N : Nat} (h : NM w sa sc la lc C N) :
    Calls Tryd.prog 12 #[.agg (mA sa sc la lc C N)] w fun e w' => e = .returned (.bool true) ∧ Below w.heap.size w w' := by
  have := implMachineOk_any sa C sc la N lc none 0 0 (fun _ => N) nF nG nM w h.tab h.ss h.ls (nil_Sr _ _ _) (by have := h.hC; omega) (fun c hc => by have := h.hN; omega) (by have := h.hN; omega) (fun c hc => ⟨by simp [zLn], by simp [zLn]⟩) (by omega)
  rw [new_mach h.ok] at this
  exact this

theorem quiet_new {w : World} {sa : Option Addr} {sc : Nat} {la : Option Addr} {lc C N : Nat} (h : NM w sa sc la lc C N) :
    Calls Tryd.prog 13 #[.agg (mA sa sc la lc C N)] w fun e w' => e = .returned (.bool true) ∧ Below w.heap.size w w' := by
  have := implQuiet_any sa C sc la N lc none 0 0 (fun _ => N) nF nG nM w h.tab h.ss h.ls (nil_Sr _ _ _) (by have := h.hC; omega) (fun c hc => by have := h.hN; omega) (by have := h.hN; omega) (fun c hc => ⟨by simp [zLn], by simp [zLn]⟩) (by omega)
  rw [new_quiet h.ok] at this
  exact this

set_option maxHeartbeats 1000000 in
theorem drawNew_any (ad : Option Addr) (n cap : Nat) (w : World) (hb : Bt w ad n) (hn : n ≤ 1048576) :
    Calls Tryd.prog 5 #[.slice ad n cap] w fun e w' => ∃ a b : Int, e = .returned (.tuple #[.int .i64 a, .int .i64 b]) ∧ Below w.heap.size w w' := by
  go_enter Tryd.func5, Tryd.ntmps5
  go_wp2_with fail
  refine (open_any ad n cap _ hb hn).mono ?_
  rintro e w1 ⟨g, rfl, hg1, hr1, hb1⟩
  clear hb
  go_wp2_with fail
  refine (off_any g 2 5 _ hr1 (by decide) (by decide) (by decide)).mono ?_
  rintro e w2 ⟨a, rfl, hr2, hg2⟩
  have HB2 := hide (below_read hb1 hg2 hg1 hb1.size)
  clear hr1 hb1 hg2
  go_wp2_with fail
  refine (off_any g 1 4 _ hr2 (by decide) (by decide) (by decide)).mono ?_
  rintro e w3 ⟨b, rfl, hr3, hg3⟩
  have HB3 := hide (below_read HB2.out hg3 hg1 HB2.out.size)
  clear hr2 hg3 HB2 hr3 hg1
  go_wp2
  go_ret2
  exact ⟨a, b, rfl, HB3.out⟩

end Go.Proofs.YtelknolcneiikaaDoor

/- FnMachineNew's walk -/
namespace Go.Proofs.YtelknolcneiikaaDoor
open Go.RowKit
set_option linter.unusedVariables false
set_option linter.unusedSimpArgs false

/-- the walk's world: a new machine, its box -/
structure NW (w0 : World) (B : Nat) (sa : Option Addr) (sc : Nat) (la : Option Addr) (lc C N : Nat) (w : World) : Prop where
  bel : Below w0.heap.size w0 w
  nm : NM w sa sc la lc C N
  bx : B3 w B (.slice sa C sc) (.slice la N lc) (.slice none 0 0)

theorem NW.below {w0 : World} {B : Nat} {sa : Option Addr} {sc : Nat} {la : Option Addr} {lc C N : Nat} {w w' : World} (h : NW w0 B sa sc la lc C N w) (hb : Below w.heap.size w w') : NW w0 B sa sc la lc C N w' := ⟨h.bel.trans (hb.mono h.bel.size), h.nm.below hb, h.bx.below hb⟩
theorem NW.drew {w0 : World} {B : Nat} {sa : Option Addr} {sc : Nat} {la : Option Addr} {lc C N : Nat} {w : World} (h : NW w0 B sa sc la lc C N w) : NW w0 B sa sc la lc C N w.drew := h.below ((Below.refl _ _).drew)

set_option maxHeartbeats 4000000 in
theorem mn_walk (a0 : Option Addr) (len0 cap0 : Nat) (w : World) (hs0 : Bt w a0 len0) (htab : Tab w) :
    Calls Tryd.prog 3 #[.slice a0 len0 cap0] w fun e w' => e = .returned (.bool true) ∧ Below w.heap.size w w' := by
  by_cases hbig : (1048576 : Int) < (len0 : Int)
  · go_enter Tryd.func3, Tryd.ntmps3
    go_wp2
    go_ret
    exact ⟨rfl, Below.refl _ _⟩
  have hb : len0 ≤ 1048576 := by omega
  go_enter Tryd.func3, Tryd.ntmps3
  go_wp2_with (first | (go_at_call 4; go_in) | fail)
  refine (drawNew_any a0 len0 cap0 _ hs0 hb).mono ?_
  rintro e w1 ⟨c, l, rfl, hb1⟩
  have HB1 := hide hb1
  have HT := hide (htab.below hb1)
  clear hs0 htab hb1 hbig
  cases hsz : sizeB c l with
  | false =>
    have hi := fun w => implNew_no c l w hsz
    have hs := fun w => specNew_no c l w hsz
    clear hsz
    go_wp2_with fail
    refine (hi _).mono ?_
    rintro e w2 ⟨rfl, hb2⟩
    have b1 := bx3 w2 (.slice none 0 0) (.slice none 0 0) (.slice none 0 0) 30
    have hal : Below w2.heap.size w2 (w2.alloc (.cells (mc3 (.slice none 0 0) (.slice none 0 0) (.slice none 0 0)) 30)) := (Below.refl _ _).alloc (Nat.le_refl _) _
    have HB2 := hide (HB1.out.trans (hb2.mono HB1.out.size))
    have HB3 := hide (HB2.out.trans (hal.mono HB2.out.size))
    clear hb2 hal HB2 HB1 hi
    go_wp2_with fail
    refine (hs _).mono ?_
    rintro e w3 ⟨rfl, hb3⟩
    replace b1 := b1.below hb3
    have b2 := bx3 w3 (.slice none 0 0) (.slice none 0 0) (.slice none 0 0) 30
    have hal : Below w3.heap.size w3 (w3.alloc (.cells (mc3 (.slice none 0 0) (.slice none 0 0) (.slice none 0 0)) 30)) := (Below.refl _ _).alloc (Nat.le_refl _) _
    replace b1 := b1.below hal
    have HB4 := hide (HB3.out.trans (hb3.mono HB3.out.size))
    have HB5 := hide (HB4.out.trans (hal.mono HB4.out.size))
    clear hb3 hal HB4 HB3 hs
    have hsm := fun w => sameMachine_same none none none none 0 0 0 0 0 (fun _ => 0) nF 0 w (nil_Ss _ _ _) (nil_Ss _ _ _) (nil_Ls _ _) (nil_Ls _ _) (by omega) (fun c hc => by omega) (by omega)
    obtain ⟨p0, p1, p2⟩ := id b1
    obtain ⟨q0, q1, q2⟩ := id b2
    go_wp2_with fail
    refine (hsm _).mono ?_
    rintro e w4 ⟨rfl, hb4⟩
    replace b1 := b1.below hb4
    replace b2 := b2.below hb4
    have HB6 := hide (HB5.out.trans (hb4.mono HB5.out.size))
    clear hb4 HB5 p0 p1 p2 q0 q1 q2
    obtain ⟨p0, p1, p2⟩ := id b1
    obtain ⟨q0, q1, q2⟩ := id b2
    go_wp2_with fail
    refine (hsm _).mono ?_
    rintro e w5 ⟨rfl, hb5⟩
    have HB7 := hide (HB6.out.trans (hb5.mono HB6.out.size))
    clear hb5 HB6 p0 p1 p2 q0 q1 q2 b1 b2 hsm
    go_wp2
    go_ret
    exact ⟨rfl, HB7.out⟩
  | true =>
    have hcl : 2 ≤ c ∧ c ≤ 5 ∧ 1 ≤ l ∧ l ≤ 4 := by
      have h := hsz
      unfold sizeB at h
      rw [Bool.and_eq_true, inB_iff, inB_iff] at h
      omega
    obtain ⟨C, rfl⟩ := Int.eq_ofNat_of_zero_le (by omega : 0 ≤ c)
    obtain ⟨N, rfl⟩ := Int.eq_ofNat_of_zero_le (by omega : 0 ≤ l)
    have hC : C ≤ 5 := by omega
    have hN : N ≤ 4 := by omega
    clear hcl
    have hi := fun w => implNew_yes C N w hC hN hsz
    have hs := fun w => specNew_yes C N w hC hN hsz
    go_wp2_with fail
    refine (hi _).mono ?_
    rintro e w2 ⟨g1, g2, ib, rfl, hn⟩
    have HB2 := hide (HB1.out.trans (hn.bel.mono HB1.out.size))
    have NM2 := hide (NM.mk (HT.out.below hn.bel) hn.ss hn.ls hC hN hsz)
    clear hn HB1 HT hi
    have NW2 := hide (NW.mk (w0 := w) (B := w2.heap.size) (HB2.out.trans (((Below.refl _ w2).alloc (Nat.le_refl _) (.cells (mc3 (full g1 C) (full g2 N) (.slice none 0 0)) 30)).mono HB2.out.size)) (NM2.out.below ((Below.refl _ w2).alloc (Nat.le_refl _) _)) (bx3 w2 (full g1 C) (full g2 N) (.slice none 0 0) 30))
    clear NM2 HB2
    go_wp2_with fail
    refine (hs _).mono ?_
    rintro e w3 ⟨xa, ya, g3, rfl, hm⟩
    have hal : Below w3.heap.size w3 (w3.alloc (.cells (mc3 (.slice xa C ya) (full g3 N) (.slice none 0 0)) 30)) := (Below.refl _ _).alloc (Nat.le_refl _) _
    have NW3 := hide ((NW2.out.below hm.bel).below hal)
    have b2 := bx3 w3 (.slice xa C ya) (full g3 N) (.slice none 0 0) 30
    have HSL := hide (And.intro (hm.ss.below hal) (hm.ls.below hal))
    clear hm hal NW2 hs
    obtain ⟨p0, p1, p2⟩ := NW3.out.bx
    obtain ⟨q0, q1, q2⟩ := id b2
    go_wp2_with fail
    refine (sameMachine_same (some ⟨g1, 0, none⟩) xa (some ⟨g2, 0, none⟩) (some ⟨g3, 0, none⟩) C ya N N C (fun _ => N) nF N _ NW3.out.nm.ss HSL.out.1 NW3.out.nm.ls HSL.out.2 (by omega) (fun c hc => by omega) (by omega)).mono ?_
    rintro e w4 ⟨rfl, hb4⟩
    have NW4 := hide (NW3.out.below hb4)
    clear hb4 NW3 HSL b2 p0 p1 p2 q0 q1 q2 hsz
    go_wp2
    go_loopw [9, 10, 11] (fun i _ _ wr => ∃ k : Nat, k ≤ N ∧ i = .int .i64 k ∧ Hid (NW w w2.heap.size (some ⟨g1, 0, none⟩) C (some ⟨g2, 0, none⟩) N C N wr)) (fun i _ _ _ => N - (intOf i).toNat)
    case atStart => exact ⟨0, Nat.zero_le _, rfl, NW4⟩
    case round =>
      clear NW4
      obtain ⟨k, hk, rfl, NWh⟩ := hrel
      have NWx := NWh.out
      obtain ⟨p0, p1, p2⟩ := id NWx.bx
      clear NWh
      by_cases hlt : k < N
      · go_wp2_with fail
        refine (newest_new NWx.nm k hlt).mono ?_
        rintro e w5 ⟨rfl, hb5⟩
        replace NWx := NWx.below hb5
        clear hb5 p0 p1 p2
        obtain ⟨p0, p1, p2⟩ := id NWx.bx
        go_wp2
        refine wp_region_held_drew (S := fun w' => Below w5.heap.size w5 w') (by kernel_rfl) ((Below.refl _ _).drew) (fun hHeld => ?_)
        refine wpAnyH_take (i := 0) (v := .int .i64 0) rfl (by kernel_rfl) (by kernel_rfl) (by kernel_rfl) (fun _ _ _ h => h) (Or.inl ⟨by rfl, fun w' hSw => ?_⟩) (by assumption) ?_
        · (try dsimp only at hSw); skip; go_simp
        try simp only [Act.put, List.getElem_toArray, List.getElem_cons_zero, List.getElem_cons_succ, List.setIfInBounds_toArray, List.set_cons_zero, List.set_cons_succ]
        refine wpAnyH_take (i := 1) (v := .bool false) rfl (by kernel_rfl) (by kernel_rfl) (by kernel_rfl) (fun _ _ _ h => h) (Or.inl ⟨by rfl, fun w' hSw => ?_⟩) (by assumption) ?_
        · (try dsimp only at hSw); skip; go_simp
        try simp only [Act.put, List.getElem_toArray, List.getElem_cons_zero, List.getElem_cons_succ, List.setIfInBounds_toArray, List.set_cons_zero, List.set_cons_succ]
        refine wpAnyH_take (i := 2) (v := .bool false) rfl (by kernel_rfl) (by kernel_rfl) (by kernel_rfl) (fun _ _ _ h => h) (Or.inl ⟨by rfl, fun w' hSw => ?_⟩) (by assumption) ?_
        · (try dsimp only at hSw); skip; go_simp
        try simp only [Act.put, List.getElem_toArray, List.getElem_cons_zero, List.getElem_cons_succ, List.setIfInBounds_toArray, List.set_cons_zero, List.set_cons_succ]
        refine wpAnyH_take (i := 3) (v := .bool true) rfl (by kernel_rfl) (by kernel_rfl) (by kernel_rfl) (fun _ _ _ h => h) (Or.inl ⟨by rfl, fun w' hSw => ?_⟩) (by assumption) ?_
        · (try dsimp only at hSw); skip; go_simp
        try simp only [Act.put, List.getElem_toArray, List.getElem_cons_zero, List.getElem_cons_succ, List.setIfInBounds_toArray, List.set_cons_zero, List.set_cons_succ]
        refine wpAnyH_take (i := 4) (v := .bool false) rfl (by kernel_rfl) (by kernel_rfl) (by kernel_rfl) (fun _ _ _ h => h) (Or.inl ⟨by rfl, fun w' hSw => ?_⟩) (by assumption) ?_
        · (try dsimp only at hSw); skip; go_simp
        try simp only [Act.put, List.getElem_toArray, List.getElem_cons_zero, List.getElem_cons_succ, List.setIfInBounds_toArray, List.set_cons_zero, List.set_cons_succ]
        refine wpAnyH_take (i := 5) (v := .bool false) rfl (by kernel_rfl) (by kernel_rfl) (by kernel_rfl) (fun _ _ _ h => h) (Or.inl ⟨by rfl, fun w' hSw => ?_⟩) (by assumption) ?_
        · (try dsimp only at hSw); skip; go_simp
        try simp only [Act.put, List.getElem_toArray, List.getElem_cons_zero, List.getElem_cons_succ, List.setIfInBounds_toArray, List.set_cons_zero, List.set_cons_succ]
        refine wpAnyH_take (i := 6) (v := .bool false) rfl (by kernel_rfl) (by kernel_rfl) (by kernel_rfl) (fun _ _ _ h => h) (Or.inl ⟨by rfl, fun w' hSw => ?_⟩) (by assumption) ?_
        · (try dsimp only at hSw); skip; go_simp
        try simp only [Act.put, List.getElem_toArray, List.getElem_cons_zero, List.getElem_cons_succ, List.setIfInBounds_toArray, List.set_cons_zero, List.set_cons_succ]
        refine wpAnyH_take (i := 7) (v := .agg (mA (some ⟨g1, 0, none⟩) C (some ⟨g2, 0, none⟩) N C N)) rfl (by kernel_rfl) (by kernel_rfl) (by kernel_rfl) (fun _ _ _ h => h) (Or.inl ⟨by rfl, fun w' hSw => ?_⟩) (by assumption) ?_
        · (try dsimp only at hSw); have zp0 := keepc hSw p0; have zp1 := keepc hSw p1; have zp2 := keepc hSw p2; go_simp
        try simp only [Act.put, List.getElem_toArray, List.getElem_cons_zero, List.getElem_cons_succ, List.setIfInBounds_toArray, List.set_cons_zero, List.set_cons_succ]
        refine wpAnyH_take (i := 8) (v := .int .i64 k) rfl (by kernel_rfl) (by kernel_rfl) (by kernel_rfl) (fun _ _ _ h => h) (Or.inl ⟨by rfl, fun w' hSw => ?_⟩) (by assumption) ?_
        · (try dsimp only at hSw); skip; go_simp
        try simp only [Act.put, List.getElem_toArray, List.getElem_cons_zero, List.getElem_cons_succ, List.setIfInBounds_toArray, List.set_cons_zero, List.set_cons_succ]
        refine wpAnyH_take (i := 11) (v := .agg (mA (some ⟨g1, 0, none⟩) C (some ⟨g2, 0, none⟩) N C N)) rfl (by kernel_rfl) (by kernel_rfl) (by kernel_rfl) (fun _ _ _ h => h) (Or.inl ⟨by rfl, fun w' hSw => ?_⟩) (by assumption) ?_
        · (try dsimp only at hSw); have zp0 := keepc hSw p0; have zp1 := keepc hSw p1; have zp2 := keepc hSw p2; go_simp
        try simp only [Act.put, List.getElem_toArray, List.getElem_cons_zero, List.getElem_cons_succ, List.setIfInBounds_toArray, List.set_cons_zero, List.set_cons_succ]
        refine wpAnyH_take (i := 12) (v := .int .i64 k) rfl (by kernel_rfl) (by kernel_rfl) (by kernel_rfl) (fun _ _ _ h => h) (Or.inl ⟨by rfl, fun w' hSw => ?_⟩) (by assumption) ?_
        · (try dsimp only at hSw); skip; go_simp
        try simp only [Act.put, List.getElem_toArray, List.getElem_cons_zero, List.getElem_cons_succ, List.setIfInBounds_toArray, List.set_cons_zero, List.set_cons_succ]
        refine wpAnyH_ready (rs := [9]) (by kernel_rfl) (by simp) ?_
        refine AllReadyH.cons rfl (fun K hK => ?_) AllReadyH.nil
        go_simp
        refine (owners_new (NWx.nm.below hHeld) k hlt).mono ?_
        rintro e w6 ⟨⟨ad, cap, rfl⟩, hb6⟩
        refine hK.out _ _ (hHeld.trans (hb6.mono hHeld.size)) (fun hHeld => ?_)
        clear hK K hb6
        try simp only [Act.put, List.getElem_toArray, List.getElem_cons_zero, List.getElem_cons_succ, List.setIfInBounds_toArray, List.set_cons_zero, List.set_cons_succ]
        refine wpAnyH_take (i := 10) (v := .int .i64 0) rfl (by kernel_rfl) (by kernel_rfl) (by kernel_rfl) (fun _ _ _ h => h) (Or.inl ⟨by rfl, fun w' hSw => ?_⟩) (by assumption) ?_
        · (try dsimp only at hSw); skip; go_simp
        try simp only [Act.put, List.getElem_toArray, List.getElem_cons_zero, List.getElem_cons_succ, List.setIfInBounds_toArray, List.set_cons_zero, List.set_cons_succ]
        refine wpAnyH_ready (rs := [13]) (by kernel_rfl) (by simp) ?_
        refine AllReadyH.cons rfl (fun K hK => ?_) AllReadyH.nil
        go_simp
        refine (sharers_new (NWx.nm.below hHeld) k hlt).mono ?_
        rintro e w6 ⟨⟨ad, cap, rfl⟩, hb6⟩
        refine hK.out _ _ (hHeld.trans (hb6.mono hHeld.size)) (fun hHeld => ?_)
        clear hK K hb6
        try simp only [Act.put, List.getElem_toArray, List.getElem_cons_zero, List.getElem_cons_succ, List.setIfInBounds_toArray, List.set_cons_zero, List.set_cons_succ]
        refine wpAnyH_take (i := 14) (v := .int .i64 0) rfl (by kernel_rfl) (by kernel_rfl) (by kernel_rfl) (fun _ _ _ h => h) (Or.inl ⟨by rfl, fun w' hSw => ?_⟩) (by assumption) ?_
        · (try dsimp only at hSw); skip; go_simp
        try simp only [Act.put, List.getElem_toArray, List.getElem_cons_zero, List.getElem_cons_succ, List.setIfInBounds_toArray, List.set_cons_zero, List.set_cons_succ]
        refine wpAnyH_take (i := 15) (v := .int .i64 0) rfl (by kernel_rfl) (by kernel_rfl) (by kernel_rfl) (fun _ _ _ h => h) (Or.inl ⟨by rfl, fun w' hSw => ?_⟩) (by assumption) ?_
        · (try dsimp only at hSw); skip; go_simp; try rfl
        try simp only [Act.put, List.getElem_toArray, List.getElem_cons_zero, List.getElem_cons_succ, List.setIfInBounds_toArray, List.set_cons_zero, List.set_cons_succ]
        refine wpAnyH_take (i := 16) (v := .bool false) rfl (by kernel_rfl) (by kernel_rfl) (by kernel_rfl) (fun _ _ _ h => h) (Or.inl ⟨by rfl, fun w' hSw => ?_⟩) (by assumption) ?_
        · (try dsimp only at hSw); skip; go_simp
        try simp only [Act.put, List.getElem_toArray, List.getElem_cons_zero, List.getElem_cons_succ, List.setIfInBounds_toArray, List.set_cons_zero, List.set_cons_succ]
        refine wpAnyH_take (i := 17) (v := .bool false) rfl (by kernel_rfl) (by kernel_rfl) (by kernel_rfl) (fun _ _ _ h => h) (Or.inl ⟨by rfl, fun w' hSw => ?_⟩) (by assumption) ?_
        · (try dsimp only at hSw); skip; go_simp
        try simp only [Act.put, List.getElem_toArray, List.getElem_cons_zero, List.getElem_cons_succ, List.setIfInBounds_toArray, List.set_cons_zero, List.set_cons_succ]
        refine wpAnyH_done (by kernel_rfl) ?_ _
        have NWz := hide (NWx.below hHeld)
        clear NWx p0 p1 p2 hHeld
        go_wp2
        exact ⟨⟨k + 1, by omega, by go_num, NWz⟩, by simp [intOf]; omega⟩
      · have e : k = N := by omega
        subst e
        go_wp2_with fail
        refine (ok_new NWx.nm).mono ?_
        rintro e w5 ⟨rfl, hb5⟩
        replace NWx := NWx.below hb5
        clear hb5 p0 p1 p2
        obtain ⟨p0, p1, p2⟩ := id NWx.bx
        go_wp2_with fail
        refine (quiet_new NWx.nm).mono ?_
        rintro e w6 ⟨rfl, hb6⟩
        replace NWx := NWx.below hb6
        clear hb6 p0 p1 p2
        obtain ⟨p0, p1, p2⟩ := id NWx.bx
        have HF := hide NWx.bel
        clear NWx
        go_wp2
        go_ret
        exact ⟨rfl, HF.out⟩

end Go.Proofs.YtelknolcneiikaaDoor
