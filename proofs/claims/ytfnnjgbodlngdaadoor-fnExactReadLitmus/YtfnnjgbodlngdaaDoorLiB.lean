/- litmus tests: not too large, copied, compared, opened (written by mkLiB.py) -/
import Derived.Test.YtfnnjgbodlngdaaDoorLiL
import Derived.WalkKit
import Derived.ProofKit
import Derived.OpenShut
import Derived.ShutString
import Derived.ChangeOld
import Derived.Below
import Derived.OpenVars
import Derived.Deep.SlicePairs
namespace Go.Proofs.YtfnnjgbodlngdaaDoor
open Go.RowKit
open Go.ChangeShapes Go.WideShapes Go.ChangeAt Go.WideMaps Go.WideElems
set_option linter.unusedVariables false
set_option linter.unusedSimpArgs false

set_option maxHeartbeats 400000 in
theorem szA_no (sa : Option Addr) (sn sc : Nat) (left : Int) (w : World) (h0 : 0 ≤ left) (hm : left ≤ 1048576) (hL : (sn : Int) ≤ 9223372036854775807) (h : left < sn) :
    Calls Tryd.prog 47 #[.slice sa sn sc, .int .i64 left] w fun e w' => e = .returned (.int .i64 (-1)) ∧ w' = w := by
  have hw : wrap64 (left - (sn : Int)) = left - sn := Go.IntWalk.wrap64_in _ (by omega)
  have hd : decide (left - (sn : Int) < 0) = true := by simp; omega
  go_enter Tryd.func47, Tryd.ntmps47
  go_wp2
  go_ret
  exact ⟨rfl, rfl⟩
set_option maxHeartbeats 400000 in
theorem szA_yes (sa : Option Addr) (sn sc : Nat) (left : Int) (w : World) (h0 : 0 ≤ left) (hm : left ≤ 1048576) (h : (sn : Int) ≤ left) :
    Calls Tryd.prog 47 #[.slice sa sn sc, .int .i64 left] w fun e w' => e = .returned (.int .i64 (left - sn)) ∧ w' = w := by
  have hw : wrap64 (left - (sn : Int)) = left - sn := Go.IntWalk.wrap64_in _ (by omega)
  have hd : decide (left - (sn : Int) < 0) = false := by simp; omega
  go_enter Tryd.func47, Tryd.ntmps47
  go_wp2
  go_ret
  exact ⟨rfl, rfl⟩

set_option maxHeartbeats 2000000 in
theorem szBActSS_any (v : Value) (C : Nat) (L : Nat → Nat) (F : Nat → Nat → Nat → Int) (left : Int) (w : World) (h0 : 0 ≤ left) (hm : left ≤ 1048576) (hs : Sa w v C L F) (hC : (C : Int) ≤ 9223372036854775807) (hL : ∀ c, c < C → (L c : Int) ≤ 9223372036854775807) :
    Calls Tryd.prog 20 #[v, .int .i64 left] w fun e w' => ∃ r : Int, e = .returned (.int .i64 r) ∧ (-1 ≤ r ∧ r ≤ left) ∧ (0 ≤ r → C ≤ 1048576 ∧ ∀ c, c < C → L c ≤ 1048576) ∧ Below w.heap.size w w' := by
  obtain ⟨ad, cap, rfl, hs⟩ := hs
  have hw : wrap64 (left - (C : Int)) = left - C := Go.IntWalk.wrap64_in _ (by omega)
  by_cases h : left < C
  · have hd : decide (left - (C : Int) < 0) = true := by simp; omega
    clear hs
    go_enter Tryd.func20, Tryd.ntmps20
    go_wp2
    go_ret
    exact ⟨-1, rfl, by omega, fun h => by omega, Below.refl _ _⟩
  · have hd : decide (left - (C : Int) < 0) = false := by simp; omega
    go_enter Tryd.func20, Tryd.ntmps20
    go_wp2
    clear hw hd
    go_loopw [1, 5] (fun l i wr => ∃ (k : Nat) (r : Int), k ≤ C ∧ i = .int .i64 k ∧ l = .int .i64 r ∧ 0 ≤ r ∧ r ≤ left ∧ Below w.heap.size w wr ∧ Hid (∀ c, c < k → L c ≤ 1048576)) (fun _ i _ => C - (intOf i).toNat)
    case atStart => exact ⟨0, left - C, Nat.zero_le _, rfl, rfl, by omega, by omega, Below.refl _ _, hide fun c hc => by omega⟩
    case round =>
      obtain ⟨k, r, hk, rfl, rfl, hr0, hrl, hbk, HK⟩ := hrel
      by_cases hlt : k < C
      · obtain ⟨p, off, rfl, hc⟩ := hs (by omega)
        obtain ⟨ia, ic, q0', hr⟩ := hc k hlt
        have q0 : wr.cell? ⟨p, off + k, none⟩ = some (.slice ia (L k) ic) := Below.keep hbk _ _ q0'
        have hLk := hL k hlt
        have hk0 : (0 : Int) ≤ (k : Int) := by omega
        have hk1 : (k : Int) < (C : Int) := by omega
        clear hs hc q0' hr
        by_cases hx : r < L k
        · go_wp2_with fail
          refine (szA_no ia (L k) ic r _ hr0 (by omega) hLk hx).mono ?_
          rintro e w2 ⟨rfl, rfl⟩
          go_wp2
          go_ret
          exact ⟨-1, rfl, by omega, fun h => by omega, hbk⟩
        · have hd : decide (r - (L k : Int) < 0) = false := by simp; omega
          have HK2 : Hid (∀ c, c < k + 1 → L c ≤ 1048576) := hide (fun c hc => by
            by_cases e : c = k
            · subst e; omega
            · exact HK.out c (by omega))
          go_wp2_with fail
          refine (szA_yes ia (L k) ic r _ hr0 (by omega) (by omega)).mono ?_
          rintro e w2 ⟨rfl, rfl⟩
          go_wp2
          go_roundw
          case rel => exact ⟨k + 1, r - L k, by omega, by go_num, rfl, by omega, by omega, hbk, HK2⟩
          case measure => simp [intOf]; omega
      · clear hs
        go_wp2
        go_ret
        exact ⟨r, rfl, by omega, fun _ => ⟨by omega, fun c hc => HK.out c (by omega)⟩, hbk⟩

set_option maxHeartbeats 1000000 in
theorem szLitmus_any (v : Value) (N : Nat) (L : Nat → Nat) (F : Nat → Nat → Nat → Int) (w : World) (hs : Sa w v N L F) (hN : (N : Int) ≤ 9223372036854775807) (hG : ∀ c, c < N → (L c : Int) ≤ 9223372036854775807) :
    Calls Tryd.prog 6 #[.agg #[v], .int .i64 1048576] w fun e w' => ∃ r : Int, e = .returned (.int .i64 r) ∧ (0 ≤ r → (N ≤ 1048576 ∧ ∀ c, c < N → L c ≤ 1048576) ∧ r ≤ 1048576) ∧ Below w.heap.size w w' := by
  have hB : Below w.heap.size w (w.alloc (.cells #[v] 24)) := (Below.refl _ _).alloc (Nat.le_refl _) _
  have HV := hide (hs.below hB)
  obtain ⟨ad, cap, rfl, _⟩ := hs
  go_enter Tryd.func6, Tryd.ntmps6
  go_wp2_with fail
  refine (szBActSS_any _ N L F 1048576 _ (by decide) (by decide) HV.out hN hG).mono ?_
  rintro e w1 ⟨r, rfl, hr, hp, hb1⟩
  have HB := hide (hB.trans (hb1.mono hB.size))
  clear hb1 hB HV
  by_cases hx : r < 0
  · go_wp2
    go_ret
    exact ⟨-1, rfl, fun h => by omega, HB.out⟩
  · go_wp2
    go_ret
    exact ⟨r, rfl, fun h => ⟨hp h, by omega⟩, HB.out⟩

theorem Oas.set {w : World} {g C k B i : Nat} {L : Nat → Nat} {F : Nat → Nat → Nat → Int} {v : Value} (h : Oas w g C k L F) (hB : B < g) : Oas (w.setCell ⟨B, i, none⟩ v) g C k L F := by
  obtain ⟨cur, h1, h2, h3⟩ := h
  refine ⟨cur, (heap_setCell_other _ _ _ _ (show g ≠ B by omega)).trans h1, h2, fun c hc => ?_⟩
  obtain ⟨ib, a, b, d⟩ := h3 c hc
  exact ⟨ib, a, b, d.set (show B ≠ ib by omega)⟩

set_option maxHeartbeats 2000000 in
theorem toLitmus_any (v : Value) (n : Nat) (L : Nat → Nat) (F : Nat → Nat → Nat → Int) (w : World) (hs : Sa w v n L F) (hb : n ≤ 1048576) (hL : ∀ c, c < n → L c ≤ 1048576) :
    Calls Tryd.prog 8 #[.agg #[v]] w fun e w' => ∃ g, e = .returned (.agg #[.slice (some ⟨g, 0, none⟩) n n]) ∧ Oas w' g n n L F ∧ w.heap.size < g ∧ Below w.heap.size w w' := by
  have HV := hide hs
  obtain ⟨ad, cap, rfl, _⟩ := hs
  go_enter Tryd.func8, Tryd.ntmps8
  go_wp2_with fail
  generalize hW : World.alloc _ _ = W
  have hbW : Below w.heap.size w W := by
    rw [← hW]
    exact (((Below.refl _ _).alloc (Nat.le_refl _) _).alloc (by simp) _).alloc (by simp; omega) _
  have hsz : W.heap.size = w.heap.size + 1 + 1 + 1 := by rw [← hW]; simp
  have k0 : W.heap[w.heap.size + 1]? = some (.cells #[.slice none 0 0] 29 (0, 0)) := by
    rw [← hW, Below.heap_alloc _ _ _ (by simp)]
    have := heap_alloc_new (w.alloc (.cells #[.slice ad n cap] 24)) (.cells #[.slice none 0 0] 29)
    simpa only [World.size_alloc] using this
  have k1 : W.heap[w.heap.size + 1 + 1]? = some (.cells #[.slice none 0 0] 29 (0, 0)) := by
    rw [← hW]
    have := heap_alloc_new ((w.alloc (.cells #[.slice ad n cap] 24)).alloc (.cells #[.slice none 0 0] 29)) (.cells #[.slice none 0 0] 29)
    simpa only [World.size_alloc] using this
  clear hW
  refine (toBActSS_any _ n L F _ (HV.out.below hbW) hb hL).mono ?_
  rintro e w2 ⟨g, rfl, hg, ho, hb2⟩
  have d0 := (hb2.block (w.heap.size + 1) (by omega)).trans k0
  have d1 := (hb2.block (w.heap.size + 1 + 1) (by omega)).trans k1
  have f0 := fun i => frozen_of_row _ _ i _ _ d0
  have f1 := fun i => frozen_of_row _ _ i _ _ d1
  have x0 := cell_of_row _ _ 0 _ _ _ d0
  have y0 := cell_of_row _ _ 0 _ _ _ d1
  simp at x0 y0
  have hB := hbW.trans (hb2.mono hbW.size)
  have HC := hide ho
  have HB := hide hB
  clear hB hb2 ho d0 d1 k0 k1 hbW HV
  go_wp2
  refine bodyPost_ret (v := .agg #[.slice (some ⟨g, 0, none⟩) n n]) (by simp [results, Tryd.results8, go_sem, x0, y0]) rfl ⟨g, rfl, ?_, by omega, ?_⟩
  · exact (HC.out.set (by omega)).set (by omega)
  · exact (HB.out.setCell (by simp; omega) _).setCell (by simp) _

set_option maxHeartbeats 1000000 in
theorem eqLitmus_same (a b : Value) (n : Nat) (L : Nat → Nat) (F : Nat → Nat → Nat → Int) (w : World) (ha : Sa w a n L F) (hb : Sa w b n L F) (hl : n ≤ 1048576) (hL : ∀ c, c < n → L c ≤ 1048576) :
    Calls Tryd.prog 10 #[.agg #[a], .agg #[b]] w fun e w' => e = .returned (.bool true) ∧ Below w.heap.size w w' := by
  have hB : ∀ o1 o2 : Obj, Below w.heap.size w ((w.alloc o1).alloc o2) := fun o1 o2 => ((Below.refl _ _).alloc (Nat.le_refl _) _).alloc (by simp) _
  have HA := hide ha
  have HX := hide hb
  obtain ⟨ad, cap, rfl, _⟩ := ha
  obtain ⟨bd, cbp, rfl, _⟩ := hb
  go_enter Tryd.func10, Tryd.ntmps10
  go_wp2_with fail
  refine (eqBActSS_same _ _ n L F _ (HA.out.below (hB _ _)) (HX.out.below (hB _ _)) hl hL).mono ?_
  rintro e w2 ⟨rfl, hb2⟩
  have HB := hide ((hB _ _).trans (hb2.mono (hB _ _).size))
  clear hb2 hB HA HX
  go_wp2
  go_ret
  exact ⟨rfl, HB.out⟩

theorem addr_none (b o n : Nat) : (⟨b, o, none⟩ : Addr).add n = ⟨b, o + n, none⟩ := by
  by_cases h : n = 0 <;> simp [Addr.add, h]

set_option maxRecDepth 100000 in
theorem open_acts {W : World} {H : Type} {enc : TypeId × Value → H} {base : Nat} {spare : Nat → Bool} {held : Bool} {fuel : Nat} {cs : List Value} {x : DataW H × List MemPlace} (h : DataW.trod enc Tryd.prog W base spare held fuel 81 cs = some x) :
    ∃ (qa : Option Addr) (qn qc : Nat) (f : Nat → Nat → Int), cs = [.slice qa qn qc] ∧ Sr W (.slice qa qn qc) 5 qn f ∧ qn ≤ maxLen := by
  have ce : Tryd.prog.cellsOf 116 = 5 := by kernel_rfl
  have c1 : Tryd.prog.cellsOf 2 = 1 := by kernel_rfl
  rcases Go.Deep.open_slice Tryd.underlying81 h with ⟨rfl, _⟩ | ⟨a, len, cap, m, n, D, Pl, rfl, _, hlc, hcm, hmm, _, hx⟩
  · exact ⟨none, 0, 0, fun _ _ => 0, rfl, ⟨none, 0, rfl, fun hp => absurd hp (by simp)⟩, Nat.zero_le _⟩
  · have hlm : len ≤ m := by rw [hmm]; split <;> omega
    obtain ⟨ab, ao, spot⟩ := a
    refine ⟨_, len, cap, fun i j => intOf ((W.cell? ⟨ab, ao + i * 5 + j, none⟩).getD undef), rfl, ⟨_, cap, rfl, fun hp => ?_⟩, by omega⟩
    have each : ∀ i, i < len → ∀ j, j < 5 → ∃ k : Int, W.cell? (((⟨ab, ao, spot⟩ : Addr).add (i * 5)).add j) = some (.int .i64 k) := by
      intro i hi
      obtain ⟨cs', h1, h2⟩ := hx i (by omega)
      rw [ce] at h1
      obtain ⟨_, hlen, hcell⟩ := World.cells?_some h1
      obtain ⟨xs, k, _, _, _, hxl, hf⟩ := DataW.trod_struct Tryd.underlying116 h2
      match xs, hxl, cs', hlen with
      | [y0, y1, y2, y3, y4], _, [v0, v1, v2, v3, v4], _ =>
        have g0 : DataW.trod enc Tryd.prog W base spare held k 2 (List.take (Tryd.prog.cellsOf 2) (List.drop 0 [v0, v1, v2, v3, v4])) = some y0 := hf 0 _ rfl
        have g1 : DataW.trod enc Tryd.prog W base spare held k 2 (List.take (Tryd.prog.cellsOf 2) (List.drop 1 [v0, v1, v2, v3, v4])) = some y1 := hf 1 _ rfl
        have g2 : DataW.trod enc Tryd.prog W base spare held k 2 (List.take (Tryd.prog.cellsOf 2) (List.drop 2 [v0, v1, v2, v3, v4])) = some y2 := hf 2 _ rfl
        have g3 : DataW.trod enc Tryd.prog W base spare held k 2 (List.take (Tryd.prog.cellsOf 2) (List.drop 3 [v0, v1, v2, v3, v4])) = some y3 := hf 3 _ rfl
        have g4 : DataW.trod enc Tryd.prog W base spare held k 2 (List.take (Tryd.prog.cellsOf 2) (List.drop 4 [v0, v1, v2, v3, v4])) = some y4 := hf 4 _ rfl
        rw [c1] at g0 g1 g2 g3 g4
        obtain ⟨k0, e0, _⟩ := DataW.trod_int Tryd.underlying2 g0
        obtain ⟨k1, e1, _⟩ := DataW.trod_int Tryd.underlying2 g1
        obtain ⟨k2, e2, _⟩ := DataW.trod_int Tryd.underlying2 g2
        obtain ⟨k3, e3, _⟩ := DataW.trod_int Tryd.underlying2 g3
        obtain ⟨k4, e4, _⟩ := DataW.trod_int Tryd.underlying2 g4
        simp at e0 e1 e2 e3 e4
        subst e0 e1 e2 e3 e4
        intro j hj
        have hj2 := hcell j hj
        match j, hj with
        | 0, _ => exact ⟨k0, by simpa using hj2⟩
        | 1, _ => exact ⟨k1, by simpa using hj2⟩
        | 2, _ => exact ⟨k2, by simpa using hj2⟩
        | 3, _ => exact ⟨k3, by simpa using hj2⟩
        | 4, _ => exact ⟨k4, by simpa using hj2⟩
    obtain ⟨k0, hk0⟩ := each 0 hp 0 (by decide)
    have hspot : spot = none := by simpa [Addr.add] using World.cell?_spot hk0
    subst hspot
    refine ⟨ab, ao, rfl, fun j hj i hi => ?_⟩
    obtain ⟨k, hk⟩ := each j hj i hi
    rw [addr_none, addr_none] at hk
    simp [hk, intOf]

set_option maxRecDepth 100000 in
theorem open_actss {W : World} {H : Type} {enc : TypeId × Value → H} {base : Nat} {spare : Nat → Bool} {held : Bool} {fuel : Nat} {cs : List Value} {x : DataW H × List MemPlace} (h : DataW.trod enc Tryd.prog W base spare held fuel 22 cs = some x) :
    ∃ (sa : Option Addr) (C sc : Nat) (L : Nat → Nat) (F : Nat → Nat → Nat → Int), cs = [.slice sa C sc] ∧ Sa W (.slice sa C sc) C L F ∧ C ≤ maxLen ∧ ∀ c, c < C → L c ≤ maxLen := by
  rcases Go.Deep.open_slice1 Tryd.underlying22 (by kernel_rfl) h with ⟨rfl, _⟩ | ⟨a, len, cap, m, n, V, D, Pl, rfl, _, hlc, hcm, hmm, _, hx⟩
  · exact ⟨none, 0, 0, fun _ => 0, fun _ _ _ => 0, rfl, ⟨none, 0, rfl, fun hp => absurd hp (by simp)⟩, Nat.zero_le _, fun c hc => absurd hc (by simp)⟩
  · have hlm : len ≤ m := by rw [hmm]; split <;> omega
    have each : ∀ c, ∃ q : Nat × (Nat → Nat → Int), c < len → q.1 ≤ maxLen ∧ ∃ ia ic, W.cell? (a.add c) = some (.slice ia q.1 ic) ∧ Sr W (.slice ia q.1 ic) 5 q.1 q.2 := by
      intro c
      by_cases hc : c < len
      · obtain ⟨h1, h2⟩ := hx c (by omega)
        obtain ⟨qa, qn, qc, f, e, hs, hq⟩ := open_acts h2
        simp at e
        exact ⟨(qn, f), fun _ => ⟨hq, qa, qc, by rw [h1, e], hs⟩⟩
      · exact ⟨(0, fun _ _ => 0), fun h => absurd h hc⟩
    obtain ⟨q, hq⟩ := Classical.axiomOfChoice each
    obtain ⟨ab, ao, spot⟩ := a
    refine ⟨_, len, cap, fun c => (q c).1, fun c => (q c).2, rfl, ⟨_, cap, rfl, fun hp => ?_⟩, by omega, fun c hc => (hq c hc).1⟩
    obtain ⟨_, _, _, hk0, _⟩ := hq 0 hp
    have hspot : spot = none := by simpa [Addr.add] using World.cell?_spot hk0
    subst hspot
    refine ⟨ab, ao, rfl, fun c hc => ?_⟩
    obtain ⟨_, ia, ic, h1, h2⟩ := hq c hc
    exact ⟨ia, ic, by rw [← addr_none]; exact h1, h2⟩

set_option maxRecDepth 100000 in
theorem open_litmus {W : World} {H : Type} {enc : TypeId × Value → H} {base b0 : Nat} {spare : Nat → Bool} {held : Bool} {r : Reach} {v : Value} {d : DataW H} {p : List MemPlace} (hv : Value.okWide Tryd.prog W r b0 24 v) (h : DataW.Trod enc Tryd.prog W base spare held 24 v d p) :
    ∃ (u : Value) (N : Nat) (L : Nat → Nat) (F : Nat → Nat → Nat → Int), v = .agg #[u] ∧ Sa W u N L F ∧ N ≤ maxLen ∧ ∀ c, c < N → L c ≤ maxLen := by
  obtain ⟨cs, rfl, hsz⟩ := okWide_struct Tryd.underlying24 hv
  obtain ⟨fuel, hf⟩ := h
  obtain ⟨xs, n, _, _, hl, hlen, hg⟩ := DataW.trod_struct Tryd.underlying24 hf
  have c3 : Tryd.prog.cellsOf 24 = 1 := by kernel_rfl
  have cA : Tryd.prog.cellsOf 22 = 1 := by kernel_rfl
  rw [c3] at hsz
  obtain ⟨l⟩ := cs
  match l, hsz with
  | [b0], _ =>
    match xs, hlen with
    | [x0], _ =>
      have g0 : DataW.trod enc Tryd.prog W base spare held n 22 (List.take (Tryd.prog.cellsOf 22) (List.drop 0 [b0])) = some x0 := hg 0 _ rfl
      rw [cA] at g0
      obtain ⟨la, N, lc, L, F, e0, h0, hN, hL⟩ := open_actss g0
      simp at e0
      subst e0
      exact ⟨_, N, L, F, rfl, h0, hN, hL⟩

end Go.Proofs.YtfnnjgbodlngdaaDoor
