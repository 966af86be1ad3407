/- a cache measured: szWayS, szCSet, szCSetS, szCache; a cache opened -/
import Derived.Test.YtcbadkljmcpghaaCaD
import Derived.WalkKit
import Derived.ProofKit
import Derived.OpenShut
import Derived.ShutString
import Derived.ChangeOld
import Derived.Below
import Derived.OpenVars
import Derived.Deep.SlicePairs
namespace Go.Proofs.Ytcbadkljmcpghaa
open Go.ChangeShapes Go.WideShapes Go.ChangeAt Go.WideMaps Go.WideElems Go.RowKit
set_option linter.unusedVariables false
set_option linter.unusedSimpArgs false

set_option maxHeartbeats 1000000 in
theorem szWayS_any (ia : Option Addr) (n ic : Nat) (left : Int) (w : World) (h0 : 0 ≤ left) (hm : left ≤ 1048576) (hn : (n : Int) ≤ 9223372036854775807) :
    Calls Try.prog 81 #[.slice ia n ic, .int .i64 left] w fun e w' => ∃ r : Int, e = .returned (.int .i64 r) ∧ (-1 ≤ r ∧ r ≤ left) ∧ (0 ≤ r → n ≤ 1048576) ∧ w' = w := by
  have hw : wrap64 (left - (n : Int)) = left - n := Go.IntWalk.wrap64_in _ (by omega)
  by_cases h : left < n
  · have hd : decide (left - (n : Int) < 0) = true := by simp; omega
    go_enter Try.func81, Try.ntmps81
    go_wp2
    go_ret
    exact ⟨-1, rfl, by omega, fun h => by omega, rfl⟩
  · have hd : decide (left - (n : Int) < 0) = false := by simp; omega
    go_enter Try.func81, Try.ntmps81
    go_wp2
    go_ret
    exact ⟨_, rfl, by omega, fun h => by omega, rfl⟩

set_option maxHeartbeats 1000000 in
theorem szCSet_any (b : Int) (ia : Option Addr) (n ic : Nat) (left : Int) (w : World) (h0 : 0 ≤ left) (hm : left ≤ 1048576) (hn : (n : Int) ≤ 9223372036854775807) :
    Calls Try.prog 76 #[.agg #[.int .i64 b, .slice ia n ic], .int .i64 left] w fun e w' => ∃ r : Int, e = .returned (.int .i64 r) ∧ (-1 ≤ r ∧ r ≤ left) ∧ (0 ≤ r → n ≤ 1048576) ∧ Below w.heap.size w w' := by
  have hB := hide ((Below.refl w.heap.size w).alloc (Nat.le_refl _) (.cells #[.int .i64 b, .slice ia n ic] 95))
  go_enter Try.func76, Try.ntmps76
  go_wp2_with fail
  refine (szWayS_any ia n ic left _ h0 hm hn).mono ?_
  rintro e w1 ⟨r, rfl, hr, hp, rfl⟩
  by_cases hx : r < 0
  · go_wp2
    go_ret
    exact ⟨-1, rfl, by omega, fun h => by omega, hB.out⟩
  · go_wp2
    go_ret
    exact ⟨r, rfl, hr, hp, hB.out⟩

set_option maxHeartbeats 2000000 in
theorem szCSetS_any (v : Value) (N : Nat) (L : Nat → Nat) (D : Nat → Sm) (left : Int) (w : World) (h0 : 0 ≤ left) (hm : left ≤ 1048576) (hs : Cv w v N L D) (hN : (N : Int) ≤ 9223372036854775807) (hG : ∀ c, c < N → (L c : Int) ≤ 9223372036854775807) :
    Calls Try.prog 59 #[v, .int .i64 left] w fun e w' => ∃ r : Int, e = .returned (.int .i64 r) ∧ (-1 ≤ r ∧ r ≤ left) ∧ (0 ≤ r → N ≤ 1048576 ∧ ∀ c, c < N → L c ≤ 1048576) ∧ Below w.heap.size w w' := by
  obtain ⟨ad, cap, rfl, hs⟩ := hs
  have hw : wrap64 (left - (N : Int)) = left - N := Go.IntWalk.wrap64_in _ (by omega)
  by_cases h : left < N
  · have hd : decide (left - (N : Int) < 0) = true := by simp; omega
    clear hs
    go_enter Try.func59, Try.ntmps59
    go_wp2
    go_ret
    exact ⟨-1, rfl, by omega, fun h => by omega, Below.refl _ _⟩
  · have hd : decide (left - (N : Int) < 0) = false := by simp; omega
    go_enter Try.func59, Try.ntmps59
    go_wp2
    clear hw hd
    go_loopw [1, 5] (fun l i wr => ∃ (k : Nat) (r : Int), k ≤ N ∧ i = .int .i64 k ∧ l = .int .i64 r ∧ 0 ≤ r ∧ r ≤ left ∧ Below w.heap.size w wr ∧ Hid (∀ c, c < k → L c ≤ 1048576)) (fun _ i _ => N - (intOf i).toNat)
    case atStart => exact ⟨0, left - N, Nat.zero_le _, rfl, rfl, by omega, by omega, Below.refl _ _, hide fun c hc => by omega⟩
    case round =>
      obtain ⟨k, r, hk, rfl, rfl, hr0, hrl, hbk, HK⟩ := hrel
      by_cases hlt : k < N
      · obtain ⟨p, off, rfl, hc⟩ := hs (by omega)
        obtain ⟨ia, ic, q0, q1, _⟩ := hc k hlt
        have c0 := Below.keep hbk _ _ q0
        have c1 := Below.keep hbk _ _ q1
        have hL1 := hG k hlt
        have hk0 : (0 : Int) ≤ (k : Int) := by omega
        have hk1 : (k : Int) < (N : Int) := by omega
        clear hs hc q0 q1
        go_wp2_with fail
        refine (szCSet_any _ _ _ _ r _ hr0 (by omega) hL1).mono ?_
        rintro e w2 ⟨r2, rfl, hr2, hr3, hb2⟩
        have hbw := hbk.trans (hb2.mono hbk.size)
        clear hb2 c0 c1
        by_cases hx : r2 < 0
        · go_wp2
          go_ret
          exact ⟨-1, rfl, by omega, fun h => by omega, hbw⟩
        · have HK2 : Hid (∀ c, c < k + 1 → L c ≤ 1048576) := hide (fun c hc => by
            by_cases e : c = k
            · subst e; exact hr3 (by omega)
            · exact HK.out c (by omega))
          clear hr3
          go_wp2
          go_roundw
          case rel => exact ⟨k + 1, r2, by omega, by go_num, rfl, by omega, by omega, hbw, HK2⟩
          case measure => simp [intOf]; omega
      · clear hs
        go_wp2
        go_ret
        exact ⟨r, rfl, by omega, fun _ => ⟨by omega, fun c hc => HK.out c (by omega)⟩, hbk⟩

set_option maxHeartbeats 1000000 in
theorem szCache_any (v : Value) (N : Nat) (L : Nat → Nat) (D : Nat → Sm) (w : World) (hs : Cv w v N L D) (hN : (N : Int) ≤ 9223372036854775807) (hG : ∀ c, c < N → (L c : Int) ≤ 9223372036854775807) :
    Calls Try.prog 26 #[.agg #[v], .int .i64 1048576] w fun e w' => ∃ r : Int, e = .returned (.int .i64 r) ∧ (0 ≤ r → N ≤ 1048576 ∧ ∀ c, c < N → L c ≤ 1048576) ∧ Below w.heap.size w w' := by
  have hB : Below w.heap.size w (w.alloc (.cells #[v] 41)) := (Below.refl _ _).alloc (Nat.le_refl _) _
  have HV := hide (hs.below hB)
  obtain ⟨ad, cap, rfl, _⟩ := hs
  go_enter Try.func26, Try.ntmps26
  go_wp2_with fail
  refine (szCSetS_any _ N L D 1048576 _ (by decide) (by decide) HV.out hN hG).mono ?_
  rintro e w1 ⟨r, rfl, hr, hp, hb1⟩
  have HB := hide (hB.trans (hb1.mono hB.size))
  clear hb1 hB HV
  by_cases hx : r < 0
  · go_wp2
    go_ret
    exact ⟨-1, rfl, fun h => by omega, HB.out⟩
  · go_wp2
    go_ret
    exact ⟨r, rfl, hp, HB.out⟩

theorem addr_none (b o n : Nat) : (⟨b, o, none⟩ : Addr).add n = ⟨b, o + n, none⟩ := by
  by_cases h : n = 0 <;> simp [Addr.add, h]

def boolOf : Value → Bool
  | .bool b => b
  | _ => false

set_option maxRecDepth 100000 in
theorem open_ways {W : World} {H : Type} {enc : TypeId × Value → H} {base : Nat} {spare : Nat → Bool} {held : Bool} {fuel : Nat} {cs : List Value} {x : DataW H × List MemPlace} (bb : Int) (h : DataW.trod enc Try.prog W base spare held fuel 93 cs = some x) :
    ∃ (qa : Option Addr) (qn qc : Nat) (s : Sm), cs = [.slice qa qn qc] ∧ s.b = bb ∧ Ws W (.slice qa qn qc) qn s ∧ qn ≤ maxLen := by
  have ce : Try.prog.cellsOf 109 = 2 := by kernel_rfl
  have c1 : Try.prog.cellsOf 2 = 1 := by kernel_rfl
  have c2 : Try.prog.cellsOf 4 = 1 := by kernel_rfl
  rcases Go.Deep.open_slice Try.underlying93 h with ⟨rfl, _⟩ | ⟨a, len, cap, m, n, D, Pl, rfl, _, hlc, hcm, hmm, _, hx⟩
  · exact ⟨none, 0, 0, ⟨bb, fun _ => false, fun _ => 0⟩, rfl, rfl, ⟨none, 0, rfl, fun hp => absurd hp (by simp)⟩, Nat.zero_le _⟩
  · have hlm : len ≤ m := by rw [hmm]; split <;> omega
    obtain ⟨ab, ao, spot⟩ := a
    refine ⟨_, len, cap, ⟨bb, fun i => boolOf ((W.cell? ⟨ab, ao + i * 2, none⟩).getD undef), fun i => intOf ((W.cell? ⟨ab, ao + i * 2 + 1, none⟩).getD undef)⟩, rfl, rfl, ⟨_, cap, rfl, fun hp => ?_⟩, by omega⟩
    have each : ∀ i, i < len → (∃ k : Bool, W.cell? (((⟨ab, ao, spot⟩ : Addr).add (i * 2)).add 0) = some (.bool k)) ∧ ∃ k : Int, W.cell? (((⟨ab, ao, spot⟩ : Addr).add (i * 2)).add 1) = some (.int .i64 k) := by
      intro i hi
      obtain ⟨cs', h1, h2⟩ := hx i (by omega)
      rw [ce] at h1
      obtain ⟨_, hlen, hcell⟩ := World.cells?_some h1
      obtain ⟨xs, k, _, _, _, hxl, hf⟩ := DataW.trod_struct Try.underlying109 h2
      match xs, hxl, cs', hlen with
      | [y0, y1], _, [v0, v1], _ =>
        have g0 : DataW.trod enc Try.prog W base spare held k 4 (List.take (Try.prog.cellsOf 4) (List.drop 0 [v0, v1])) = some y0 := hf 0 _ rfl
        have g1 : DataW.trod enc Try.prog W base spare held k 2 (List.take (Try.prog.cellsOf 2) (List.drop 1 [v0, v1])) = some y1 := hf 1 _ rfl
        rw [c2] at g0
        rw [c1] at g1
        obtain ⟨k0, e0, _⟩ := DataW.trod_bool Try.underlying4 g0
        obtain ⟨k1, e1, _⟩ := DataW.trod_int Try.underlying2 g1
        simp at e0 e1
        subst e0 e1
        exact ⟨⟨k0, by simpa using hcell 0 (by omega)⟩, ⟨k1, by simpa using hcell 1 (by omega)⟩⟩
    obtain ⟨⟨k0, hk0⟩, _⟩ := each 0 hp
    have hspot : spot = none := by simpa [Addr.add] using World.cell?_spot hk0
    subst hspot
    refine ⟨ab, ao, rfl, fun j hj => ?_⟩
    obtain ⟨⟨k, hk⟩, ⟨k', hk'⟩⟩ := each j hj
    rw [addr_none, addr_none] at hk hk'
    rw [Nat.add_zero] at hk
    refine ⟨?_, ?_⟩
    · simp [hk, boolOf]
    · simp [hk', intOf]

set_option maxRecDepth 100000 in
theorem open_sets {W : World} {H : Type} {enc : TypeId × Value → H} {base : Nat} {spare : Nat → Bool} {held : Bool} {fuel : Nat} {cs : List Value} {x : DataW H × List MemPlace} (h : DataW.trod enc Try.prog W base spare held fuel 39 cs = some x) :
    ∃ (la : Option Addr) (N lc : Nat) (L : Nat → Nat) (D : Nat → Sm), cs = [.slice la N lc] ∧ Cv W (.slice la N lc) N L D ∧ N ≤ maxLen ∧ ∀ c, c < N → L c ≤ maxLen := by
  have ce : Try.prog.cellsOf 95 = 2 := by kernel_rfl
  have c1 : Try.prog.cellsOf 2 = 1 := by kernel_rfl
  have cS : Try.prog.cellsOf 93 = 1 := by kernel_rfl
  rcases Go.Deep.open_slice Try.underlying39 h with ⟨rfl, _⟩ | ⟨a, len, cap, m, n, D, Pl, rfl, _, hlc, hcm, hmm, _, hx⟩
  · exact ⟨none, 0, 0, fun _ => 0, fun _ => ⟨0, fun _ => false, fun _ => 0⟩, rfl, ⟨none, 0, rfl, fun hp => absurd hp (by simp)⟩, Nat.zero_le _, fun c hc => absurd hc (by simp)⟩
  · have hlm : len ≤ m := by rw [hmm]; split <;> omega
    have each : ∀ i, ∃ q : Nat × Sm, i < len → q.1 ≤ maxLen ∧ ∃ ia ic, W.cell? ((a.add (i * 2)).add 0) = some (.int .i64 q.2.b) ∧ W.cell? ((a.add (i * 2)).add 1) = some (.slice ia q.1 ic) ∧ Ws W (.slice ia q.1 ic) q.1 q.2 := by
      intro i
      by_cases hi : i < len
      · obtain ⟨cs', h1, h2⟩ := hx i (by omega)
        rw [ce] at h1
        obtain ⟨_, hlen, hcell⟩ := World.cells?_some h1
        obtain ⟨xs, k, _, _, _, hxl, hf⟩ := DataW.trod_struct Try.underlying95 h2
        match xs, hxl, cs', hlen with
        | [y0, y1], _, [v0, v1], _ =>
          have g0 : DataW.trod enc Try.prog W base spare held k 2 (List.take (Try.prog.cellsOf 2) (List.drop 0 [v0, v1])) = some y0 := hf 0 _ rfl
          have g1 : DataW.trod enc Try.prog W base spare held k 93 (List.take (Try.prog.cellsOf 93) (List.drop 1 [v0, v1])) = some y1 := hf 1 _ rfl
          rw [c1] at g0
          rw [cS] at g1
          obtain ⟨k0, e0, _⟩ := DataW.trod_int Try.underlying2 g0
          obtain ⟨qa, qn, qc, s, e1, hsb, hS, hq⟩ := open_ways k0 g1
          simp at e0 e1
          subst e0 e1
          exact ⟨(qn, s), fun _ => ⟨hq, qa, qc, by rw [hsb]; simpa using hcell 0 (by omega), by simpa using hcell 1 (by omega), hS⟩⟩
      · exact ⟨(0, ⟨0, fun _ => false, fun _ => 0⟩), fun h => absurd h hi⟩
    obtain ⟨q, hq⟩ := Classical.axiomOfChoice each
    obtain ⟨ab, ao, spot⟩ := a
    refine ⟨_, len, cap, fun c => (q c).1, fun c => (q c).2, rfl, ⟨_, cap, rfl, fun hp => ?_⟩, by omega, fun c hc => (hq c hc).1⟩
    have hspot : spot = none := by
      obtain ⟨_, _, _, hk0, _⟩ := hq 0 hp
      simpa [Addr.add] using World.cell?_spot hk0
    subst hspot
    refine ⟨ab, ao, rfl, fun c hc => ?_⟩
    obtain ⟨_, ia, ic, h1, h2, h3⟩ := hq c hc
    rw [addr_none, addr_none] at h1 h2
    rw [Nat.add_zero] at h1
    exact ⟨ia, ic, h1, h2, h3⟩

set_option maxRecDepth 100000 in
/-- a cache, opened -/
theorem open_cache {W : World} {H : Type} {enc : TypeId × Value → H} {base b0 : Nat} {spare : Nat → Bool} {held : Bool} {r : Reach} {v : Value} {d : DataW H} {p : List MemPlace} (hv : Value.okWide Try.prog W r b0 41 v) (h : DataW.Trod enc Try.prog W base spare held 41 v d p) :
    ∃ (u : Value) (N : Nat) (L : Nat → Nat) (D : Nat → Sm), v = .agg #[u] ∧ Cv W u N L D ∧ N ≤ maxLen ∧ ∀ c, c < N → L c ≤ maxLen := by
  obtain ⟨cs, rfl, hsz⟩ := okWide_struct Try.underlying41 hv
  obtain ⟨fuel, hf⟩ := h
  obtain ⟨xs, n, _, _, hl, hlen, hg⟩ := DataW.trod_struct Try.underlying41 hf
  have c3 : Try.prog.cellsOf 41 = 1 := by kernel_rfl
  have cA : Try.prog.cellsOf 39 = 1 := by kernel_rfl
  rw [c3] at hsz
  obtain ⟨l⟩ := cs
  match l, hsz with
  | [b0], _ =>
    match xs, hlen with
    | [x0], _ =>
      have g0 : DataW.trod enc Try.prog W base spare held n 39 (List.take (Try.prog.cellsOf 39) (List.drop 0 [b0])) = some x0 := hg 0 _ rfl
      rw [cA] at g0
      obtain ⟨la, N, lc, L, D, e0, h0, hN, hL⟩ := open_sets g0
      simp at e0
      subst e0
      exact ⟨_, N, L, D, rfl, h0, hN, hL⟩

end Go.Proofs.Ytcbadkljmcpghaa
