/- rows of lines and a machine, opened (written by mkMsO.py) -/
import Derived.Test.YtfckacabaajnkaaDoorMsN
namespace Go.Proofs.YtfckacabaajnkaaDoor
open Go.ChangeShapes Go.WideShapes Go.ChangeAt Go.WideMaps Go.WideElems Go.RowKit
set_option linter.unusedVariables false
set_option linter.unusedSimpArgs false

theorem open_nums {W : World} {H : Type} {enc : TypeId × Value → H} {base : Nat} {spare : Nat → Bool} {held : Bool} {fuel : Nat} {cs : List Value} {x : DataW H × List MemPlace} (h : DataW.trod enc Tryd.prog W base spare held fuel 28 cs = some x) :
    ∃ (sa : Option Addr) (sc : Nat) (zs : List Int), cs = [.slice sa zs.length sc] ∧ Sl W (.slice sa zs.length sc) zs ∧ zs.length ≤ maxLen := by
  rcases open_ints Tryd.underlying28 Tryd.underlying2 (by kernel_rfl) h with ⟨rfl, _⟩ | ⟨x, l, c, zs, rfl, _, hl, hm, hz, _, hcell, hwz⟩
  · exact ⟨none, 0, [], rfl, ⟨none, 0, rfl, fun hp => absurd hp (by simp)⟩, Nat.zero_le _⟩
  · have hz' : l ≤ zs.length := by rw [hz]; split <;> omega
    obtain ⟨h1, h2⟩ := sl_of_row (w := W) (x := x) (len := l) (cap := c) (z := zs) (by omega) hcell
    refine ⟨some x, c, zs.take l, by rw [h1], by rw [h1]; exact h2, by rw [h1]; omega⟩

set_option maxRecDepth 100000 in
theorem open_lines {W : World} {H : Type} {enc : TypeId × Value → H} {base : Nat} {spare : Nat → Bool} {held : Bool} {fuel : Nat} {cs : List Value} {x : DataW H × List MemPlace} (h : DataW.trod enc Tryd.prog W base spare held fuel 23 cs = some x) :
    ∃ (la : Option Addr) (N lc : Nat) (G : Nat → LnD), cs = [.slice la N lc] ∧ Ls W (.slice la N lc) N G ∧ N ≤ maxLen ∧ ∀ c, c < N → (G c).zs.length ≤ maxLen ∧ (G c).qn ≤ maxLen := by
  have ce : Tryd.prog.cellsOf 82 = 7 := by kernel_rfl
  have c1 : Tryd.prog.cellsOf 2 = 1 := by kernel_rfl
  have cS : Tryd.prog.cellsOf 28 = 1 := by kernel_rfl
  have cQ : Tryd.prog.cellsOf 80 = 1 := by kernel_rfl
  rcases Go.Deep.open_slice Tryd.underlying23 h with ⟨rfl, _⟩ | ⟨a, len, cap, m, n, D, Pl, rfl, _, hlc, hcm, hmm, _, hx⟩
  · exact ⟨none, 0, 0, fun _ => ⟨0, 0, [], 0, 0, 0, 0, fun _ _ => 0⟩, rfl, ⟨none, 0, rfl, fun hp => absurd hp (by simp)⟩, Nat.zero_le _, fun c hc => absurd hc (by simp)⟩
  · have hlm : len ≤ m := by rw [hmm]; split <;> omega
    have each : ∀ i, ∃ l : LnD, i < len → (l.zs.length ≤ maxLen ∧ l.qn ≤ maxLen) ∧ ∃ sa sc qa qc, (∀ j, j < 7 → W.cell? ((a.add (i * 7)).add j) = some ((ln7 l.mem l.ow (.slice sa l.zs.length sc) l.bu l.wt l.ac (.slice qa l.qn qc))[j]!)) ∧ Sl W (.slice sa l.zs.length sc) l.zs ∧ Sr W (.slice qa l.qn qc) 2 l.qn l.f := by
      intro i
      by_cases hi : i < len
      · obtain ⟨cs', h1, h2⟩ := hx i (by omega)
        rw [ce] at h1
        obtain ⟨_, hlen, hcell⟩ := World.cells?_some h1
        obtain ⟨xs, k, _, _, _, hxl, hf⟩ := DataW.trod_struct Tryd.underlying82 h2
        match xs, hxl, cs', hlen with
        | [y0, y1, y2, y3, y4, y5, y6], _, [v0, v1, v2, v3, v4, v5, v6], _ =>
          have g0 : DataW.trod enc Tryd.prog W base spare held k 2 (List.take (Tryd.prog.cellsOf 2) (List.drop 0 [v0, v1, v2, v3, v4, v5, v6])) = some y0 := hf 0 _ rfl
          have g1 : DataW.trod enc Tryd.prog W base spare held k 2 (List.take (Tryd.prog.cellsOf 2) (List.drop 1 [v0, v1, v2, v3, v4, v5, v6])) = some y1 := hf 1 _ rfl
          have g2 : DataW.trod enc Tryd.prog W base spare held k 28 (List.take (Tryd.prog.cellsOf 28) (List.drop 2 [v0, v1, v2, v3, v4, v5, v6])) = some y2 := hf 2 _ rfl
          have g3 : DataW.trod enc Tryd.prog W base spare held k 2 (List.take (Tryd.prog.cellsOf 2) (List.drop 3 [v0, v1, v2, v3, v4, v5, v6])) = some y3 := hf 3 _ rfl
          have g4 : DataW.trod enc Tryd.prog W base spare held k 2 (List.take (Tryd.prog.cellsOf 2) (List.drop 4 [v0, v1, v2, v3, v4, v5, v6])) = some y4 := hf 4 _ rfl
          have g5 : DataW.trod enc Tryd.prog W base spare held k 2 (List.take (Tryd.prog.cellsOf 2) (List.drop 5 [v0, v1, v2, v3, v4, v5, v6])) = some y5 := hf 5 _ rfl
          have g6 : DataW.trod enc Tryd.prog W base spare held k 80 (List.take (Tryd.prog.cellsOf 80) (List.drop 6 [v0, v1, v2, v3, v4, v5, v6])) = some y6 := hf 6 _ rfl
          rw [c1] at g0 g1 g3 g4 g5
          rw [cS] at g2
          rw [cQ] at g6
          obtain ⟨k0, e0, _⟩ := DataW.trod_int Tryd.underlying2 g0
          obtain ⟨k1, e1, _⟩ := DataW.trod_int Tryd.underlying2 g1
          obtain ⟨k3, e3, _⟩ := DataW.trod_int Tryd.underlying2 g3
          obtain ⟨k4, e4, _⟩ := DataW.trod_int Tryd.underlying2 g4
          obtain ⟨k5, e5, _⟩ := DataW.trod_int Tryd.underlying2 g5
          obtain ⟨sa, sc, zs, e2, hS, hz⟩ := open_nums g2
          obtain ⟨qa, qn, qc, f, e6, hQ, hq⟩ := open_reqs g6
          simp at e0 e1 e2 e3 e4 e5 e6
          subst e0 e1 e2 e3 e4 e5 e6
          refine ⟨⟨k0, k1, zs, k3, k4, k5, qn, f⟩, fun _ => ⟨⟨hz, hq⟩, sa, sc, qa, qc, fun j hj => ?_, hS, hQ⟩⟩
          have hj2 := hcell j hj
          match j, hj with
          | 0, _ => simpa using hj2
          | 1, _ => simpa using hj2
          | 2, _ => simpa using hj2
          | 3, _ => simpa using hj2
          | 4, _ => simpa using hj2
          | 5, _ => simpa using hj2
          | 6, _ => simpa using hj2
      · exact ⟨⟨0, 0, [], 0, 0, 0, 0, fun _ _ => 0⟩, fun h => absurd h hi⟩
    obtain ⟨G, hG⟩ := Classical.axiomOfChoice each
    obtain ⟨ab, ao, spot⟩ := a
    refine ⟨_, len, cap, G, rfl, ⟨_, cap, rfl, fun hp => ?_⟩, by omega, fun c hc => (hG c hc).1⟩
    have hspot : spot = none := by
      obtain ⟨_, _, _, _, _, hk0, _⟩ := hG 0 hp
      simpa [Addr.add] using World.cell?_spot (hk0 0 (by decide))
    subst hspot
    refine ⟨ab, ao, rfl, fun c hc => ?_⟩
    obtain ⟨_, sa, sc, qa, qc, h1, h2, h3⟩ := hG c hc
    refine ⟨sa, sc, qa, qc, ⟨?_, ?_, ?_, ?_, ?_, ?_, ?_⟩, h2, h3⟩
    · have := h1 0 (by decide); rw [addr_none, addr_none] at this; simpa using this
    · have := h1 1 (by decide); rw [addr_none, addr_none] at this; simpa using this
    · have := h1 2 (by decide); rw [addr_none, addr_none] at this; simpa using this
    · have := h1 3 (by decide); rw [addr_none, addr_none] at this; simpa using this
    · have := h1 4 (by decide); rw [addr_none, addr_none] at this; simpa using this
    · have := h1 5 (by decide); rw [addr_none, addr_none] at this; simpa using this
    · have := h1 6 (by decide); rw [addr_none, addr_none] at this; simpa using this

set_option maxRecDepth 100000 in
/-- a machine, opened -/
theorem open_machine {W : World} {H : Type} {enc : TypeId × Value → H} {base b0 : Nat} {spare : Nat → Bool} {held : Bool} {r : Reach} {v : Value} {d : DataW H} {p : List MemPlace} (hv : Value.okWide Tryd.prog W r b0 26 v) (h : DataW.Trod enc Tryd.prog W base spare held 26 v d p) :
    ∃ (sa : Option Addr) (C sc : Nat) (la : Option Addr) (N lc : Nat) (qa : Option Addr) (n qc : Nat) (L : Nat → Nat) (F : Nat → Nat → Nat → Int) (G : Nat → LnD) (f : Nat → Nat → Int), v = .agg (mc3 (.slice sa C sc) (.slice la N lc) (.slice qa n qc)) ∧ Ss W (.slice sa C sc) C L F ∧ Ls W (.slice la N lc) N G ∧ Sr W (.slice qa n qc) 6 n f ∧
      (C ≤ maxLen ∧ ∀ c, c < C → L c ≤ maxLen) ∧ (N ≤ maxLen ∧ ∀ c, c < N → (G c).zs.length ≤ maxLen ∧ (G c).qn ≤ maxLen) ∧ n ≤ maxLen := by
  obtain ⟨cs, rfl, hsz⟩ := okWide_struct Tryd.underlying26 hv
  obtain ⟨fuel, hf⟩ := h
  obtain ⟨xs, n, _, _, hl, hlen, hg⟩ := DataW.trod_struct Tryd.underlying26 hf
  have c3 : Tryd.prog.cellsOf 26 = 3 := by kernel_rfl
  have cA : Tryd.prog.cellsOf 22 = 1 := by kernel_rfl
  have cB : Tryd.prog.cellsOf 23 = 1 := by kernel_rfl
  have cC : Tryd.prog.cellsOf 24 = 1 := by kernel_rfl
  rw [c3] at hsz
  obtain ⟨l⟩ := cs
  match l, hsz with
  | [b0, b1, b2], _ =>
    match xs, hlen with
    | [x0, x1, x2], _ =>
      have g0 : DataW.trod enc Tryd.prog W base spare held n 22 (List.take (Tryd.prog.cellsOf 22) (List.drop 0 [b0, b1, b2])) = some x0 := hg 0 _ rfl
      have g1 : DataW.trod enc Tryd.prog W base spare held n 23 (List.take (Tryd.prog.cellsOf 23) (List.drop 1 [b0, b1, b2])) = some x1 := hg 1 _ rfl
      have g2 : DataW.trod enc Tryd.prog W base spare held n 24 (List.take (Tryd.prog.cellsOf 24) (List.drop 2 [b0, b1, b2])) = some x2 := hg 2 _ rfl
      rw [cA] at g0
      rw [cB] at g1
      rw [cC] at g2
      obtain ⟨sa, C, sc, L, F, e0, h0, hC, hL⟩ := open_slotss g0
      obtain ⟨la, N, lc, G, e1, h1, hN, hG⟩ := open_lines g1
      obtain ⟨qa, nn, qc, f, e2, h2, hn⟩ := open_msgs g2
      simp at e0 e1 e2
      subst e0 e1 e2
      exact ⟨sa, C, sc, la, N, lc, qa, nn, qc, L, F, G, f, rfl, h0, h1, h2, ⟨hC, hL⟩, ⟨hN, hG⟩, hn⟩

end Go.Proofs.YtfckacabaajnkaaDoor
