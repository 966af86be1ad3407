/- rows of structs of whole numbers, and rows of rows, opened (written by mkTsD.py) -/
import Derived.Test.YtfnnjgbodlngdaaDoorTsC
import Derived.WalkKit
import Derived.ProofKit
import Derived.OpenShut
import Derived.ShutString
import Derived.ChangeOld
import Derived.Below
import Derived.OpenVars
import Derived.Deep.SlicePairs
namespace Go.Proofs.YtfnnjgbodlngdaaDoor
open Go.ChangeShapes Go.WideShapes Go.ChangeAt Go.WideMaps Go.WideElems Go.RowKit
set_option linter.unusedVariables false
set_option linter.unusedSimpArgs false

theorem addr_none (b o n : Nat) : (⟨b, o, none⟩ : Addr).add n = ⟨b, o + n, none⟩ := by
  by_cases h : n = 0 <;> simp [Addr.add, h]

set_option maxRecDepth 100000 in
theorem open_stores {W : World} {H : Type} {enc : TypeId × Value → H} {base : Nat} {spare : Nat → Bool} {held : Bool} {fuel : Nat} {cs : List Value} {x : DataW H × List MemPlace} (h : DataW.trod enc Tryd.prog W base spare held fuel 101 cs = some x) :
    ∃ (qa : Option Addr) (qn qc : Nat) (f : Nat → Nat → Int), cs = [.slice qa qn qc] ∧ Sr W (.slice qa qn qc) 2 qn f ∧ qn ≤ maxLen := by
  have ce : Tryd.prog.cellsOf 125 = 2 := by kernel_rfl
  have c1 : Tryd.prog.cellsOf 2 = 1 := by kernel_rfl
  rcases Go.Deep.open_slice Tryd.underlying101 h with ⟨rfl, _⟩ | ⟨a, len, cap, m, n, D, Pl, rfl, _, hlc, hcm, hmm, _, hx⟩
  · exact ⟨none, 0, 0, fun _ _ => 0, rfl, ⟨none, 0, rfl, fun hp => absurd hp (by simp)⟩, Nat.zero_le _⟩
  · have hlm : len ≤ m := by rw [hmm]; split <;> omega
    obtain ⟨ab, ao, spot⟩ := a
    refine ⟨_, len, cap, fun i j => intOf ((W.cell? ⟨ab, ao + i * 2 + j, none⟩).getD undef), rfl, ⟨_, cap, rfl, fun hp => ?_⟩, by omega⟩
    have each : ∀ i, i < len → ∀ j, j < 2 → ∃ k : Int, W.cell? (((⟨ab, ao, spot⟩ : Addr).add (i * 2)).add j) = some (.int .i64 k) := by
      intro i hi
      obtain ⟨cs', h1, h2⟩ := hx i (by omega)
      rw [ce] at h1
      obtain ⟨_, hlen, hcell⟩ := World.cells?_some h1
      obtain ⟨xs, k, _, _, _, hxl, hf⟩ := DataW.trod_struct Tryd.underlying125 h2
      match xs, hxl, cs', hlen with
      | [y0, y1], _, [v0, v1], _ =>
        have g0 : DataW.trod enc Tryd.prog W base spare held k 2 (List.take (Tryd.prog.cellsOf 2) (List.drop 0 [v0, v1])) = some y0 := hf 0 _ rfl
        have g1 : DataW.trod enc Tryd.prog W base spare held k 2 (List.take (Tryd.prog.cellsOf 2) (List.drop 1 [v0, v1])) = some y1 := hf 1 _ rfl
        rw [c1] at g0 g1
        obtain ⟨k0, e0, _⟩ := DataW.trod_int Tryd.underlying2 g0
        obtain ⟨k1, e1, _⟩ := DataW.trod_int Tryd.underlying2 g1
        simp at e0 e1
        subst e0 e1
        intro j hj
        have hj2 := hcell j hj
        match j, hj with
        | 0, _ => exact ⟨k0, by simpa using hj2⟩
        | 1, _ => exact ⟨k1, by simpa using hj2⟩
    obtain ⟨k0, hk0⟩ := each 0 hp 0 (by decide)
    have hspot : spot = none := by simpa [Addr.add] using World.cell?_spot hk0
    subst hspot
    refine ⟨ab, ao, rfl, fun j hj i hi => ?_⟩
    obtain ⟨k, hk⟩ := each j hj i hi
    rw [addr_none, addr_none] at hk
    simp [hk, intOf]

set_option maxRecDepth 100000 in
theorem open_storess {W : World} {H : Type} {enc : TypeId × Value → H} {base : Nat} {spare : Nat → Bool} {held : Bool} {fuel : Nat} {cs : List Value} {x : DataW H × List MemPlace} (h : DataW.trod enc Tryd.prog W base spare held fuel 34 cs = some x) :
    ∃ (sa : Option Addr) (C sc : Nat) (L : Nat → Nat) (F : Nat → Nat → Nat → Int), cs = [.slice sa C sc] ∧ Ss W (.slice sa C sc) C L F ∧ C ≤ maxLen ∧ ∀ c, c < C → L c ≤ maxLen := by
  rcases Go.Deep.open_slice1 Tryd.underlying34 (by kernel_rfl) h with ⟨rfl, _⟩ | ⟨a, len, cap, m, n, V, D, Pl, rfl, _, hlc, hcm, hmm, _, hx⟩
  · exact ⟨none, 0, 0, fun _ => 0, fun _ _ _ => 0, rfl, ⟨none, 0, rfl, fun hp => absurd hp (by simp)⟩, Nat.zero_le _, fun c hc => absurd hc (by simp)⟩
  · have hlm : len ≤ m := by rw [hmm]; split <;> omega
    have each : ∀ c, ∃ q : Nat × (Nat → Nat → Int), c < len → q.1 ≤ maxLen ∧ ∃ ia ic, W.cell? (a.add c) = some (.slice ia q.1 ic) ∧ Sr W (.slice ia q.1 ic) 2 q.1 q.2 := by
      intro c
      by_cases hc : c < len
      · obtain ⟨h1, h2⟩ := hx c (by omega)
        obtain ⟨qa, qn, qc, f, e, hs, hq⟩ := open_stores h2
        simp at e
        exact ⟨(qn, f), fun _ => ⟨hq, qa, qc, by rw [h1, e], hs⟩⟩
      · exact ⟨(0, fun _ _ => 0), fun h => absurd h hc⟩
    obtain ⟨q, hq⟩ := Classical.axiomOfChoice each
    obtain ⟨ab, ao, spot⟩ := a
    refine ⟨_, len, cap, fun c => (q c).1, fun c => (q c).2, rfl, ⟨_, cap, rfl, fun hp => ?_⟩, by omega, fun c hc => (hq c hc).1⟩
    obtain ⟨_, _, _, hk0, _⟩ := hq 0 hp
    have hspot : spot = none := by simpa [Addr.add] using World.cell?_spot hk0
    subst hspot
    refine ⟨ab, ao, rfl, fun c hc => ?_⟩
    obtain ⟨_, ia, ic, h1, h2⟩ := hq c hc
    exact ⟨ia, ic, by rw [← addr_none]; exact h1, h2⟩

theorem open_nums {W : World} {H : Type} {enc : TypeId × Value → H} {base : Nat} {spare : Nat → Bool} {held : Bool} {fuel : Nat} {cs : List Value} {x : DataW H × List MemPlace} (h : DataW.trod enc Tryd.prog W base spare held fuel 33 cs = some x) :
    ∃ (qa : Option Addr) (qn qc : Nat) (zs : List Int), cs = [.slice qa qn qc] ∧ zs.length = qn ∧ Sl W (.slice qa qn qc) zs ∧ qn ≤ maxLen := by
  rcases open_ints Tryd.underlying33 Tryd.underlying2 (by kernel_rfl) h with ⟨rfl, _⟩ | ⟨x, l, c, zs, rfl, _, hl, hm, hz, _, hcell, hwz⟩
  · exact ⟨none, 0, 0, [], rfl, rfl, ⟨none, 0, rfl, fun h => absurd h (by simp)⟩, Nat.zero_le _⟩
  · have hz' : l ≤ zs.length := by rw [hz]; split <;> omega
    obtain ⟨h1, h2⟩ := sl_of_row (len := l) (cap := c) (by omega) hcell
    exact ⟨_, l, c, _, rfl, h1, h2, by omega⟩
set_option maxRecDepth 100000 in
theorem open_numss {W : World} {H : Type} {enc : TypeId × Value → H} {base : Nat} {spare : Nat → Bool} {held : Bool} {fuel : Nat} {cs : List Value} {x : DataW H × List MemPlace} (h : DataW.trod enc Tryd.prog W base spare held fuel 35 cs = some x) :
    ∃ (sa : Option Addr) (C sc : Nat) (Z : Nat → List Int), cs = [.slice sa C sc] ∧ Si W (.slice sa C sc) C Z ∧ C ≤ maxLen ∧ ∀ c, c < C → (Z c).length ≤ maxLen := by
  rcases Go.Deep.open_slice1 Tryd.underlying35 (by kernel_rfl) h with ⟨rfl, _⟩ | ⟨a, len, cap, m, n, V, D, Pl, rfl, _, hlc, hcm, hmm, _, hx⟩
  · exact ⟨none, 0, 0, fun _ => [], rfl, ⟨none, 0, rfl, fun hp => absurd hp (by simp)⟩, Nat.zero_le _, fun c hc => absurd hc (by simp)⟩
  · have hlm : len ≤ m := by rw [hmm]; split <;> omega
    have each : ∀ c, ∃ q : List Int, c < len → q.length ≤ maxLen ∧ ∃ ia ic, W.cell? (a.add c) = some (.slice ia q.length ic) ∧ Sl W (.slice ia q.length ic) q := by
      intro c
      by_cases hc : c < len
      · obtain ⟨h1, h2⟩ := hx c (by omega)
        obtain ⟨qa, qn, qc, zs, e, rfl, hs, hq⟩ := open_nums h2
        simp at e
        exact ⟨zs, fun _ => ⟨hq, qa, qc, by rw [h1, e], hs⟩⟩
      · exact ⟨[], fun h => absurd h hc⟩
    obtain ⟨q, hq⟩ := Classical.axiomOfChoice each
    obtain ⟨ab, ao, spot⟩ := a
    refine ⟨_, len, cap, q, rfl, ⟨_, cap, rfl, fun hp => ?_⟩, by omega, fun c hc => (hq c hc).1⟩
    obtain ⟨_, _, _, hk0, _⟩ := hq 0 hp
    have hspot : spot = none := by simpa [Addr.add] using World.cell?_spot hk0
    subst hspot
    refine ⟨ab, ao, rfl, fun c hc => ?_⟩
    obtain ⟨_, ia, ic, h1, h2⟩ := hq c hc
    exact ⟨ia, ic, by rw [← addr_none]; exact h1, h2⟩

set_option maxRecDepth 100000 in
/-- a Tso, opened -/
theorem open_tso {W : World} {H : Type} {enc : TypeId × Value → H} {base b0 : Nat} {spare : Nat → Bool} {held : Bool} {r : Reach} {v : Value} {d : DataW H} {p : List MemPlace} (hv : Value.okWide Tryd.prog W r b0 37 v) (h : DataW.Trod enc Tryd.prog W base spare held 37 v d p) :
    ∃ (mv bv rv : Value) (zs : List Int) (C : Nat) (L : Nat → Nat) (F : Nat → Nat → Nat → Int) (R : Nat) (Z : Nat → List Int), v = .agg #[mv, bv, rv] ∧ Tv W mv bv rv zs C L F R Z ∧ zs.length ≤ maxLen ∧ (C ≤ maxLen ∧ ∀ c, c < C → L c ≤ maxLen) ∧ R ≤ maxLen ∧ ∀ c, c < R → (Z c).length ≤ maxLen := by
  obtain ⟨cs, rfl, hsz⟩ := okWide_struct Tryd.underlying37 hv
  obtain ⟨fuel, hf⟩ := h
  obtain ⟨xs, n, _, _, hl, hlen, hg⟩ := DataW.trod_struct Tryd.underlying37 hf
  have c3 : Tryd.prog.cellsOf 37 = 3 := by kernel_rfl
  have cA : Tryd.prog.cellsOf 33 = 1 := by kernel_rfl
  have cB : Tryd.prog.cellsOf 34 = 1 := by kernel_rfl
  have cC : Tryd.prog.cellsOf 35 = 1 := by kernel_rfl
  rw [c3] at hsz
  obtain ⟨l⟩ := cs
  match l, hsz with
  | [b0, b1, b2], _ =>
    match xs, hlen with
    | [x0, x1, x2], _ =>
      have g0 : DataW.trod enc Tryd.prog W base spare held n 33 (List.take (Tryd.prog.cellsOf 33) (List.drop 0 [b0, b1, b2])) = some x0 := hg 0 _ rfl
      have g1 : DataW.trod enc Tryd.prog W base spare held n 34 (List.take (Tryd.prog.cellsOf 34) (List.drop 1 [b0, b1, b2])) = some x1 := hg 1 _ rfl
      have g2 : DataW.trod enc Tryd.prog W base spare held n 35 (List.take (Tryd.prog.cellsOf 35) (List.drop 2 [b0, b1, b2])) = some x2 := hg 2 _ rfl
      rw [cA] at g0
      rw [cB] at g1
      rw [cC] at g2
      obtain ⟨ma, mn, mc, zs, e0, rfl, h0, hN0⟩ := open_nums g0
      obtain ⟨la, N, lc, L, F, e1, h1, hN, hL⟩ := open_storess g1
      obtain ⟨ra, R, rc, Z, e2, h2, hR, hZ⟩ := open_numss g2
      simp at e0 e1 e2
      subst e0 e1 e2
      exact ⟨_, _, _, zs, N, L, F, R, Z, rfl, ⟨h0, h1, h2⟩, hN0, ⟨hN, hL⟩, hR, hZ⟩

end Go.Proofs.YtfnnjgbodlngdaaDoor
