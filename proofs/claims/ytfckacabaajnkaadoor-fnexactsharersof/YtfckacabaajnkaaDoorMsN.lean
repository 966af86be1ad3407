/- rows of structs of whole numbers, and rows of rows, opened (written by mkMsN.py) -/
import Derived.Test.YtfckacabaajnkaaDoorMsC
import Derived.Test.YtfckacabaajnkaaDoorRwMsg
import Derived.WalkKit
import Derived.ProofKit
import Derived.OpenShut
import Derived.ShutString
import Derived.ChangeOld
import Derived.Below
import Derived.OpenVars
import Derived.Deep.SlicePairs
namespace Go.Proofs.YtfckacabaajnkaaDoor
open Go.ChangeShapes Go.WideShapes Go.ChangeAt Go.WideMaps Go.WideElems Go.RowKit
set_option linter.unusedVariables false
set_option linter.unusedSimpArgs false

theorem addr_none (b o n : Nat) : (⟨b, o, none⟩ : Addr).add n = ⟨b, o + n, none⟩ := by
  by_cases h : n = 0 <;> simp [Addr.add, h]

set_option maxRecDepth 100000 in
theorem open_slots {W : World} {H : Type} {enc : TypeId × Value → H} {base : Nat} {spare : Nat → Bool} {held : Bool} {fuel : Nat} {cs : List Value} {x : DataW H × List MemPlace} (h : DataW.trod enc Tryd.prog W base spare held fuel 78 cs = some x) :
    ∃ (qa : Option Addr) (qn qc : Nat) (f : Nat → Nat → Int), cs = [.slice qa qn qc] ∧ Sr W (.slice qa qn qc) 4 qn f ∧ qn ≤ maxLen := by
  have ce : Tryd.prog.cellsOf 101 = 4 := by kernel_rfl
  have c1 : Tryd.prog.cellsOf 2 = 1 := by kernel_rfl
  rcases Go.Deep.open_slice Tryd.underlying78 h with ⟨rfl, _⟩ | ⟨a, len, cap, m, n, D, Pl, rfl, _, hlc, hcm, hmm, _, hx⟩
  · exact ⟨none, 0, 0, fun _ _ => 0, rfl, ⟨none, 0, rfl, fun hp => absurd hp (by simp)⟩, Nat.zero_le _⟩
  · have hlm : len ≤ m := by rw [hmm]; split <;> omega
    obtain ⟨ab, ao, spot⟩ := a
    refine ⟨_, len, cap, fun i j => intOf ((W.cell? ⟨ab, ao + i * 4 + j, none⟩).getD undef), rfl, ⟨_, cap, rfl, fun hp => ?_⟩, by omega⟩
    have each : ∀ i, i < len → ∀ j, j < 4 → ∃ k : Int, W.cell? (((⟨ab, ao, spot⟩ : Addr).add (i * 4)).add j) = some (.int .i64 k) := by
      intro i hi
      obtain ⟨cs', h1, h2⟩ := hx i (by omega)
      rw [ce] at h1
      obtain ⟨_, hlen, hcell⟩ := World.cells?_some h1
      obtain ⟨xs, k, _, _, _, hxl, hf⟩ := DataW.trod_struct Tryd.underlying101 h2
      match xs, hxl, cs', hlen with
      | [y0, y1, y2, y3], _, [v0, v1, v2, v3], _ =>
        have g0 : DataW.trod enc Tryd.prog W base spare held k 2 (List.take (Tryd.prog.cellsOf 2) (List.drop 0 [v0, v1, v2, v3])) = some y0 := hf 0 _ rfl
        have g1 : DataW.trod enc Tryd.prog W base spare held k 2 (List.take (Tryd.prog.cellsOf 2) (List.drop 1 [v0, v1, v2, v3])) = some y1 := hf 1 _ rfl
        have g2 : DataW.trod enc Tryd.prog W base spare held k 2 (List.take (Tryd.prog.cellsOf 2) (List.drop 2 [v0, v1, v2, v3])) = some y2 := hf 2 _ rfl
        have g3 : DataW.trod enc Tryd.prog W base spare held k 2 (List.take (Tryd.prog.cellsOf 2) (List.drop 3 [v0, v1, v2, v3])) = some y3 := hf 3 _ rfl
        rw [c1] at g0 g1 g2 g3
        obtain ⟨k0, e0, _⟩ := DataW.trod_int Tryd.underlying2 g0
        obtain ⟨k1, e1, _⟩ := DataW.trod_int Tryd.underlying2 g1
        obtain ⟨k2, e2, _⟩ := DataW.trod_int Tryd.underlying2 g2
        obtain ⟨k3, e3, _⟩ := DataW.trod_int Tryd.underlying2 g3
        simp at e0 e1 e2 e3
        subst e0 e1 e2 e3
        intro j hj
        have hj2 := hcell j hj
        match j, hj with
        | 0, _ => exact ⟨k0, by simpa using hj2⟩
        | 1, _ => exact ⟨k1, by simpa using hj2⟩
        | 2, _ => exact ⟨k2, by simpa using hj2⟩
        | 3, _ => exact ⟨k3, by simpa using hj2⟩
    obtain ⟨k0, hk0⟩ := each 0 hp 0 (by decide)
    have hspot : spot = none := by simpa [Addr.add] using World.cell?_spot hk0
    subst hspot
    refine ⟨ab, ao, rfl, fun j hj i hi => ?_⟩
    obtain ⟨k, hk⟩ := each j hj i hi
    rw [addr_none, addr_none] at hk
    simp [hk, intOf]

set_option maxRecDepth 100000 in
theorem open_msgs {W : World} {H : Type} {enc : TypeId × Value → H} {base : Nat} {spare : Nat → Bool} {held : Bool} {fuel : Nat} {cs : List Value} {x : DataW H × List MemPlace} (h : DataW.trod enc Tryd.prog W base spare held fuel 24 cs = some x) :
    ∃ (qa : Option Addr) (qn qc : Nat) (f : Nat → Nat → Int), cs = [.slice qa qn qc] ∧ Sr W (.slice qa qn qc) 6 qn f ∧ qn ≤ maxLen := by
  have ce : Tryd.prog.cellsOf 87 = 6 := by kernel_rfl
  have c1 : Tryd.prog.cellsOf 2 = 1 := by kernel_rfl
  rcases Go.Deep.open_slice Tryd.underlying24 h with ⟨rfl, _⟩ | ⟨a, len, cap, m, n, D, Pl, rfl, _, hlc, hcm, hmm, _, hx⟩
  · exact ⟨none, 0, 0, fun _ _ => 0, rfl, ⟨none, 0, rfl, fun hp => absurd hp (by simp)⟩, Nat.zero_le _⟩
  · have hlm : len ≤ m := by rw [hmm]; split <;> omega
    obtain ⟨ab, ao, spot⟩ := a
    refine ⟨_, len, cap, fun i j => intOf ((W.cell? ⟨ab, ao + i * 6 + j, none⟩).getD undef), rfl, ⟨_, cap, rfl, fun hp => ?_⟩, by omega⟩
    have each : ∀ i, i < len → ∀ j, j < 6 → ∃ k : Int, W.cell? (((⟨ab, ao, spot⟩ : Addr).add (i * 6)).add j) = some (.int .i64 k) := by
      intro i hi
      obtain ⟨cs', h1, h2⟩ := hx i (by omega)
      rw [ce] at h1
      obtain ⟨_, hlen, hcell⟩ := World.cells?_some h1
      obtain ⟨xs, k, _, _, _, hxl, hf⟩ := DataW.trod_struct Tryd.underlying87 h2
      match xs, hxl, cs', hlen with
      | [y0, y1, y2, y3, y4, y5], _, [v0, v1, v2, v3, v4, v5], _ =>
        have g0 : DataW.trod enc Tryd.prog W base spare held k 2 (List.take (Tryd.prog.cellsOf 2) (List.drop 0 [v0, v1, v2, v3, v4, v5])) = some y0 := hf 0 _ rfl
        have g1 : DataW.trod enc Tryd.prog W base spare held k 2 (List.take (Tryd.prog.cellsOf 2) (List.drop 1 [v0, v1, v2, v3, v4, v5])) = some y1 := hf 1 _ rfl
        have g2 : DataW.trod enc Tryd.prog W base spare held k 2 (List.take (Tryd.prog.cellsOf 2) (List.drop 2 [v0, v1, v2, v3, v4, v5])) = some y2 := hf 2 _ rfl
        have g3 : DataW.trod enc Tryd.prog W base spare held k 2 (List.take (Tryd.prog.cellsOf 2) (List.drop 3 [v0, v1, v2, v3, v4, v5])) = some y3 := hf 3 _ rfl
        have g4 : DataW.trod enc Tryd.prog W base spare held k 2 (List.take (Tryd.prog.cellsOf 2) (List.drop 4 [v0, v1, v2, v3, v4, v5])) = some y4 := hf 4 _ rfl
        have g5 : DataW.trod enc Tryd.prog W base spare held k 2 (List.take (Tryd.prog.cellsOf 2) (List.drop 5 [v0, v1, v2, v3, v4, v5])) = some y5 := hf 5 _ rfl
        rw [c1] at g0 g1 g2 g3 g4 g5
        obtain ⟨k0, e0, _⟩ := DataW.trod_int Tryd.underlying2 g0
        obtain ⟨k1, e1, _⟩ := DataW.trod_int Tryd.underlying2 g1
        obtain ⟨k2, e2, _⟩ := DataW.trod_int Tryd.underlying2 g2
        obtain ⟨k3, e3, _⟩ := DataW.trod_int Tryd.underlying2 g3
        obtain ⟨k4, e4, _⟩ := DataW.trod_int Tryd.underlying2 g4
        obtain ⟨k5, e5, _⟩ := DataW.trod_int Tryd.underlying2 g5
        simp at e0 e1 e2 e3 e4 e5
        subst e0 e1 e2 e3 e4 e5
        intro j hj
        have hj2 := hcell j hj
        match j, hj with
        | 0, _ => exact ⟨k0, by simpa using hj2⟩
        | 1, _ => exact ⟨k1, by simpa using hj2⟩
        | 2, _ => exact ⟨k2, by simpa using hj2⟩
        | 3, _ => exact ⟨k3, by simpa using hj2⟩
        | 4, _ => exact ⟨k4, by simpa using hj2⟩
        | 5, _ => exact ⟨k5, by simpa using hj2⟩
    obtain ⟨k0, hk0⟩ := each 0 hp 0 (by decide)
    have hspot : spot = none := by simpa [Addr.add] using World.cell?_spot hk0
    subst hspot
    refine ⟨ab, ao, rfl, fun j hj i hi => ?_⟩
    obtain ⟨k, hk⟩ := each j hj i hi
    rw [addr_none, addr_none] at hk
    simp [hk, intOf]

set_option maxRecDepth 100000 in
theorem open_reqs {W : World} {H : Type} {enc : TypeId × Value → H} {base : Nat} {spare : Nat → Bool} {held : Bool} {fuel : Nat} {cs : List Value} {x : DataW H × List MemPlace} (h : DataW.trod enc Tryd.prog W base spare held fuel 80 cs = some x) :
    ∃ (qa : Option Addr) (qn qc : Nat) (f : Nat → Nat → Int), cs = [.slice qa qn qc] ∧ Sr W (.slice qa qn qc) 2 qn f ∧ qn ≤ maxLen := by
  have ce : Tryd.prog.cellsOf 110 = 2 := by kernel_rfl
  have c1 : Tryd.prog.cellsOf 2 = 1 := by kernel_rfl
  rcases Go.Deep.open_slice Tryd.underlying80 h with ⟨rfl, _⟩ | ⟨a, len, cap, m, n, D, Pl, rfl, _, hlc, hcm, hmm, _, hx⟩
  · exact ⟨none, 0, 0, fun _ _ => 0, rfl, ⟨none, 0, rfl, fun hp => absurd hp (by simp)⟩, Nat.zero_le _⟩
  · have hlm : len ≤ m := by rw [hmm]; split <;> omega
    obtain ⟨ab, ao, spot⟩ := a
    refine ⟨_, len, cap, fun i j => intOf ((W.cell? ⟨ab, ao + i * 2 + j, none⟩).getD undef), rfl, ⟨_, cap, rfl, fun hp => ?_⟩, by omega⟩
    have each : ∀ i, i < len → ∀ j, j < 2 → ∃ k : Int, W.cell? (((⟨ab, ao, spot⟩ : Addr).add (i * 2)).add j) = some (.int .i64 k) := by
      intro i hi
      obtain ⟨cs', h1, h2⟩ := hx i (by omega)
      rw [ce] at h1
      obtain ⟨_, hlen, hcell⟩ := World.cells?_some h1
      obtain ⟨xs, k, _, _, _, hxl, hf⟩ := DataW.trod_struct Tryd.underlying110 h2
      match xs, hxl, cs', hlen with
      | [y0, y1], _, [v0, v1], _ =>
        have g0 : DataW.trod enc Tryd.prog W base spare held k 2 (List.take (Tryd.prog.cellsOf 2) (List.drop 0 [v0, v1])) = some y0 := hf 0 _ rfl
        have g1 : DataW.trod enc Tryd.prog W base spare held k 2 (List.take (Tryd.prog.cellsOf 2) (List.drop 1 [v0, v1])) = some y1 := hf 1 _ rfl
        rw [c1] at g0 g1
        obtain ⟨k0, e0, _⟩ := DataW.trod_int Tryd.underlying2 g0
        obtain ⟨k1, e1, _⟩ := DataW.trod_int Tryd.underlying2 g1
        simp at e0 e1
        subst e0 e1
        intro j hj
        have hj2 := hcell j hj
        match j, hj with
        | 0, _ => exact ⟨k0, by simpa using hj2⟩
        | 1, _ => exact ⟨k1, by simpa using hj2⟩
    obtain ⟨k0, hk0⟩ := each 0 hp 0 (by decide)
    have hspot : spot = none := by simpa [Addr.add] using World.cell?_spot hk0
    subst hspot
    refine ⟨ab, ao, rfl, fun j hj i hi => ?_⟩
    obtain ⟨k, hk⟩ := each j hj i hi
    rw [addr_none, addr_none] at hk
    simp [hk, intOf]

set_option maxRecDepth 100000 in
theorem open_slotss {W : World} {H : Type} {enc : TypeId × Value → H} {base : Nat} {spare : Nat → Bool} {held : Bool} {fuel : Nat} {cs : List Value} {x : DataW H × List MemPlace} (h : DataW.trod enc Tryd.prog W base spare held fuel 22 cs = some x) :
    ∃ (sa : Option Addr) (C sc : Nat) (L : Nat → Nat) (F : Nat → Nat → Nat → Int), cs = [.slice sa C sc] ∧ Ss W (.slice sa C sc) C L F ∧ C ≤ maxLen ∧ ∀ c, c < C → L c ≤ maxLen := by
  rcases Go.Deep.open_slice1 Tryd.underlying22 (by kernel_rfl) h with ⟨rfl, _⟩ | ⟨a, len, cap, m, n, V, D, Pl, rfl, _, hlc, hcm, hmm, _, hx⟩
  · exact ⟨none, 0, 0, fun _ => 0, fun _ _ _ => 0, rfl, ⟨none, 0, rfl, fun hp => absurd hp (by simp)⟩, Nat.zero_le _, fun c hc => absurd hc (by simp)⟩
  · have hlm : len ≤ m := by rw [hmm]; split <;> omega
    have each : ∀ c, ∃ q : Nat × (Nat → Nat → Int), c < len → q.1 ≤ maxLen ∧ ∃ ia ic, W.cell? (a.add c) = some (.slice ia q.1 ic) ∧ Sr W (.slice ia q.1 ic) 4 q.1 q.2 := by
      intro c
      by_cases hc : c < len
      · obtain ⟨h1, h2⟩ := hx c (by omega)
        obtain ⟨qa, qn, qc, f, e, hs, hq⟩ := open_slots h2
        simp at e
        exact ⟨(qn, f), fun _ => ⟨hq, qa, qc, by rw [h1, e], hs⟩⟩
      · exact ⟨(0, fun _ _ => 0), fun h => absurd h hc⟩
    obtain ⟨q, hq⟩ := Classical.axiomOfChoice each
    obtain ⟨ab, ao, spot⟩ := a
    refine ⟨_, len, cap, fun c => (q c).1, fun c => (q c).2, rfl, ⟨_, cap, rfl, fun hp => ?_⟩, by omega, fun c hc => (hq c hc).1⟩
    obtain ⟨_, _, _, hk0, _⟩ := hq 0 hp
    have hspot : spot = none := by simpa [Addr.add] using World.cell?_spot hk0
    subst hspot
    refine ⟨ab, ao, rfl, fun c hc => ?_⟩
    obtain ⟨_, ia, ic, h1, h2⟩ := hq c hc
    exact ⟨ia, ic, by rw [← addr_none]; exact h1, h2⟩

end Go.Proofs.YtfckacabaajnkaaDoor
