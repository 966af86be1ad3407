/- nets, opened -/
import Derived.Test.YtgjfhaikogobpaaNtC
import Derived.WalkKit
import Derived.ProofKit
import Derived.OpenShut
import Derived.ShutString
import Derived.ChangeOld
import Derived.Below
import Derived.OpenVars
import Derived.Deep.SlicePairs
namespace Go.Proofs.Ytgjfhaikogobpaa
open Go.ChangeShapes Go.WideShapes Go.ChangeAt Go.WideMaps Go.WideElems Go.RowKit
set_option linter.unusedVariables false
set_option linter.unusedSimpArgs false

set_option maxRecDepth 100000 in
theorem open_links {W : World} {H : Type} {enc : TypeId × Value → H} {base : Nat} {spare : Nat → Bool} {held : Bool} {fuel : Nat} {cs : List Value} {x : DataW H × List MemPlace} (h : DataW.trod enc Try.prog W base spare held fuel 22 cs = some x) :
    ∃ (qa : Option Addr) (qn qc : Nat) (f : Nat → Nat → Int), cs = [.slice qa qn qc] ∧ Sr W (.slice qa qn qc) 2 qn f ∧ qn ≤ maxLen := by
  have ce : Try.prog.cellsOf 42 = 2 := by kernel_rfl
  have c1 : Try.prog.cellsOf 2 = 1 := by kernel_rfl
  rcases Go.Deep.open_slice Try.underlying22 h with ⟨rfl, _⟩ | ⟨a, len, cap, m, n, D, Pl, rfl, _, hlc, hcm, hmm, _, hx⟩
  · exact ⟨none, 0, 0, fun _ _ => 0, rfl, ⟨none, 0, rfl, fun hp => absurd hp (by simp)⟩, Nat.zero_le _⟩
  · have hlm : len ≤ m := by rw [hmm]; split <;> omega
    obtain ⟨ab, ao, spot⟩ := a
    refine ⟨_, len, cap, fun i j => intOf ((W.cell? ⟨ab, ao + i * 2 + j, none⟩).getD undef), rfl, ⟨_, cap, rfl, fun hp => ?_⟩, by omega⟩
    have each : ∀ i, i < len → ∀ j, j < 2 → ∃ k : Int, W.cell? (((⟨ab, ao, spot⟩ : Addr).add (i * 2)).add j) = some (.int .i64 k) := by
      intro i hi
      obtain ⟨cs', h1, h2⟩ := hx i (by omega)
      rw [ce] at h1
      obtain ⟨_, hlen, hcell⟩ := World.cells?_some h1
      obtain ⟨xs, k, _, _, _, hxl, hf⟩ := DataW.trod_array Try.underlying42 h2
      match xs, hxl, cs', hlen with
      | [y0, y1], _, [v0, v1], _ =>
        have g0 : DataW.trod enc Try.prog W base spare held k 2 (List.take (Try.prog.cellsOf 2) (List.drop (0 * Try.prog.cellsOf 2) [v0, v1])) = some y0 := hf 0 (by decide)
        have g1 : DataW.trod enc Try.prog W base spare held k 2 (List.take (Try.prog.cellsOf 2) (List.drop (1 * Try.prog.cellsOf 2) [v0, v1])) = some y1 := hf 1 (by decide)
        rw [c1] at g0 g1
        obtain ⟨k0, e0, _⟩ := DataW.trod_int Try.underlying2 g0
        obtain ⟨k1, e1, _⟩ := DataW.trod_int Try.underlying2 g1
        simp at e0 e1
        subst e0 e1
        intro j hj
        have hj2 := hcell j hj
        match j, hj with
        | 0, _ => exact ⟨k0, by simpa using hj2⟩
        | 1, _ => exact ⟨k1, by simpa using hj2⟩
    obtain ⟨k0, hk0⟩ := each 0 hp 0 (by decide)
    have hspot : spot = none := by simpa [Addr.add] using World.cell?_spot hk0
    subst hspot
    refine ⟨ab, ao, rfl, fun j hj i hi => ?_⟩
    obtain ⟨k, hk⟩ := each j hj i hi
    rw [addr_none, addr_none] at hk
    simp [hk, intOf]

set_option maxRecDepth 100000 in
/-- a net, opened -/
theorem open_net {W : World} {H : Type} {enc : TypeId × Value → H} {base b0 : Nat} {spare : Nat → Bool} {held : Bool} {r : Reach} {v : Value} {d : DataW H} {p : List MemPlace} (hv : Value.okWide Try.prog W r b0 24 v) (h : DataW.Trod enc Try.prog W base spare held 24 v d p) :
    ∃ (N : Int) (u : Value) (n : Nat) (f : Nat → Nat → Int), v = .agg (nt N u) ∧ Sr W u 2 n f ∧ n ≤ maxLen := by
  obtain ⟨cs, rfl, hsz⟩ := okWide_struct Try.underlying24 hv
  obtain ⟨fuel, hf⟩ := h
  obtain ⟨xs, n, _, _, hl, hlen, hg⟩ := DataW.trod_struct Try.underlying24 hf
  have c3 : Try.prog.cellsOf 24 = 2 := by kernel_rfl
  have cA : Try.prog.cellsOf 2 = 1 := by kernel_rfl
  have cB : Try.prog.cellsOf 22 = 1 := by kernel_rfl
  rw [c3] at hsz
  obtain ⟨l⟩ := cs
  match l, hsz with
  | [b0, b1], _ =>
    match xs, hlen with
    | [x0, x1], _ =>
      have g0 : DataW.trod enc Try.prog W base spare held n 2 (List.take (Try.prog.cellsOf 2) (List.drop 0 [b0, b1])) = some x0 := hg 0 _ rfl
      have g1 : DataW.trod enc Try.prog W base spare held n 22 (List.take (Try.prog.cellsOf 22) (List.drop 1 [b0, b1])) = some x1 := hg 1 _ rfl
      rw [cA] at g0
      rw [cB] at g1
      obtain ⟨k0, e0, _⟩ := DataW.trod_int Try.underlying2 g0
      obtain ⟨la, N, lc, f, e1, h1, hN⟩ := open_links g1
      simp at e0 e1
      subst e0 e1
      exact ⟨k0, _, N, f, rfl, h1, hN⟩

end Go.Proofs.Ytgjfhaikogobpaa
