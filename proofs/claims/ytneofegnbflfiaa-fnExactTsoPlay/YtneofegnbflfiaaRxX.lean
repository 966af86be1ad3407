/- TsG, RwBAct, RxA, RxB, in one text (written by mkMerge.py) -/
import Derived.Test.YtneofegnbflfiaaTsC
import Derived.WalkKit
import Derived.ProofKit
import Derived.OpenShut
import Derived.ShutString
import Derived.ChangeOld
import Derived.Below
import Derived.OpenVars
import Derived.Deep.SlicePairs
import Derived.Test.YtneofegnbflfiaaPyX
import Derived.Deep.RegionHeld3
/- rows of structs of whole numbers, and rows of rows, opened (written by mkTsD.py) -/
namespace Go.Proofs.Ytneofegnbflfiaa
open Go.ChangeShapes Go.WideShapes Go.ChangeAt Go.WideMaps Go.WideElems Go.RowKit
set_option linter.unusedVariables false
set_option linter.unusedSimpArgs false

theorem addr_none (b o n : Nat) : (⟨b, o, none⟩ : Addr).add n = ⟨b, o + n, none⟩ := by
  by_cases h : n = 0 <;> simp [Addr.add, h]

set_option maxRecDepth 100000 in
theorem open_stores {W : World} {H : Type} {enc : TypeId × Value → H} {base : Nat} {spare : Nat → Bool} {held : Bool} {fuel : Nat} {cs : List Value} {x : DataW H × List MemPlace} (h : DataW.trod enc Try.prog W base spare held fuel 106 cs = some x) :
    ∃ (qa : Option Addr) (qn qc : Nat) (f : Nat → Nat → Int), cs = [.slice qa qn qc] ∧ Sr W (.slice qa qn qc) 2 qn f ∧ qn ≤ maxLen := by
  have ce : Try.prog.cellsOf 115 = 2 := by kernel_rfl
  have c1 : Try.prog.cellsOf 2 = 1 := by kernel_rfl
  rcases Go.Deep.open_slice Try.underlying106 h with ⟨rfl, _⟩ | ⟨a, len, cap, m, n, D, Pl, rfl, _, hlc, hcm, hmm, _, hx⟩
  · exact ⟨none, 0, 0, fun _ _ => 0, rfl, ⟨none, 0, rfl, fun hp => absurd hp (by simp)⟩, Nat.zero_le _⟩
  · have hlm : len ≤ m := by rw [hmm]; split <;> omega
    obtain ⟨ab, ao, spot⟩ := a
    refine ⟨_, len, cap, fun i j => intOf ((W.cell? ⟨ab, ao + i * 2 + j, none⟩).getD undef), rfl, ⟨_, cap, rfl, fun hp => ?_⟩, by omega⟩
    have each : ∀ i, i < len → ∀ j, j < 2 → ∃ k : Int, W.cell? (((⟨ab, ao, spot⟩ : Addr).add (i * 2)).add j) = some (.int .i64 k) := by
      intro i hi
      obtain ⟨cs', h1, h2⟩ := hx i (by omega)
      rw [ce] at h1
      obtain ⟨_, hlen, hcell⟩ := World.cells?_some h1
      obtain ⟨xs, k, _, _, _, hxl, hf⟩ := DataW.trod_struct Try.underlying115 h2
      match xs, hxl, cs', hlen with
      | [y0, y1], _, [v0, v1], _ =>
        have g0 : DataW.trod enc Try.prog W base spare held k 2 (List.take (Try.prog.cellsOf 2) (List.drop 0 [v0, v1])) = some y0 := hf 0 _ rfl
        have g1 : DataW.trod enc Try.prog W base spare held k 2 (List.take (Try.prog.cellsOf 2) (List.drop 1 [v0, v1])) = some y1 := hf 1 _ rfl
        rw [c1] at g0 g1
        obtain ⟨k0, e0, _⟩ := DataW.trod_int Try.underlying2 g0
        obtain ⟨k1, e1, _⟩ := DataW.trod_int Try.underlying2 g1
        simp at e0 e1
        subst e0 e1
        intro j hj
        have hj2 := hcell j hj
        match j, hj with
        | 0, _ => exact ⟨k0, by simpa using hj2⟩
        | 1, _ => exact ⟨k1, by simpa using hj2⟩
    obtain ⟨k0, hk0⟩ := each 0 hp 0 (by decide)
    have hspot : spot = none := by simpa [Addr.add] using World.cell?_spot hk0
    subst hspot
    refine ⟨ab, ao, rfl, fun j hj i hi => ?_⟩
    obtain ⟨k, hk⟩ := each j hj i hi
    rw [addr_none, addr_none] at hk
    simp [hk, intOf]

set_option maxRecDepth 100000 in
theorem open_storess {W : World} {H : Type} {enc : TypeId × Value → H} {base : Nat} {spare : Nat → Bool} {held : Bool} {fuel : Nat} {cs : List Value} {x : DataW H × List MemPlace} (h : DataW.trod enc Try.prog W base spare held fuel 53 cs = some x) :
    ∃ (sa : Option Addr) (C sc : Nat) (L : Nat → Nat) (F : Nat → Nat → Nat → Int), cs = [.slice sa C sc] ∧ Ss W (.slice sa C sc) C L F ∧ C ≤ maxLen ∧ ∀ c, c < C → L c ≤ maxLen := by
  rcases Go.Deep.open_slice1 Try.underlying53 (by kernel_rfl) h with ⟨rfl, _⟩ | ⟨a, len, cap, m, n, V, D, Pl, rfl, _, hlc, hcm, hmm, _, hx⟩
  · exact ⟨none, 0, 0, fun _ => 0, fun _ _ _ => 0, rfl, ⟨none, 0, rfl, fun hp => absurd hp (by simp)⟩, Nat.zero_le _, fun c hc => absurd hc (by simp)⟩
  · have hlm : len ≤ m := by rw [hmm]; split <;> omega
    have each : ∀ c, ∃ q : Nat × (Nat → Nat → Int), c < len → q.1 ≤ maxLen ∧ ∃ ia ic, W.cell? (a.add c) = some (.slice ia q.1 ic) ∧ Sr W (.slice ia q.1 ic) 2 q.1 q.2 := by
      intro c
      by_cases hc : c < len
      · obtain ⟨h1, h2⟩ := hx c (by omega)
        obtain ⟨qa, qn, qc, f, e, hs, hq⟩ := open_stores h2
        simp at e
        exact ⟨(qn, f), fun _ => ⟨hq, qa, qc, by rw [h1, e], hs⟩⟩
      · exact ⟨(0, fun _ _ => 0), fun h => absurd h hc⟩
    obtain ⟨q, hq⟩ := Classical.axiomOfChoice each
    obtain ⟨ab, ao, spot⟩ := a
    refine ⟨_, len, cap, fun c => (q c).1, fun c => (q c).2, rfl, ⟨_, cap, rfl, fun hp => ?_⟩, by omega, fun c hc => (hq c hc).1⟩
    obtain ⟨_, _, _, hk0, _⟩ := hq 0 hp
    have hspot : spot = none := by simpa [Addr.add] using World.cell?_spot hk0
    subst hspot
    refine ⟨ab, ao, rfl, fun c hc => ?_⟩
    obtain ⟨_, ia, ic, h1, h2⟩ := hq c hc
    exact ⟨ia, ic, by rw [← addr_none]; exact h1, h2⟩

theorem open_nums {W : World} {H : Type} {enc : TypeId × Value → H} {base : Nat} {spare : Nat → Bool} {held : Bool} {fuel : Nat} {cs : List Value} {x : DataW H × List MemPlace} (h : DataW.trod enc Try.prog W base spare held fuel 24 cs = some x) :
    ∃ (qa : Option Addr) (qn qc : Nat) (zs : List Int), cs = [.slice qa qn qc] ∧ zs.length = qn ∧ Sl W (.slice qa qn qc) zs ∧ qn ≤ maxLen := by
  rcases open_ints Try.underlying24 Try.underlying2 (by kernel_rfl) h with ⟨rfl, _⟩ | ⟨x, l, c, zs, rfl, _, hl, hm, hz, _, hcell, hwz⟩
  · exact ⟨none, 0, 0, [], rfl, rfl, ⟨none, 0, rfl, fun h => absurd h (by simp)⟩, Nat.zero_le _⟩
  · have hz' : l ≤ zs.length := by rw [hz]; split <;> omega
    obtain ⟨h1, h2⟩ := sl_of_row (len := l) (cap := c) (by omega) hcell
    exact ⟨_, l, c, _, rfl, h1, h2, by omega⟩
set_option maxRecDepth 100000 in
theorem open_numss {W : World} {H : Type} {enc : TypeId × Value → H} {base : Nat} {spare : Nat → Bool} {held : Bool} {fuel : Nat} {cs : List Value} {x : DataW H × List MemPlace} (h : DataW.trod enc Try.prog W base spare held fuel 26 cs = some x) :
    ∃ (sa : Option Addr) (C sc : Nat) (Z : Nat → List Int), cs = [.slice sa C sc] ∧ Si W (.slice sa C sc) C Z ∧ C ≤ maxLen ∧ ∀ c, c < C → (Z c).length ≤ maxLen := by
  rcases Go.Deep.open_slice1 Try.underlying26 (by kernel_rfl) h with ⟨rfl, _⟩ | ⟨a, len, cap, m, n, V, D, Pl, rfl, _, hlc, hcm, hmm, _, hx⟩
  · exact ⟨none, 0, 0, fun _ => [], rfl, ⟨none, 0, rfl, fun hp => absurd hp (by simp)⟩, Nat.zero_le _, fun c hc => absurd hc (by simp)⟩
  · have hlm : len ≤ m := by rw [hmm]; split <;> omega
    have each : ∀ c, ∃ q : List Int, c < len → q.length ≤ maxLen ∧ ∃ ia ic, W.cell? (a.add c) = some (.slice ia q.length ic) ∧ Sl W (.slice ia q.length ic) q := by
      intro c
      by_cases hc : c < len
      · obtain ⟨h1, h2⟩ := hx c (by omega)
        obtain ⟨qa, qn, qc, zs, e, rfl, hs, hq⟩ := open_nums h2
        simp at e
        exact ⟨zs, fun _ => ⟨hq, qa, qc, by rw [h1, e], hs⟩⟩
      · exact ⟨[], fun h => absurd h hc⟩
    obtain ⟨q, hq⟩ := Classical.axiomOfChoice each
    obtain ⟨ab, ao, spot⟩ := a
    refine ⟨_, len, cap, q, rfl, ⟨_, cap, rfl, fun hp => ?_⟩, by omega, fun c hc => (hq c hc).1⟩
    obtain ⟨_, _, _, hk0, _⟩ := hq 0 hp
    have hspot : spot = none := by simpa [Addr.add] using World.cell?_spot hk0
    subst hspot
    refine ⟨ab, ao, rfl, fun c hc => ?_⟩
    obtain ⟨_, ia, ic, h1, h2⟩ := hq c hc
    exact ⟨ia, ic, by rw [← addr_none]; exact h1, h2⟩

set_option maxRecDepth 100000 in
/-- a Tso, opened -/
theorem open_tso {W : World} {H : Type} {enc : TypeId × Value → H} {base b0 : Nat} {spare : Nat → Bool} {held : Bool} {r : Reach} {v : Value} {d : DataW H} {p : List MemPlace} (hv : Value.okWide Try.prog W r b0 55 v) (h : DataW.Trod enc Try.prog W base spare held 55 v d p) :
    ∃ (mv bv rv : Value) (zs : List Int) (C : Nat) (L : Nat → Nat) (F : Nat → Nat → Nat → Int) (R : Nat) (Z : Nat → List Int), v = .agg #[mv, bv, rv] ∧ Tv W mv bv rv zs C L F R Z ∧ zs.length ≤ maxLen ∧ (C ≤ maxLen ∧ ∀ c, c < C → L c ≤ maxLen) ∧ R ≤ maxLen ∧ ∀ c, c < R → (Z c).length ≤ maxLen := by
  obtain ⟨cs, rfl, hsz⟩ := okWide_struct Try.underlying55 hv
  obtain ⟨fuel, hf⟩ := h
  obtain ⟨xs, n, _, _, hl, hlen, hg⟩ := DataW.trod_struct Try.underlying55 hf
  have c3 : Try.prog.cellsOf 55 = 3 := by kernel_rfl
  have cA : Try.prog.cellsOf 24 = 1 := by kernel_rfl
  have cB : Try.prog.cellsOf 53 = 1 := by kernel_rfl
  have cC : Try.prog.cellsOf 26 = 1 := by kernel_rfl
  rw [c3] at hsz
  obtain ⟨l⟩ := cs
  match l, hsz with
  | [b0, b1, b2], _ =>
    match xs, hlen with
    | [x0, x1, x2], _ =>
      have g0 : DataW.trod enc Try.prog W base spare held n 24 (List.take (Try.prog.cellsOf 24) (List.drop 0 [b0, b1, b2])) = some x0 := hg 0 _ rfl
      have g1 : DataW.trod enc Try.prog W base spare held n 53 (List.take (Try.prog.cellsOf 53) (List.drop 1 [b0, b1, b2])) = some x1 := hg 1 _ rfl
      have g2 : DataW.trod enc Try.prog W base spare held n 26 (List.take (Try.prog.cellsOf 26) (List.drop 2 [b0, b1, b2])) = some x2 := hg 2 _ rfl
      rw [cA] at g0
      rw [cB] at g1
      rw [cC] at g2
      obtain ⟨ma, mn, mc, zs, e0, rfl, h0, hN0⟩ := open_nums g0
      obtain ⟨la, N, lc, L, F, e1, h1, hN, hL⟩ := open_storess g1
      obtain ⟨ra, R, rc, Z, e2, h2, hR, hZ⟩ := open_numss g2
      simp at e0 e1 e2
      subst e0 e1 e2
      exact ⟨_, _, _, zs, N, L, F, R, Z, rfl, ⟨h0, h1, h2⟩, hN0, ⟨hN, hL⟩, hR, hZ⟩

end Go.Proofs.Ytneofegnbflfiaa

/- slices of BAct: copied, compared (written by mkRow.py) -/
namespace Go.Proofs.Ytneofegnbflfiaa
open Go.RowKit
set_option linter.unusedVariables false
set_option linter.unusedSimpArgs false

theorem Orow.set5 {w : World} {base g n cap k : Nat} {T : TypeId} {f : Nat → Nat → Int} (hk : k < n) (h : Orow w base T 5 (.slice (some ⟨g, 0, none⟩) n cap) n k f) :
    Orow (((((w.setCell ⟨g, k * 5, none⟩ (.int .i64 (f k 0))).setCell ⟨g, k * 5 + 1, none⟩ (.int .i64 (f k 1))).setCell ⟨g, k * 5 + 2, none⟩ (.int .i64 (f k 2))).setCell ⟨g, k * 5 + 3, none⟩ (.int .i64 (f k 3))).setCell ⟨g, k * 5 + 4, none⟩ (.int .i64 (f k 4))) base T 5 (.slice (some ⟨g, 0, none⟩) n cap) n (k + 1) f := by
  have h2 := (((((World.ownsRow.stored h (k * 5) (.int .i64 (f k 0))).1.stored (k * 5 + 1) (.int .i64 (f k 1))).1.stored (k * 5 + 2) (.int .i64 (f k 2))).1.stored (k * 5 + 3) (.int .i64 (f k 3))).1.stored (k * 5 + 4) (.int .i64 (f k 4))).1
  unfold Orow
  rw [← rowC_sets (l := ((((((rowC 5 n k f).set (k * 5) (.int .i64 (f k 0))).set (k * 5 + 1) (.int .i64 (f k 1))).set (k * 5 + 2) (.int .i64 (f k 2))).set (k * 5 + 3) (.int .i64 (f k 3))).set (k * 5 + 4) (.int .i64 (f k 4)))) hk (by simp [rowC_length]) ?_ ?_]
  · exact h2
  · intro x hx hne
    rw [List.getElem?_set_ne (by omega), List.getElem?_set_ne (by omega), List.getElem?_set_ne (by omega), List.getElem?_set_ne (by omega), List.getElem?_set_ne (by omega)]
  · intro i hi
    match i, hi with
    | 0, _ => rw [List.getElem?_set_ne (by omega), List.getElem?_set_ne (by omega), List.getElem?_set_ne (by omega), List.getElem?_set_ne (by omega), Nat.add_zero, List.getElem?_set_self (by simp only [List.length_set, rowC_length]; omega)]
    | 1, _ => rw [List.getElem?_set_ne (by omega), List.getElem?_set_ne (by omega), List.getElem?_set_ne (by omega), List.getElem?_set_self (by simp only [List.length_set, rowC_length]; omega)]
    | 2, _ => rw [List.getElem?_set_ne (by omega), List.getElem?_set_ne (by omega), List.getElem?_set_self (by simp only [List.length_set, rowC_length]; omega)]
    | 3, _ => rw [List.getElem?_set_ne (by omega), List.getElem?_set_self (by simp only [List.length_set, rowC_length]; omega)]
    | 4, _ => rw [List.getElem?_set_self (by simp only [List.length_set, rowC_length]; omega)]

theorem eqBAct_same (k c v x r : Int) (w : World) : Calls Try.prog 73 #[.agg (five k c v x r), .agg (five k c v x r)] w fun e w' => e = .returned (.bool true) ∧ Below w.heap.size w w' := by
  go_enter Try.func73, Try.ntmps73
  go_wp2
  go_ret
  exact ⟨rfl, ((Below.refl _ _).alloc (Nat.le_refl _) _).alloc (by simp) _⟩

theorem infoBAct : (Try.prog.info? 37).map (fun i => (i.zero, i.size, i.bytes)) = some (some (.agg #[.int .i64 0, .int .i64 0, .int .i64 0, .int .i64 0, .int .i64 0]), 5, 40) := by kernel_rfl

/-- the cells of a struct of a row that is the call's own -/
theorem Orow.at5 {w : World} {base g n cap k j : Nat} {T : TypeId} {f : Nat → Nat → Int} (hj : j < n) (h : Orow w base T 5 (.slice (some ⟨g, 0, none⟩) n cap) n k f) :
    (∀ i, w.frozen? ⟨g, i, none⟩ = false) ∧ (∃ o, w.cell? ⟨g, j * 5, none⟩ = some o) ∧ (∃ o, w.cell? ⟨g, j * 5 + 1, none⟩ = some o) ∧ (∃ o, w.cell? ⟨g, j * 5 + 2, none⟩ = some o) ∧ (∃ o, w.cell? ⟨g, j * 5 + 3, none⟩ = some o) ∧ (∃ o, w.cell? ⟨g, j * 5 + 4, none⟩ = some o) := by
  refine ⟨fun i => World.ownsRow.frozenAt h i, ?_, ?_, ?_, ?_, ?_⟩
  · have := World.ownsRow.cellAt h (j * 5) (by omega)
    rw [rowC_get (by omega)] at this
    exact ⟨_, this⟩
  · have := World.ownsRow.cellAt h (j * 5 + 1) (by omega)
    rw [rowC_get (by omega)] at this
    exact ⟨_, this⟩
  · have := World.ownsRow.cellAt h (j * 5 + 2) (by omega)
    rw [rowC_get (by omega)] at this
    exact ⟨_, this⟩
  · have := World.ownsRow.cellAt h (j * 5 + 3) (by omega)
    rw [rowC_get (by omega)] at this
    exact ⟨_, this⟩
  · have := World.ownsRow.cellAt h (j * 5 + 4) (by omega)
    rw [rowC_get (by omega)] at this
    exact ⟨_, this⟩

set_option maxHeartbeats 2000000 in
theorem toBActS_any (v : Value) (n : Nat) (f : Nat → Nat → Int) (w : World) (hs : Sr w v 5 n f) (hb : n ≤ 1048576) :
    Calls Try.prog 33 #[v] w fun e w' => ∃ g, e = .returned (.slice (some ⟨g, 0, none⟩) n n) ∧ Orow w' w.heap.size 37 5 (.slice (some ⟨g, 0, none⟩) n n) n n f ∧ Below w.heap.size w w' := by
  obtain ⟨ad, cap, rfl, hs⟩ := hs
  obtain ⟨i0, hi, hz0, hz1, hz2⟩ := info_parts infoBAct
  go_enter Try.func33, Try.ntmps33
  go_wp2_with (at_make; refine wpList_make_full _ rfl _ _ 48 rfl w.heap.size 37 i0 (.agg #[.int .i64 0, .int .i64 0, .int .i64 0, .int .i64 0, .int .i64 0]) 5 Try.underlying48 hi hz0 hz1 .i64 .i64 n n n rfl rfl rfl rfl (by rw [hz2]; omega) (by unfold maxLen; omega) (Nat.le_refl _) ?_; intro w1 ho1 hg1)
  have ho : Orow w1 w.heap.size 37 5 (.slice (some ⟨w.heap.size, 0, none⟩) n n) n 0 f := by
    unfold Orow
    rw [← made_row (.agg #[.int .i64 0, .int .i64 0, .int .i64 0, .int .i64 0, .int .i64 0] : Value).cells 5 n (by decide) rfl (fun i hi => by match i, hi with | 0, _ => rfl | 1, _ => rfl | 2, _ => rfl | 3, _ => rfl | 4, _ => rfl) f]
    exact ho1
  have hb1 : Below w.heap.size w w1 := (Below.refl _ _).grown hg1 (Nat.le_refl _) (fun k hk => by cases hk)
  clear ho1 hg1
  go_loopw [4] (fun i wr => ∃ k : Nat, k ≤ n ∧ i = .int .i64 k ∧ Orow wr w.heap.size 37 5 (.slice (some ⟨w.heap.size, 0, none⟩) n n) n k f ∧ Below w.heap.size w wr) (fun i _ => n - (intOf i).toNat)
  case atStart => exact ⟨0, Nat.zero_le _, rfl, ho, hb1⟩
  case round =>
    obtain ⟨k, hk, rfl, hok, hbk⟩ := hrel
    clear ho hb1
    by_cases hlt : k < n
    · obtain ⟨b, off, rfl, hc⟩ := hs (by omega)
      have q0 : wr.cell? ⟨b, off + k * 5, none⟩ = some (.int .i64 (f k 0)) := Below.keep hbk _ _ (hc k hlt 0 (by decide))
      have q1 : wr.cell? ⟨b, off + k * 5 + 1, none⟩ = some (.int .i64 (f k 1)) := Below.keep hbk _ _ (hc k hlt 1 (by decide))
      have q2 : wr.cell? ⟨b, off + k * 5 + 2, none⟩ = some (.int .i64 (f k 2)) := Below.keep hbk _ _ (hc k hlt 2 (by decide))
      have q3 : wr.cell? ⟨b, off + k * 5 + 3, none⟩ = some (.int .i64 (f k 3)) := Below.keep hbk _ _ (hc k hlt 3 (by decide))
      have q4 : wr.cell? ⟨b, off + k * 5 + 4, none⟩ = some (.int .i64 (f k 4)) := Below.keep hbk _ _ (hc k hlt 4 (by decide))
      clear hs hc
      go_wp2_with fail
      refine (toBAct_any _ _ _ _ _ _).mono ?_
      rintro e w2 ⟨rfl, hb2⟩
      have hok2 := hok.below hb2
      have hbk2 := hbk.trans (hb2.mono hbk.size)
      obtain ⟨fr, ⟨o0, r0⟩, ⟨o1, r1⟩, ⟨o2, r2⟩, ⟨o3, r3⟩, ⟨o4, r4⟩⟩ := hok2.at5 hlt
      have hB2 : Below w.heap.size w (((((w2.setCell ⟨w.heap.size, k * 5, none⟩ (.int .i64 (f k 0))).setCell ⟨w.heap.size, k * 5 + 1, none⟩ (.int .i64 (f k 1))).setCell ⟨w.heap.size, k * 5 + 2, none⟩ (.int .i64 (f k 2))).setCell ⟨w.heap.size, k * 5 + 3, none⟩ (.int .i64 (f k 3))).setCell ⟨w.heap.size, k * 5 + 4, none⟩ (.int .i64 (f k 4))) := (((((hbk2.setCell (Nat.le_refl _) _).setCell (Nat.le_refl _) _).setCell (Nat.le_refl _) _).setCell (Nat.le_refl _) _).setCell (Nat.le_refl _) _)
      have HB := hide (And.intro (hok2.set5 hlt) hB2)
      clear hok hok2 hbk hbk2 hb2 hB2 q0 q1 q2 q3 q4
      go_wp2
      go_roundw
      case rel => exact ⟨k + 1, by omega, by go_num, HB.out.1, HB.out.2⟩
      case measure => simp [intOf]; omega
    · go_wp2
      go_ret
      have e : k = n := by omega
      subst e
      exact ⟨_, rfl, hok, hbk⟩

theorem keepR5 {w W W' : World} {p0 p1 p2 p3 p4 p5 p6 p7 p8 p9 : Addr} {x0 x1 x2 x3 x4 x5 x6 x7 x8 x9 : Value} (h : Below w.heap.size w W ∧ W.cell? p0 = some x0 ∧ W.cell? p1 = some x1 ∧ W.cell? p2 = some x2 ∧ W.cell? p3 = some x3 ∧ W.cell? p4 = some x4 ∧ W.cell? p5 = some x5 ∧ W.cell? p6 = some x6 ∧ W.cell? p7 = some x7 ∧ W.cell? p8 = some x8 ∧ W.cell? p9 = some x9) (hb : Below W.heap.size W W') : Below w.heap.size w W' ∧ W'.cell? p0 = some x0 ∧ W'.cell? p1 = some x1 ∧ W'.cell? p2 = some x2 ∧ W'.cell? p3 = some x3 ∧ W'.cell? p4 = some x4 ∧ W'.cell? p5 = some x5 ∧ W'.cell? p6 = some x6 ∧ W'.cell? p7 = some x7 ∧ W'.cell? p8 = some x8 ∧ W'.cell? p9 = some x9 := ⟨h.1.trans (hb.mono h.1.size), keepc hb h.2.1, keepc hb h.2.2.1, keepc hb h.2.2.2.1, keepc hb h.2.2.2.2.1, keepc hb h.2.2.2.2.2.1, keepc hb h.2.2.2.2.2.2.1, keepc hb h.2.2.2.2.2.2.2.1, keepc hb h.2.2.2.2.2.2.2.2.1, keepc hb h.2.2.2.2.2.2.2.2.2.1, keepc hb h.2.2.2.2.2.2.2.2.2.2⟩

set_option maxHeartbeats 4000000 in
theorem eqBActS_same (a b : Value) (n : Nat) (f : Nat → Nat → Int) (w : World) (ha : Sr w a 5 n f) (hb : Sr w b 5 n f) (hl : n ≤ 1048576) :
    Calls Try.prog 36 #[a, b] w fun e w' => e = .returned (.bool true) ∧ Below w.heap.size w w' := by
  obtain ⟨ad, cap, rfl, ha⟩ := ha
  obtain ⟨bd, cbp, rfl, hb⟩ := hb
  go_enter Try.func36, Try.ntmps36
  go_wp2
  go_loopw [5] (fun i wr => ∃ k : Nat, k ≤ n ∧ i = .int .i64 k ∧ Below w.heap.size w wr) (fun i _ => n - (intOf i).toNat)
  case atStart => exact ⟨0, Nat.zero_le _, rfl, Below.refl _ _⟩
  case round =>
    obtain ⟨k, hk, rfl, hbk⟩ := hrel
    by_cases hlt : k < n
    · obtain ⟨p, off, rfl, hc⟩ := ha (by omega)
      obtain ⟨q, off', rfl, hd⟩ := hb (by omega)
      have c0 : wr.cell? ⟨p, off + k * 5, none⟩ = some (.int .i64 (f k 0)) := Below.keep hbk _ _ (hc k hlt 0 (by decide))
      have c1 : wr.cell? ⟨p, off + k * 5 + 1, none⟩ = some (.int .i64 (f k 1)) := Below.keep hbk _ _ (hc k hlt 1 (by decide))
      have c2 : wr.cell? ⟨p, off + k * 5 + 2, none⟩ = some (.int .i64 (f k 2)) := Below.keep hbk _ _ (hc k hlt 2 (by decide))
      have c3 : wr.cell? ⟨p, off + k * 5 + 3, none⟩ = some (.int .i64 (f k 3)) := Below.keep hbk _ _ (hc k hlt 3 (by decide))
      have c4 : wr.cell? ⟨p, off + k * 5 + 4, none⟩ = some (.int .i64 (f k 4)) := Below.keep hbk _ _ (hc k hlt 4 (by decide))
      have d0 : wr.cell? ⟨q, off' + k * 5, none⟩ = some (.int .i64 (f k 0)) := Below.keep hbk _ _ (hd k hlt 0 (by decide))
      have d1 : wr.cell? ⟨q, off' + k * 5 + 1, none⟩ = some (.int .i64 (f k 1)) := Below.keep hbk _ _ (hd k hlt 1 (by decide))
      have d2 : wr.cell? ⟨q, off' + k * 5 + 2, none⟩ = some (.int .i64 (f k 2)) := Below.keep hbk _ _ (hd k hlt 2 (by decide))
      have d3 : wr.cell? ⟨q, off' + k * 5 + 3, none⟩ = some (.int .i64 (f k 3)) := Below.keep hbk _ _ (hd k hlt 3 (by decide))
      have d4 : wr.cell? ⟨q, off' + k * 5 + 4, none⟩ = some (.int .i64 (f k 4)) := Below.keep hbk _ _ (hd k hlt 4 (by decide))
      clear hc hd ha hb
      have hk0 : (0 : Int) ≤ (k : Int) := by omega
      have hk1 : (k : Int) < (n : Int) := by omega
      go_wp2
      go_region_held3 (fun w' => Below w.heap.size w w' ∧ w'.cell? ⟨p, off + k * 5, none⟩ = some (.int .i64 (f k 0)) ∧ w'.cell? ⟨p, off + k * 5 + 1, none⟩ = some (.int .i64 (f k 1)) ∧ w'.cell? ⟨p, off + k * 5 + 2, none⟩ = some (.int .i64 (f k 2)) ∧ w'.cell? ⟨p, off + k * 5 + 3, none⟩ = some (.int .i64 (f k 3)) ∧ w'.cell? ⟨p, off + k * 5 + 4, none⟩ = some (.int .i64 (f k 4)) ∧ w'.cell? ⟨q, off' + k * 5, none⟩ = some (.int .i64 (f k 0)) ∧ w'.cell? ⟨q, off' + k * 5 + 1, none⟩ = some (.int .i64 (f k 1)) ∧ w'.cell? ⟨q, off' + k * 5 + 2, none⟩ = some (.int .i64 (f k 2)) ∧ w'.cell? ⟨q, off' + k * 5 + 3, none⟩ = some (.int .i64 (f k 3)) ∧ w'.cell? ⟨q, off' + k * 5 + 4, none⟩ = some (.int .i64 (f k 4))) (first | exact ⟨hbk.drew, c0, c1, c2, c3, c4, d0, d1, d2, d3, d4⟩ | exact keepR5 (by assumption) hbc) (first | (go_at_call 73; refine (eqBAct_same _ _ _ _ _ _).mono ?_; rintro e w2 ⟨rfl, hbc⟩))
      all_goals go_wp2
      all_goals rename_i hS
      all_goals go_roundw
      case rel => exact ⟨k + 1, by omega, by go_num, hS.1⟩
      case measure => simp [intOf]; omega
    · go_wp2
      go_ret
      exact ⟨rfl, hbk⟩

end Go.Proofs.Ytneofegnbflfiaa

/- rows of acts: not too many, marked -/
namespace Go.Proofs.Ytneofegnbflfiaa
open Go.RowKit
set_option linter.unusedVariables false
set_option linter.unusedSimpArgs false

set_option maxHeartbeats 1000000 in
theorem szBActS_any (ad : Option Addr) (n cap : Nat) (left : Int) (w : World) (h0 : 0 ≤ left) (hm : left ≤ 1048576) (hn : (n : Int) ≤ 9223372036854775807) :
    Calls Try.prog 31 #[.slice ad n cap, .int .i64 left] w fun e w' => ∃ r : Int, e = .returned (.int .i64 r) ∧ (-1 ≤ r ∧ r ≤ left) ∧ (0 ≤ r → n ≤ 1048576) ∧ w' = w := by
  have hw : wrap64 (left - (n : Int)) = left - n := Go.IntWalk.wrap64_in _ (by omega)
  by_cases h : left < n
  · have hd : decide (left - (n : Int) < 0) = true := by simp; omega
    go_enter Try.func31, Try.ntmps31
    go_wp2
    go_ret
    exact ⟨-1, rfl, by omega, fun h => by omega, rfl⟩
  · have hd : decide (left - (n : Int) < 0) = false := by simp; omega
    go_enter Try.func31, Try.ntmps31
    go_wp2
    go_ret
    exact ⟨_, rfl, by omega, fun h => by omega, rfl⟩

set_option maxHeartbeats 8000000 in
theorem mkA_at (g off n cap : Nat) (k0 : Int) (w : World) (h0 : 0 ≤ k0) (h1 : k0 ≤ 1152921504606846976) (hw : Wc w g (off + n * 5)) (hl : n ≤ 1048576) :
    Calls Try.prog 38 #[.slice (some ⟨g, off, none⟩) n cap, .int .i64 k0] w fun e w' => e = .returned (.int .i64 (k0 + 5 * n)) ∧ Chg (· = g) w w' := by
  go_enter Try.func38, Try.ntmps38
  go_wp2
  go_loopw [1, 5] (fun t i wr => ∃ j : Nat, j ≤ n ∧ i = .int .i64 j ∧ t = .int .i64 (k0 + 5 * j) ∧ Chg (· = g) w wr) (fun _ i _ => n - (intOf i).toNat)
  case atStart => exact ⟨0, Nat.zero_le _, rfl, by simp, Chg.refl _ _⟩
  case round =>
    obtain ⟨j, hj, rfl, rfl, hgj⟩ := hrel
    by_cases hlt : j < n
    · have HW := hide (hgj.keep _ _ hw)
      obtain ⟨fr, hc⟩ := HW.out.facts
      obtain ⟨o0, r0⟩ := hc (off + j * 5) (by omega)
      obtain ⟨o1, r1⟩ := hc (off + j * 5 + 1) (by omega)
      obtain ⟨o2, r2⟩ := hc (off + j * 5 + 2) (by omega)
      obtain ⟨o3, r3⟩ := hc (off + j * 5 + 3) (by omega)
      obtain ⟨o4, r4⟩ := hc (off + j * 5 + 4) (by omega)
      have HB := hide hgj
      clear hgj hc hw HW
      go_wp2
      go_roundw
      case rel => exact ⟨j + 1, by omega, by go_num, by go_num, ((((HB.out.set rfl _).set rfl _).set rfl _).set rfl _).set rfl _⟩
      case measure => simp [intOf]; omega
    · have e : j = n := by omega
      subst e
      go_wp2
      go_ret
      exact ⟨rfl, hgj⟩

end Go.Proofs.Ytneofegnbflfiaa

/- what FnExactTsoPlay's walk keeps (written by mkRxB.py) -/
namespace Go.Proofs.Ytneofegnbflfiaa
open Go.RowKit
set_option linter.unusedVariables false
set_option linter.unusedSimpArgs false

set_option maxHeartbeats 2000000 in
theorem szTso_le (mv bv rv : Value) (zs : List Int) (C : Nat) (L : Nat → Nat) (F : Nat → Nat → Nat → Int) (R : Nat) (Z : Nat → List Int) (w : World) (h : Tv w mv bv rv zs C L F R Z) (hm : (zs.length : Int) ≤ 9223372036854775807) (hC : (C : Int) ≤ 9223372036854775807) (hL : ∀ c, c < C → (L c : Int) ≤ 9223372036854775807) (hR : (R : Int) ≤ 9223372036854775807) (hZ : ∀ c, c < R → ((Z c).length : Int) ≤ 9223372036854775807) :
    Calls Try.prog 30 #[.agg #[mv, bv, rv], .int .i64 1048576] w fun e w' => ∃ r : Int, e = .returned (.int .i64 r) ∧ (0 ≤ r → Tl zs C L R Z ∧ r ≤ 1048576) ∧ Below w.heap.size w w' := by
  have hB0 : Below w.heap.size w (w.alloc (.cells #[mv, bv, rv] 55)) := (Below.refl _ _).alloc (Nat.le_refl _) _
  obtain ⟨c0, c1, c2⟩ := box3 w mv bv rv 55
  have HT := hide (h.below hB0)
  obtain ⟨⟨ma, mc, rfl, _⟩, ⟨ba, bc, rfl, _⟩, ⟨ra, rc, rfl, _⟩⟩ := h
  by_cases hs : (zs.length : Int) ≤ 1048576
  case neg =>
    go_enter Try.func30, Try.ntmps30
    go_wp2_with fail
    refine (szI_no ma zs.length mc 1048576 _ (by decide) (by decide) hm (by omega)).mono ?_
    rintro e w1 ⟨rfl, rfl⟩
    clear HT
    go_wp2
    go_ret
    exact ⟨-1, rfl, fun h => absurd h (by decide), hB0⟩
  go_enter Try.func30, Try.ntmps30
  go_wp2_with fail
  refine (szI_yes ma zs.length mc 1048576 _ (by decide) (by decide) hs).mono ?_
  rintro e w1 ⟨rfl, rfl⟩
  obtain ⟨l1, hl1⟩ : ∃ l1 : Int, 1048576 - (zs.length : Int) = l1 := ⟨_, rfl⟩
  rw [hl1]
  have hd1 : decide (l1 < 0) = false := by simp; omega
  go_wp2_with fail
  refine (szStoreSS_any _ C L F l1 _ (by omega) (by omega) HT.out.buf hC hL).mono ?_
  rintro e w2 ⟨r2, rfl, hr2, hp2, hb2⟩
  have hB2 := hB0.trans (hb2.mono hB0.size)
  have d2 := keepc hb2 c2
  have HT2 := hide (HT.out.below hb2)
  clear c0 c1 c2 hB0 hb2 HT hd1
  by_cases h2 : r2 < 0
  · clear HT2 hp2
    go_wp2
    go_ret
    exact ⟨-1, rfl, fun h => absurd h (by decide), hB2⟩
  have hd2 : decide (r2 < 0) = false := by simp; omega
  go_wp2_with fail
  refine (szInt64SS_any _ R Z r2 _ (by omega) (by omega) HT2.out.reg hR hZ).mono ?_
  rintro e w3 ⟨r3, rfl, hr3, hp3, hb3⟩
  have hB3 := hB2.trans (hb3.mono hB2.size)
  clear HT2 hb3 hB2 d2 hd2
  by_cases h3 : r3 < 0
  · clear hp3 hp2
    go_wp2
    go_ret
    exact ⟨-1, rfl, fun h => absurd h (by decide), hB3⟩
  have hd3 : decide (r3 < 0) = false := by simp; omega
  have HP := hide (show Tl zs C L R Z from ⟨by omega, hp2 (by omega), hp3 (by omega)⟩)
  clear hp2 hp3
  go_wp2
  go_ret
  exact ⟨r3, rfl, fun _ => ⟨HP.out, by omega⟩, hB3⟩

theorem markTso_uz {w : World} {base : Nat} {mv bv rv : Value} {n C : Nat} {L : Nat → Nat} {R : Nat} {M : Nat → Nat} {vb vr : Nat → Value} {tag : Nat → Nat} {k : Int} (um : Um w base mv bv rv n C L R M vb vr tag) (hq : ∀ g, w.heap.size ≤ g → tag g = 100) (h0 : 0 ≤ k) (h1 : k ≤ 1048576) (hn : n ≤ 1048576) (hC : C ≤ 1048576) (hL : ∀ c, c < C → L c ≤ 1048576) (hR : R ≤ 1048576) (hZ : ∀ c, c < R → M c ≤ 1048576) :
    Calls Try.prog 37 #[.agg #[mv, bv, rv], .int .i64 k] w fun e w' => (∃ k', (0 ≤ k' ∧ k' ≤ 1152921504606846976) ∧ e = .returned (.int .i64 k')) ∧ Chg (Tg base tag 0) w w' := by
  have hB0 : Below w.heap.size w (w.alloc (.cells #[mv, bv, rv] 28)) := (Below.refl _ _).alloc (Nat.le_refl _) _
  have t0 := um.below hB0
  have g2 := sm2_ge (k + n) L C
  have g3 := sm2_le (k + n) L C hL C (Nat.le_refl _)
  have g4 := sm1_ge (sm2 (k + n) L C) M R
  have g5 := sm1_le (sm2 (k + n) L C) M R hZ R (Nat.le_refl _)
  have bx : ∀ W, Chg (Tg base tag 0) (w.alloc (.cells #[mv, bv, rv] 28)) W → W.heap[w.heap.size]? = some (.cells #[mv, bv, rv] 28 (0, 0)) := fun W hc =>
    (hc.block w.heap.size (by simp) (fun q => by have := hq _ (Nat.le_refl _); have := q.2; omega)).trans (heap_alloc_new _ _)
  have hh : ∀ W, Chg (Tg base tag 0) (w.alloc (.cells #[mv, bv, rv] 28)) W → Um W base mv bv rv n C L R M vb vr tag := fun W hc => t0.chg hc (fun b hb => hb.2)
  refine (markTso_gen mv bv rv k (k + n) (sm2 (k + n) L C) (sm1 (sm2 (k + n) L C) M R) w
    (fun W => Chg (Tg base tag 0) (w.alloc (.cells #[mv, bv, rv] 28)) W) (fun W => Chg (Tg base tag 0) (w.alloc (.cells #[mv, bv, rv] 28)) W) (fun W => Chg (Tg base tag 0) (w.alloc (.cells #[mv, bv, rv] 28)) W) ?_ ?_ ?_ bx bx).mono ?_
  · refine (mkI_any t0.mf t0.mb h0 (by omega) hn).mono ?_
    rintro e W ⟨rfl, hc, hs⟩
    exact ⟨rfl, hc⟩
  · intro W h
    refine mkB_gen bv C vb (sm2 (k + n) L) (fun c W => Chg (Tg base tag 0) (w.alloc (.cells #[mv, bv, rv] 28)) W) W hC h (fun c W hc h => (hh W h).bs) (fun c W hc h => ?_) (Fm.of_svs um.bs)
    have q1 := sm2_ge (k + n) L c
    have q2 := sm2_le (k + n) L C hL c (by omega)
    refine (mkS_any ((hh W h).bf c hc) ((hh W h).bI c hc) (by omega) (by omega) (hL c hc)).mono ?_
    rintro e W' ⟨rfl, hch, _⟩
    exact ⟨rfl, h.trans hch⟩
  · intro W h
    refine mkR_gen rv R vr (sm1 (sm2 (k + n) L C) M) (fun c W => Chg (Tg base tag 0) (w.alloc (.cells #[mv, bv, rv] 28)) W) W hR h (fun c W hc h => (hh W h).rs) (fun c W hc h => ?_) (Fm.of_svs um.rs)
    have q1 := sm1_ge (sm2 (k + n) L C) M c
    have q2 := sm1_le (sm2 (k + n) L C) M R hZ c (by omega)
    refine (mkI_any ((hh W h).rf c hc) ((hh W h).rI c hc) (by omega) (by omega) (hZ c hc)).mono ?_
    rintro e W' ⟨rfl, hch, _⟩
    exact ⟨rfl, h.trans hch⟩
  · rintro e w' ⟨rfl, hc⟩
    exact ⟨⟨_, by omega, rfl⟩, ((Chg.refl _ w).alloc _).trans hc⟩

set_option maxRecDepth 100000 in
theorem open_acts {W : World} {H : Type} {enc : TypeId × Value → H} {base : Nat} {spare : Nat → Bool} {held : Bool} {fuel : Nat} {cs : List Value} {x : DataW H × List MemPlace} (h : DataW.trod enc Try.prog W base spare held fuel 56 cs = some x) :
    ∃ (qa : Option Addr) (qn qc : Nat) (f : Nat → Nat → Int), cs = [.slice qa qn qc] ∧ Sr W (.slice qa qn qc) 5 qn f ∧ qn ≤ maxLen := by
  have ce : Try.prog.cellsOf 90 = 5 := by kernel_rfl
  have c1 : Try.prog.cellsOf 2 = 1 := by kernel_rfl
  rcases Go.Deep.open_slice Try.underlying56 h with ⟨rfl, _⟩ | ⟨a, len, cap, m, n, D, Pl, rfl, _, hlc, hcm, hmm, _, hx⟩
  · exact ⟨none, 0, 0, fun _ _ => 0, rfl, ⟨none, 0, rfl, fun hp => absurd hp (by simp)⟩, Nat.zero_le _⟩
  · have hlm : len ≤ m := by rw [hmm]; split <;> omega
    obtain ⟨ab, ao, spot⟩ := a
    refine ⟨_, len, cap, fun i j => intOf ((W.cell? ⟨ab, ao + i * 5 + j, none⟩).getD undef), rfl, ⟨_, cap, rfl, fun hp => ?_⟩, by omega⟩
    have each : ∀ i, i < len → ∀ j, j < 5 → ∃ k : Int, W.cell? (((⟨ab, ao, spot⟩ : Addr).add (i * 5)).add j) = some (.int .i64 k) := by
      intro i hi
      obtain ⟨cs', h1, h2⟩ := hx i (by omega)
      rw [ce] at h1
      obtain ⟨_, hlen, hcell⟩ := World.cells?_some h1
      obtain ⟨xs, k, _, _, _, hxl, hf⟩ := DataW.trod_struct Try.underlying90 h2
      match xs, hxl, cs', hlen with
      | [y0, y1, y2, y3, y4], _, [v0, v1, v2, v3, v4], _ =>
        have g0 : DataW.trod enc Try.prog W base spare held k 2 (List.take (Try.prog.cellsOf 2) (List.drop 0 [v0, v1, v2, v3, v4])) = some y0 := hf 0 _ rfl
        have g1 : DataW.trod enc Try.prog W base spare held k 2 (List.take (Try.prog.cellsOf 2) (List.drop 1 [v0, v1, v2, v3, v4])) = some y1 := hf 1 _ rfl
        have g2 : DataW.trod enc Try.prog W base spare held k 2 (List.take (Try.prog.cellsOf 2) (List.drop 2 [v0, v1, v2, v3, v4])) = some y2 := hf 2 _ rfl
        have g3 : DataW.trod enc Try.prog W base spare held k 2 (List.take (Try.prog.cellsOf 2) (List.drop 3 [v0, v1, v2, v3, v4])) = some y3 := hf 3 _ rfl
        have g4 : DataW.trod enc Try.prog W base spare held k 2 (List.take (Try.prog.cellsOf 2) (List.drop 4 [v0, v1, v2, v3, v4])) = some y4 := hf 4 _ rfl
        rw [c1] at g0 g1 g2 g3 g4
        obtain ⟨k0, e0, _⟩ := DataW.trod_int Try.underlying2 g0
        obtain ⟨k1, e1, _⟩ := DataW.trod_int Try.underlying2 g1
        obtain ⟨k2, e2, _⟩ := DataW.trod_int Try.underlying2 g2
        obtain ⟨k3, e3, _⟩ := DataW.trod_int Try.underlying2 g3
        obtain ⟨k4, e4, _⟩ := DataW.trod_int Try.underlying2 g4
        simp at e0 e1 e2 e3 e4
        subst e0 e1 e2 e3 e4
        intro j hj
        have hj2 := hcell j hj
        match j, hj with
        | 0, _ => exact ⟨k0, by simpa using hj2⟩
        | 1, _ => exact ⟨k1, by simpa using hj2⟩
        | 2, _ => exact ⟨k2, by simpa using hj2⟩
        | 3, _ => exact ⟨k3, by simpa using hj2⟩
        | 4, _ => exact ⟨k4, by simpa using hj2⟩
    obtain ⟨k0, hk0⟩ := each 0 hp 0 (by decide)
    have hspot : spot = none := by simpa [Addr.add] using World.cell?_spot hk0
    subst hspot
    refine ⟨ab, ao, rfl, fun j hj i hi => ?_⟩
    obtain ⟨k, hk⟩ := each j hj i hi
    rw [addr_none, addr_none] at hk
    simp [hk, intOf]

theorem Ta.free {w : World} {base : Nat} {mv bv rv : Value} {zs : List Int} {C : Nat} {L : Nat → Nat} {F : Nat → Nat → Nat → Int} {R : Nat} {Z : Nat → List Int} {vb vr : Nat → Value} {tag tag' : Nat → Nat} (h : Ta w base mv bv rv zs C L F R Z vb vr tag) (hC : C ≤ 40) (hR : R ≤ 40) (ht : ∀ g, g < w.heap.size → tag g ≠ 100 → tag' g = tag g) : Ta w base mv bv rv zs C L F R Z vb vr tag' := by
  have hq : ∀ {t : Nat}, t ≠ 100 → ∀ g, g < w.heap.size → tag g = t → tag' g = t := fun {t} h1 g hg e => (ht g hg (by omega)).trans e
  exact ⟨h.ms, h.mb.retag (hq (by decide)), h.bs, h.bb.retag (hq (by decide)), h.rs, h.rb.retag (hq (by decide)), h.bi, fun c hc => (h.bI c hc).retag (hq (by omega)), h.ri, fun c hc => (h.rI c hc).retag (hq (by omega))⟩
theorem Ta.far {w w' : World} {base : Nat} {mv bv rv : Value} {zs : List Int} {C : Nat} {L : Nat → Nat} {F : Nat → Nat → Nat → Int} {R : Nat} {Z : Nat → List Int} {vb vr : Nat → Value} {tag : Nat → Nat} {row : Option Nat} (h : Ta w base mv bv rv zs C L F R Z vb vr tag) (hg : w.grownBy w' row) (hr : ∀ g, row = some g → tag g = 100000) (hC : C ≤ 40) (hR : R ≤ 40) : Ta w' base mv bv rv zs C L F R Z vb vr tag := by
  have hq : ∀ {t : Nat}, t ≠ 100000 → ∀ g, row = some g → tag g ≠ t := fun {t} ht g e => by rw [hr g e]; exact fun q => ht q.symm
  exact ⟨h.ms.grown h.mb hg (hq (by decide)), h.mb.grown hg (hq (by decide)), h.bs.grown h.bb hg (hq (by decide)), h.bb.grown hg (hq (by decide)), h.rs.grown h.rb hg (hq (by decide)), h.rb.grown hg (hq (by decide)), fun c hc => (h.bi c hc).grown (by decide) (h.bI c hc) hg (hq (by omega)), fun c hc => (h.bI c hc).grown hg (hq (by omega)), fun c hc => (h.ri c hc).grown (h.rI c hc) hg (hq (by omega)), fun c hc => (h.rI c hc).grown hg (hq (by omega))⟩

/-- what comes of acts, whatever the Tso and however many -/
def pD (d : Td) (C R n : Nat) (f : Nat → Nat → Int) : Td := if tokB d.zs C d.L d.F R d.Z = true ∧ n ≤ 200 then pl d C f n else zD
def pC (d : Td) (C R n : Nat) : Nat := if tokB d.zs C d.L d.F R d.Z = true ∧ n ≤ 200 then C else 0
def pK (d : Td) (C R n : Nat) (f : Nat → Nat → Int) : List Int := if tokB d.zs C d.L d.F R d.Z = true ∧ n ≤ 200 then pcs d C f n else []
theorem p_no {d : Td} {C R n : Nat} {f : Nat → Nat → Int} (h : tokB d.zs C d.L d.F R d.Z = false ∨ 200 < n) : pD d C R n f = zD ∧ pC d C R n = 0 ∧ pK d C R n f = [] := by
  have h' : ¬ (tokB d.zs C d.L d.F R d.Z = true ∧ n ≤ 200) := by
    rintro ⟨a, b⟩
    rcases h with h | h
    · rw [h] at a; exact absurd a (by decide)
    · omega
  exact ⟨if_neg h', if_neg h', if_neg h'⟩
theorem p_yes {d : Td} {C R n : Nat} {f : Nat → Nat → Int} (h : tokB d.zs C d.L d.F R d.Z = true ∧ n ≤ 200) : pD d C R n f = pl d C f n ∧ pC d C R n = C ∧ pK d C R n f = pcs d C f n := ⟨if_pos h, if_pos h, if_pos h⟩
theorem pl_all {d : Td} {C R n : Nat} {f : Nat → Nat → Int} {w w' : World} {e : Ending} (h : PlPost d C R n f w e w') :
    ∃ m b r vb vr tag cv, e = .returned (.tuple #[.agg #[m, b, r], cv]) ∧ TaD w' w.heap.size m b r (pD d C R n f) (pC d C R n) vb vr tag ∧ Ow w' w.heap.size cv (pK d C R n f) ∧ (∀ g, cv.ownBlock = some g → tag g = 100000) ∧ (∀ g, w'.heap.size ≤ g → tag g = 100000) ∧ Below w.heap.size w w' := by
  rcases h with ⟨hx, rfl, hb⟩ | ⟨hx, m, b, r, vb, vr, tag, cv, rfl, ta, ow, ot, hb⟩
  · obtain ⟨e1, e2, e3⟩ := p_no (f := f) hx
    rw [e1, e2, e3]
    exact ⟨nil3, nil3, nil3, _, _, fun x => if x < w'.heap.size ∧ (0 : Nat) ≠ 100 then 0 else 100000, nil3, rfl, Ta.free (nil_ta w' w.heap.size) (by omega) (by omega) (fun g hg h0 => if_pos ⟨hg, by decide⟩), ⟨rfl, .inl ⟨rfl, rfl⟩⟩, (fun g e => by cases e), fun g hg => if_neg (fun q => by omega), hb⟩
  · have hR := (tok_parts hx.1).2.1
    have hC := (tok_parts hx.1).1
    subst hR
    obtain ⟨e1, e2, e3⟩ := p_yes (f := f) hx
    rw [e1, e2, e3]
    exact ⟨m, b, r, vb, vr, fun x => if x < w'.heap.size ∧ tag x ≠ 100 then tag x else 100000, cv, rfl, Ta.free ta (by omega) (by omega) (fun g hg h0 => if_pos ⟨hg, h0⟩), ow, fun g e => if_neg (fun q => q.2 (ot g e)), fun g hg => if_neg (fun q => by omega), hb⟩
theorem sp_all {d : Td} {C R n : Nat} {f : Nat → Nat → Int} {w w' : World} {e : Ending} (h : SpPost d C R n f w e w') :
    ∃ m b r cv, e = .returned (.tuple #[.agg #[m, b, r], cv]) ∧ Tv w' m b r (pD d C R n f).zs (pC d C R n) (pD d C R n f).L (pD d C R n f).F (pC d C R n) (pD d C R n f).Z ∧ Sl w' cv (pK d C R n f) ∧ Below w.heap.size w w' := by
  rcases h with ⟨hx, rfl, hb⟩ | ⟨hx, m, b, r, cv, rfl, tv, sl, hb⟩
  · obtain ⟨e1, e2, e3⟩ := p_no (f := f) hx
    rw [e1, e2, e3]
    exact ⟨nil3, nil3, nil3, nil3, rfl, Ta.tv (nil_ta w' 0), sl_nil _, hb⟩
  · have hR := (tok_parts hx.1).2.1
    subst hR
    obtain ⟨e1, e2, e3⟩ := p_yes (f := f) hx
    rw [e1, e2, e3]
    exact ⟨m, b, r, cv, rfl, tv, sl, hb⟩
theorem pD_small (d : Td) (C R n : Nat) (f : Nat → Nat → Int) : Sml (pD d C R n f) (pC d C R n) ∧ (pK d C R n f).length ≤ 200 := by
  by_cases hx : tokB d.zs C d.L d.F R d.Z = true ∧ n ≤ 200
  · have hR := (tok_parts hx.1).2.1
    subst hR
    obtain ⟨e1, e2, e3⟩ := p_yes (f := f) hx
    rw [e1, e2, e3]
    exact ⟨tok_small (pl_tok hx.1 n), by rw [pcs_len]; exact hx.2⟩
  · have e1 : pD d C R n f = zD := if_neg hx
    have e2 : pC d C R n = 0 := if_neg hx
    have e3 : pK d C R n f = [] := if_neg hx
    rw [e1, e2, e3]
    exact ⟨⟨by simp [zD], by omega, fun c hc => absurd hc (by omega), fun c hc => absurd hc (by omega)⟩, by simp⟩
theorem mkK_le {d : Td} {D : Nat} (h : Sml d D) : mkK 1 d.zs.length D d.L D d.Z ≤ 1073741824 := by
  have h1 := sm2_le (1 + d.zs.length) d.L D h.l D (Nat.le_refl _)
  have h2 := sm1_le (sm2 (1 + d.zs.length) d.L D) (fun c => (d.Z c).length) D h.z D (Nat.le_refl _)
  have h3 := h.zs
  have h4 := h.c
  unfold mkK
  omega
/-- an answer in its box, and its codes beside it -/
theorem Bxd.same {W0 V : World} {base : Nat} {m b r : Value} {d : Td} {D : Nat} {vb vr : Nat → Value} {tag : Nat → Nat} (ta : TaD V base m b r d D vb vr tag) (hi : ∀ g, V.heap.size ≤ g → tag g = 100000) (lo : W0.heap.size ≤ base) (hb : Below W0.heap.size W0 V) :
    Bxd W0 (V.alloc (.cells #[m, b, r] 28)) V.heap.size base m b r d D vb vr tag := by
  have hA : Below V.heap.size V (V.alloc (.cells #[m, b, r] 28)) := (Below.refl _ _).alloc (Nat.le_refl _) _
  exact ⟨heap_alloc_new _ _, Ta.below ta hA, lo, .inr (hi _ (Nat.le_refl _)), fun g hg => hi g (Nat.le_trans hA.size hg), hb.trans (hA.mono hb.size), hb.size⟩
theorem own_chg {S : Nat → Prop} {w w' : World} {base m n : Nat} {T : TypeId} {v : Value} {xs : List Value} (h : w.ownsRow base T m v n xs) (hc : Chg S w w') (hS : ∀ b, S b → v.ownBlock ≠ some b) : w'.ownsRow base T m v n xs :=
  own_keep h (fun g e hg => hc.block g hg (fun s => hS g s e))

end Go.Proofs.Ytneofegnbflfiaa
