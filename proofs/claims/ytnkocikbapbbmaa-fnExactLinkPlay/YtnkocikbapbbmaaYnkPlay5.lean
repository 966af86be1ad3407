/- LnkG, LdA -/
import Derived.Test.YtnkocikbapbbmaaYnkPlay4
import Derived.WalkKit
import Derived.ProofKit
import Derived.OpenShut
import Derived.ShutString
import Derived.ChangeOld
import Derived.Below
import Derived.OpenVars
import Derived.Deep.SlicePairs
import Derived.BigRegion
/- links opened -/
namespace Go.Proofs.Ytnkocikbapbbmaa
open Go.RowKit
open Go.ChangeShapes Go.WideShapes Go.ChangeAt Go.WideMaps Go.WideElems
set_option linter.unusedVariables false
set_option linter.unusedSimpArgs false

set_option maxRecDepth 100000 in
theorem open_texts {W : World} {H : Type} {enc : TypeId × Value → H} {base : Nat} {spare : Nat → Bool} {held : Bool} {fuel : Nat} {cs : List Value} {x : DataW H × List MemPlace} (h : DataW.trod enc Try.prog W base spare held fuel 22 cs = some x) :
    ∃ (sa : Option Addr) (n sc : Nat) (s : Nat → ByteArray), cs = [.slice sa n sc] ∧ Sg W (.slice sa n sc) 1 n (tF s) ∧ n ≤ maxLen ∧ ∀ c, c < n → (s c).size ≤ maxLen := by
  rcases Go.Deep.open_slice1 Try.underlying22 (by kernel_rfl) h with ⟨rfl, _⟩ | ⟨a, len, cap, m, n, V, D, Pl, rfl, _, hlc, hcm, hmm, _, hx⟩
  · exact ⟨none, 0, 0, fun _ => ⟨#[]⟩, rfl, ⟨none, 0, rfl, fun hp => absurd hp (by simp)⟩, Nat.zero_le _, fun c hc => absurd hc (by simp)⟩
  · have hlm : len ≤ m := by rw [hmm]; split <;> omega
    have each : ∀ c, ∃ q : ByteArray, c < len → q.size ≤ maxLen ∧ W.cell? (a.add c) = some (.string q) := by
      intro c
      by_cases hc : c < len
      · obtain ⟨h1, h2⟩ := hx c (by omega)
        obtain ⟨s, e, _, hs⟩ := DataW.trod_string Try.underlying9 h2
        simp at e
        exact ⟨s, fun _ => ⟨hs, by rw [h1, e]⟩⟩
      · exact ⟨⟨#[]⟩, fun h => absurd h hc⟩
    obtain ⟨q, hq⟩ := Classical.axiomOfChoice each
    obtain ⟨ab, ao, spot⟩ := a
    refine ⟨_, len, cap, q, rfl, ⟨_, cap, rfl, fun hp => ?_⟩, by omega, fun c hc => (hq c hc).1⟩
    have hk0 := (hq 0 hp).2
    have hspot : spot = none := by simpa [Addr.add] using World.cell?_spot hk0
    subst hspot
    refine ⟨ab, ao, rfl, fun j hj i hi => ?_⟩
    obtain rfl : i = 0 := by omega
    rw [Nat.mul_one, Nat.add_zero, ← addrN]
    exact (hq j hj).2

set_option maxRecDepth 100000 in
theorem open_wires {W : World} {H : Type} {enc : TypeId × Value → H} {base : Nat} {spare : Nat → Bool} {held : Bool} {fuel : Nat} {cs : List Value} {x : DataW H × List MemPlace} (h : DataW.trod enc Try.prog W base spare held fuel 23 cs = some x) :
    ∃ (sa : Option Addr) (n sc : Nat) (t : Nat → ByteArray) (hh : Nat → Bool), cs = [.slice sa n sc] ∧ Sg W (.slice sa n sc) 2 n (wF t hh) ∧ n ≤ maxLen ∧ ∀ c, c < n → (t c).size ≤ maxLen := by
  have ce : Try.prog.cellsOf 72 = 2 := by kernel_rfl
  have c1 : Try.prog.cellsOf 9 = 1 := by kernel_rfl
  have c2 : Try.prog.cellsOf 4 = 1 := by kernel_rfl
  rcases Go.Deep.open_slice Try.underlying23 h with ⟨rfl, _⟩ | ⟨a, len, cap, m, n, D, Pl, rfl, _, hlc, hcm, hmm, _, hx⟩
  · exact ⟨none, 0, 0, fun _ => ⟨#[]⟩, fun _ => false, rfl, ⟨none, 0, rfl, fun hp => absurd hp (by simp)⟩, Nat.zero_le _, fun c hc => absurd hc (by simp)⟩
  · have hlm : len ≤ m := by rw [hmm]; split <;> omega
    have each : ∀ c, ∃ q : ByteArray × Bool, c < len → q.1.size ≤ maxLen ∧ W.cell? ((a.add (c * 2)).add 0) = some (.string q.1) ∧ W.cell? ((a.add (c * 2)).add 1) = some (.bool q.2) := by
      intro c
      by_cases hc : c < len
      · obtain ⟨cs', h1, h2⟩ := hx c (by omega)
        rw [ce] at h1
        obtain ⟨_, hlen, hcell⟩ := World.cells?_some h1
        obtain ⟨xs, k, _, _, _, hxl, hf⟩ := DataW.trod_struct Try.underlying72 h2
        match xs, hxl, cs', hlen with
        | [y0, y1], _, [v0, v1], _ =>
          have g0 : DataW.trod enc Try.prog W base spare held k 9 (List.take (Try.prog.cellsOf 9) (List.drop 0 [v0, v1])) = some y0 := hf 0 _ rfl
          have g1 : DataW.trod enc Try.prog W base spare held k 4 (List.take (Try.prog.cellsOf 4) (List.drop 1 [v0, v1])) = some y1 := hf 1 _ rfl
          rw [c1] at g0
          rw [c2] at g1
          obtain ⟨s, e0, _, hs⟩ := DataW.trod_string Try.underlying9 g0
          obtain ⟨b, e1, _⟩ := DataW.trod_bool Try.underlying4 g1
          simp at e0 e1
          subst e0 e1
          exact ⟨(s, b), fun _ => ⟨hs, by simpa using hcell 0 (by omega), by simpa using hcell 1 (by omega)⟩⟩
      · exact ⟨(⟨#[]⟩, false), fun h => absurd h hc⟩
    obtain ⟨q, hq⟩ := Classical.axiomOfChoice each
    obtain ⟨ab, ao, spot⟩ := a
    refine ⟨_, len, cap, fun c => (q c).1, fun c => (q c).2, rfl, ⟨_, cap, rfl, fun hp => ?_⟩, by omega, fun c hc => (hq c hc).1⟩
    have hk0 := (hq 0 hp).2.1
    have hspot : spot = none := by simpa [Addr.add] using World.cell?_spot hk0
    subst hspot
    refine ⟨ab, ao, rfl, fun j hj i hi => ?_⟩
    have h1 := (hq j hj).2
    rw [addrN, addrN, addrN] at h1
    match i, hi with
    | 0, _ => exact h1.1
    | 1, _ => exact h1.2

set_option maxRecDepth 100000 in
theorem open_link {W : World} {H : Type} {enc : TypeId × Value → H} {base b0 : Nat} {spare : Nat → Bool} {held : Bool} {r : Reach} {v : Value} {d : DataW H} {pp : List MemPlace} (hv : Value.okWide Try.prog W r b0 25 v) (h : DataW.Trod enc Try.prog W base spare held 25 v d pp) :
    ∃ (wv gv dv uv : Value) (p : Lk), v = .agg (l6 p.base wv p.want gv dv uv) ∧ Lv W wv gv dv uv p ∧ Lsm 9223372036854775807 p := by
  obtain ⟨cs, rfl, hsz⟩ := okWide_struct Try.underlying25 hv
  obtain ⟨fuel, hf⟩ := h
  obtain ⟨xs, n, _, _, hl, hlen, hg⟩ := DataW.trod_struct Try.underlying25 hf
  have c3 : Try.prog.cellsOf 25 = 6 := by kernel_rfl
  have cI : Try.prog.cellsOf 2 = 1 := by kernel_rfl
  have cS : Try.prog.cellsOf 22 = 1 := by kernel_rfl
  have cW : Try.prog.cellsOf 23 = 1 := by kernel_rfl
  rw [c3] at hsz
  obtain ⟨l⟩ := cs
  match l, hsz with
  | [a0, a1, a2, a3, a4, a5], _ =>
    match xs, hlen with
    | [x0, x1, x2, x3, x4, x5], _ =>
      have g0 : DataW.trod enc Try.prog W base spare held n 2 (List.take (Try.prog.cellsOf 2) (List.drop 0 [a0, a1, a2, a3, a4, a5])) = some x0 := hg 0 _ rfl
      have g1 : DataW.trod enc Try.prog W base spare held n 22 (List.take (Try.prog.cellsOf 22) (List.drop 1 [a0, a1, a2, a3, a4, a5])) = some x1 := hg 1 _ rfl
      have g2 : DataW.trod enc Try.prog W base spare held n 2 (List.take (Try.prog.cellsOf 2) (List.drop 2 [a0, a1, a2, a3, a4, a5])) = some x2 := hg 2 _ rfl
      have g3 : DataW.trod enc Try.prog W base spare held n 22 (List.take (Try.prog.cellsOf 22) (List.drop 3 [a0, a1, a2, a3, a4, a5])) = some x3 := hg 3 _ rfl
      have g4 : DataW.trod enc Try.prog W base spare held n 23 (List.take (Try.prog.cellsOf 23) (List.drop 4 [a0, a1, a2, a3, a4, a5])) = some x4 := hg 4 _ rfl
      have g5 : DataW.trod enc Try.prog W base spare held n 23 (List.take (Try.prog.cellsOf 23) (List.drop 5 [a0, a1, a2, a3, a4, a5])) = some x5 := hg 5 _ rfl
      rw [cI] at g0 g2
      rw [cS] at g1 g3
      rw [cW] at g4 g5
      obtain ⟨k0, e0, _⟩ := DataW.trod_int Try.underlying2 g0
      obtain ⟨k2, e2, _⟩ := DataW.trod_int Try.underlying2 g2
      obtain ⟨wa, nw, wc, ws, e1, hw, hw1, hw2⟩ := open_texts g1
      obtain ⟨ga, ng, gc, gs, e3, hgo, hg1, hg2⟩ := open_texts g3
      obtain ⟨da, nd, dc, dt, dh, e4, hd, hd1, hd2⟩ := open_wires g4
      obtain ⟨ua, nu, uc, ut, uh, e5, hu, hu1, hu2⟩ := open_wires g5
      simp at e0 e1 e2 e3 e4 e5
      subst e0 e1 e2 e3 e4 e5
      unfold maxLen at hw1 hw2 hg1 hg2 hd1 hd2 hu1 hu2
      refine ⟨_, _, _, _, ⟨k0, k2, nw, ng, nd, nu, ws, gs, dt, dh, ut, uh⟩, rfl, ⟨hw, hgo, hd, hu⟩, ⟨by omega, fun j hj => ?_⟩, ⟨by omega, fun j hj => ?_⟩, ⟨by omega, fun j hj => ?_⟩, ⟨by omega, fun j hj => ?_⟩⟩
      · have := hw2 j hj; simp only; omega
      · have := hg2 j hj; simp only; omega
      · have := hd2 j hj; simp only; omega
      · have := hu2 j hj; simp only; omega

end Go.Proofs.Ytnkocikbapbbmaa

/- impl.linkKindOf: an act by its kind (written by mkLdA.py) -/
namespace Go.Proofs.Ytnkocikbapbbmaa
open Go.RowKit
set_option linter.unusedVariables false
set_option linter.unusedSimpArgs false

abbrev a4 (k at' bit : Int) (body : ByteArray) : Array Value := #[.int .i64 k, .int .i64 at', .int .i64 bit, .string body]
/-- an act's value behind the interface -/
def laV (k at' bit : Int) (body : ByteArray) : Value :=
  if k = 1 then .iface 95 (.agg #[.string body])
  else if k = 2 then .iface 97 (.agg #[])
  else if k = 3 then .iface 102 (.agg #[.bool false, .int .i64 at'])
  else if k = 4 then .iface 102 (.agg #[.bool true, .int .i64 at'])
  else if k = 5 then .iface 104 (.agg #[.bool false, .int .i64 at'])
  else if k = 6 then .iface 104 (.agg #[.bool true, .int .i64 at'])
  else if k = 7 then .iface 108 (.agg #[.bool false, .int .i64 at', .int .i64 bit])
  else if k = 8 then .iface 108 (.agg #[.bool true, .int .i64 at', .int .i64 bit])
  else .nilIface
theorem laV_1 (at' bit : Int) (body : ByteArray) : laV 1 at' bit body = .iface 95 (.agg #[.string body]) := by simp [laV]
theorem laV_2 (at' bit : Int) (body : ByteArray) : laV 2 at' bit body = .iface 97 (.agg #[]) := by simp [laV]
theorem laV_3 (at' bit : Int) (body : ByteArray) : laV 3 at' bit body = .iface 102 (.agg #[.bool false, .int .i64 at']) := by simp [laV]
theorem laV_4 (at' bit : Int) (body : ByteArray) : laV 4 at' bit body = .iface 102 (.agg #[.bool true, .int .i64 at']) := by simp [laV]
theorem laV_5 (at' bit : Int) (body : ByteArray) : laV 5 at' bit body = .iface 104 (.agg #[.bool false, .int .i64 at']) := by simp [laV]
theorem laV_6 (at' bit : Int) (body : ByteArray) : laV 6 at' bit body = .iface 104 (.agg #[.bool true, .int .i64 at']) := by simp [laV]
theorem laV_7 (at' bit : Int) (body : ByteArray) : laV 7 at' bit body = .iface 108 (.agg #[.bool false, .int .i64 at', .int .i64 bit]) := by simp [laV]
theorem laV_8 (at' bit : Int) (body : ByteArray) : laV 8 at' bit body = .iface 108 (.agg #[.bool true, .int .i64 at', .int .i64 bit]) := by simp [laV]
theorem laV_no {k : Int} (at' bit : Int) (body : ByteArray) (h : ¬ (1 ≤ k ∧ k ≤ 8)) : laV k at' bit body = .nilIface := by
  unfold laV
  rw [if_neg (by omega), if_neg (by omega), if_neg (by omega), if_neg (by omega), if_neg (by omega), if_neg (by omega), if_neg (by omega), if_neg (by omega)]

set_option maxHeartbeats 1000000 in
theorem kind_1 (at' bit : Int) (body : ByteArray) (w : World) : Calls Try.prog 69 #[.agg (a4 1 at' bit body)] w fun e w' => e = .returned (.iface 95 (.agg #[.string body])) ∧ Below w.heap.size w w' := by
  go_enter Try.func69, Try.ntmps69
  go_wp2
  go_region
  all_goals go_wp2
  all_goals go_ret
  all_goals exact ⟨rfl, ((((Below.refl _ _).alloc (Nat.le_refl _) _).alloc (by simp) _).alloc (by simp; omega) _).drew⟩

set_option maxHeartbeats 1000000 in
theorem kind_2 (at' bit : Int) (body : ByteArray) (w : World) : Calls Try.prog 69 #[.agg (a4 2 at' bit body)] w fun e w' => e = .returned (.iface 97 (.agg #[])) ∧ Below w.heap.size w w' := by
  go_enter Try.func69, Try.ntmps69
  go_wp2
  go_region
  all_goals go_wp2
  all_goals go_ret
  all_goals exact ⟨rfl, ((((Below.refl _ _).alloc (Nat.le_refl _) _).alloc (by simp) _).alloc (by simp; omega) _).drew⟩

set_option maxHeartbeats 1000000 in
theorem kind_3 (at' bit : Int) (body : ByteArray) (w : World) : Calls Try.prog 69 #[.agg (a4 3 at' bit body)] w fun e w' => e = .returned (.iface 102 (.agg #[.bool false, .int .i64 at'])) ∧ Below w.heap.size w w' := by
  go_enter Try.func69, Try.ntmps69
  go_wp2
  go_region
  all_goals go_wp2
  all_goals go_ret
  all_goals exact ⟨rfl, ((((Below.refl _ _).alloc (Nat.le_refl _) _).alloc (by simp) _).alloc (by simp; omega) _).drew⟩

set_option maxHeartbeats 1000000 in
theorem kind_4 (at' bit : Int) (body : ByteArray) (w : World) : Calls Try.prog 69 #[.agg (a4 4 at' bit body)] w fun e w' => e = .returned (.iface 102 (.agg #[.bool true, .int .i64 at'])) ∧ Below w.heap.size w w' := by
  go_enter Try.func69, Try.ntmps69
  go_wp2
  go_region
  all_goals go_wp2
  all_goals go_ret
  all_goals exact ⟨rfl, ((((Below.refl _ _).alloc (Nat.le_refl _) _).alloc (by simp) _).alloc (by simp; omega) _).drew⟩

set_option maxHeartbeats 1000000 in
theorem kind_5 (at' bit : Int) (body : ByteArray) (w : World) : Calls Try.prog 69 #[.agg (a4 5 at' bit body)] w fun e w' => e = .returned (.iface 104 (.agg #[.bool false, .int .i64 at'])) ∧ Below w.heap.size w w' := by
  go_enter Try.func69, Try.ntmps69
  go_wp2
  go_region
  all_goals go_wp2
  all_goals go_ret
  all_goals exact ⟨rfl, ((((Below.refl _ _).alloc (Nat.le_refl _) _).alloc (by simp) _).alloc (by simp; omega) _).drew⟩

set_option maxHeartbeats 1000000 in
theorem kind_6 (at' bit : Int) (body : ByteArray) (w : World) : Calls Try.prog 69 #[.agg (a4 6 at' bit body)] w fun e w' => e = .returned (.iface 104 (.agg #[.bool true, .int .i64 at'])) ∧ Below w.heap.size w w' := by
  go_enter Try.func69, Try.ntmps69
  go_wp2
  go_region
  all_goals go_wp2
  all_goals go_ret
  all_goals exact ⟨rfl, ((((Below.refl _ _).alloc (Nat.le_refl _) _).alloc (by simp) _).alloc (by simp; omega) _).drew⟩

set_option maxHeartbeats 1000000 in
theorem kind_7 (at' bit : Int) (body : ByteArray) (w : World) : Calls Try.prog 69 #[.agg (a4 7 at' bit body)] w fun e w' => e = .returned (.iface 108 (.agg #[.bool false, .int .i64 at', .int .i64 bit])) ∧ Below w.heap.size w w' := by
  go_enter Try.func69, Try.ntmps69
  go_wp2
  go_region
  all_goals go_wp2
  all_goals go_ret
  all_goals exact ⟨rfl, ((((Below.refl _ _).alloc (Nat.le_refl _) _).alloc (by simp) _).alloc (by simp; omega) _).drew⟩

set_option maxHeartbeats 1000000 in
theorem kind_8 (at' bit : Int) (body : ByteArray) (w : World) : Calls Try.prog 69 #[.agg (a4 8 at' bit body)] w fun e w' => e = .returned (.iface 108 (.agg #[.bool true, .int .i64 at', .int .i64 bit])) ∧ Below w.heap.size w w' := by
  go_enter Try.func69, Try.ntmps69
  go_wp2
  go_region
  all_goals go_wp2
  all_goals go_ret
  all_goals exact ⟨rfl, ((((Below.refl _ _).alloc (Nat.le_refl _) _).alloc (by simp) _).alloc (by simp; omega) _).drew⟩

set_option maxHeartbeats 1000000 in
theorem kind_0 (k at' bit : Int) (body : ByteArray) (w : World) (h : ¬ (1 ≤ k ∧ k ≤ 8)) : Calls Try.prog 69 #[.agg (a4 k at' bit body)] w fun e w' => e = .returned .nilIface ∧ Below w.heap.size w w' := by
  have d1 : (k == 1) = false := by rw [beq_eq_false_iff_ne]; omega
  have d2 : (k == 2) = false := by rw [beq_eq_false_iff_ne]; omega
  have d3 : (k == 3) = false := by rw [beq_eq_false_iff_ne]; omega
  have d4 : (k == 4) = false := by rw [beq_eq_false_iff_ne]; omega
  have d5 : (k == 5) = false := by rw [beq_eq_false_iff_ne]; omega
  have d6 : (k == 6) = false := by rw [beq_eq_false_iff_ne]; omega
  have d7 : (k == 7) = false := by rw [beq_eq_false_iff_ne]; omega
  have d8 : (k == 8) = false := by rw [beq_eq_false_iff_ne]; omega
  clear h
  go_enter Try.func69, Try.ntmps69
  go_wp2
  go_region
  all_goals go_wp2
  all_goals go_ret
  all_goals exact ⟨rfl, ((((Below.refl _ _).alloc (Nat.le_refl _) _).alloc (by simp) _).alloc (by simp; omega) _).drew⟩

end Go.Proofs.Ytnkocikbapbbmaa
