/- spec.ReadMsg: what it reads -/
import Derived.Test.YtpebiebckdmopaaDoorRmV
import Derived.Test.YtpebiebckdmopaaDoorRmG
import Derived.Test.YtpebiebckdmopaaDoorMsgG
namespace Go.Proofs.YtpebiebckdmopaaDoor
open Go.RowKit

/-- the text of any message -/
def textB (k f t l wt d : Int) : List UInt8 := if okB k f t l wt d then text k.toNat (f + t) l wt d else []

theorem ok_kind {k f t l wt d : Int} (h : okB k f t l wt d = true) : 1 ≤ k ∧ k ≤ 9 := by
  unfold okB at h
  simp only [Bool.and_eq_true, inB, decide_eq_true_eq] at h
  exact h.1.1.1.1

theorem specText_any (k f t l wt d : Int) (w : World) :
    Calls Tryd.prog 8 #[.agg #[.int .i64 k, .int .i64 f, .int .i64 t, .int .i64 l, .int .i64 wt, .int .i64 d]] w fun e w' => e = .returned (.string (bstr (textB k f t l wt d))) ∧ Below w.heap.size w w' := by
  unfold textB
  cases hok : okB k f t l wt d with
  | false => exact specText_no k f t l wt d w hok
  | true =>
    have hk := ok_kind hok
    obtain ⟨n, rfl⟩ := Int.eq_ofNat_of_zero_le (by omega : 0 ≤ k)
    exact specText_yes n f t l wt d w (by omega) (by omega) hok

abbrev text6 (m : Msg6) : List UInt8 := textB m.1 m.2.1 m.2.2.1 m.2.2.2.1 m.2.2.2.2.1 m.2.2.2.2.2

/-- the message that is read, right or not -/
def sread (ws : List (List UInt8)) : Msg6 :=
  let wt := if shapeWant (kOf ws) then numAt ws 3 else 0
  let d := if shapeData (kOf ws) then numAt ws (if shapeWant (kOf ws) then 4 else 3) else 0
  if shapeHome (kOf ws) then ((kOf ws : Int), numAt ws 1, 0, numAt ws 2, wt, d) else ((kOf ws : Int), 0, numAt ws 1, numAt ws 2, wt, d)

/-- what the specification answers -/
def sans (l : List UInt8) (ws : List (List UInt8)) : Option Msg6 := if l ≠ [] ∧ text6 (sread ws) = l then some (sread ws) else none

def kUpW : List (List UInt8) → Nat → Nat
  | [], _ => 0
  | x :: _, k => kUp x k

theorem nz_len (s : ByteArray) (hs : s.size ≤ 1048576) : ∀ x ∈ Rdm.nz (Rdm.sp s.data.toList), x.length ≤ 1048576 := by
  intro x hx
  have := (sp_len s.data.toList).1 x (List.mem_filter.1 hx).1
  rw [len_list] at this
  omega

/-- the loop's relation -/
def Lp (w : World) (B gw : Nat) (l : Int) (v : Value) (ws : List (List UInt8)) (k : Nat) (wr : World) : Prop :=
  SS w w.heap.size B #[.int .i64 (kUpW ws k : Int), .int .i64 0, .int .i64 0, .int .i64 l, .int .i64 0, .int .i64 0] v ws wr ∧ ∀ n, n < 10 → wr.cell? ⟨gw, n, none⟩ = some (.string (bstr (shapeWord n)))

theorem Lp.no {w : World} {B gw : Nat} {l : Int} {v : Value} {x : List UInt8} {r : List (List UInt8)} {k : Nat} {wr : World} (h : Lp w B gw l v (x :: r) k wr) (hne : shapeWord k ≠ x) (n : Nat) : Lp w B gw l v (x :: r) (k + 1) (wr.drewN n) := by
  obtain ⟨h1, h2⟩ := h
  refine ⟨?_, h2⟩
  have e : kUpW (x :: r) (k + 1) = kUpW (x :: r) k := kUp_no hne
  rw [e]
  exact h1.drewN n

theorem Lp.yes {w : World} {B gw : Nat} {l : Int} {v : Value} {x : List UInt8} {r : List (List UInt8)} {k : Nat} {wr : World} (h : Lp w B gw l v (x :: r) k wr) (hk : 1 ≤ k) (he : shapeWord k = x) (hg : gw ≠ B) (n : Nat) : Lp w B gw l v (x :: r) (k + 1) ((wr.drewN n).setCell ⟨B, 0, none⟩ (.int .i64 (k : Int))) := by
  obtain ⟨h1, h2⟩ := h
  have e : kUpW (x :: r) (k + 1) = k := kUp_yes hk he
  refine ⟨?_, fun j hj => ?_⟩
  · rw [e]; exact (h1.drewN n).put 0 _
  · rw [World.cell?_of_block (a := ⟨gw, j, none⟩) (heap_setCell_other (wr.drewN n) ⟨B, 0, none⟩ gw _ hg)]
    exact h2 j hj

end Go.Proofs.YtpebiebckdmopaaDoor
