/- spec: l2Num over the words in memory -/
import Derived.Test.YtpebiebckdmopaaDoorNumA
import Derived.Test.YtpebiebckdmopaaDoorRmB
namespace Go.Proofs.YtpebiebckdmopaaDoor
open Go.RowKit

/-- the value's words in memory -/
def Wd (w : World) (v : Value) (ws : List (List UInt8)) : Prop :=
  ∃ (ad : Option Addr) (cap : Nat), v = .slice ad ws.length cap ∧ ws.length ≤ cap ∧ cap ≤ maxLen ∧
    (0 < ws.length → ∃ b off, ad = some ⟨b, off, none⟩ ∧ ∀ j, j < ws.length → w.cell? ⟨b, off + j, none⟩ = some (.string (bstr (ws.getD j [])))) ∧ ∀ x ∈ ws, x.length ≤ 1048576

theorem Wd.below {w w' : World} {v : Value} {ws : List (List UInt8)} (h : Wd w v ws) (hb : Below w.heap.size w w') : Wd w' v ws := by
  obtain ⟨ad, cap, rfl, h1, h2, hc, hx⟩ := h
  refine ⟨ad, cap, rfl, h1, h2, fun h0 => ?_, hx⟩
  obtain ⟨b, off, rfl, hd⟩ := hc h0
  exact ⟨b, off, rfl, fun j hj => keepc hb (hd j hj)⟩

/-- l2Num's number -/
def numAt (ws : List (List UInt8)) (i : Nat) : Int := match ws[i]? with
  | none => -1
  | some x => match Rdm.rd x with
    | none => -1
    | some v => (v : Int)

set_option maxRecDepth 20000 in
set_option maxHeartbeats 1000000 in
theorem l2Num_any (w : World) (v : Value) (ws : List (List UInt8)) (h : Wd w v ws) (i : Nat) (hi : i ≤ 10) :
    Calls Tryd.prog 30 #[v, .int .i64 (i : Int)] w fun e w' => e = .returned (.int .i64 (numAt ws i)) ∧ w' = w := by
  obtain ⟨ad, cap, rfl, hc1, hc2, hb, hx⟩ := h
  by_cases hlt : i < ws.length
  · obtain ⟨b, off, rfl, hc⟩ := hb (by omega)
    have hci := hc i hlt
    have hxi := hx (ws.getD i []) (by simp [List.getElem?_eq_getElem hlt])
    have hg : ws[i]? = some (ws.getD i []) := by simp [List.getElem?_eq_getElem hlt]
    obtain ⟨x, hxe⟩ : ∃ x, ws.getD i [] = x := ⟨_, rfl⟩
    rw [hxe] at hci hxi hg
    have HN := hide (show numAt ws i = match Rdm.rd x with | none => -1 | some v => (v : Int) by unfold numAt; rw [hg])
    obtain ⟨n, hn⟩ : ∃ n, ws.length = n := ⟨_, rfl⟩
    rw [hn] at hlt hc1 ⊢
    have hl : (i : Int) < (n : Int) := by omega
    have hl0 : (0 : Int) ≤ (i : Int) := by omega
    have hd : decide ((n : Int) ≤ (i : Int)) = false := by simp; omega
    clear hc hx hb hg hn
    go_enter Tryd.func30, Tryd.ntmps30
    go_wp2_with fail
    refine (l1Int_any (bstr x) w (by rw [bstr_size]; exact hxi)).mono ?_
    rintro e w2 ⟨rfl, rfl⟩
    rw [bstr_list]
    cases hr : Rdm.rd x with
    | none =>
      rw [(rd_bad hr).1, (rd_bad hr).2]
      have HN2 := hide (HN.out.trans (by rw [hr]))
      go_wp2
      go_ret
      exact ⟨ret_int HN2.out.symm, rfl⟩
    | some v =>
      rw [(rd_good hr).1, (rd_good hr).2]
      have HN2 := hide (HN.out.trans (by rw [hr]))
      go_wp2
      go_ret
      exact ⟨ret_int HN2.out.symm, rfl⟩
  · have HN := hide (show numAt ws i = -1 by unfold numAt; rw [List.getElem?_eq_none (by omega)])
    obtain ⟨n, hn⟩ : ∃ n, ws.length = n := ⟨_, rfl⟩
    rw [hn] at hlt ⊢
    have hl : (n : Int) ≤ (i : Int) := by omega
    clear hx hb hc1 hn
    go_enter Tryd.func30, Tryd.ntmps30
    go_wp2
    go_ret
    exact ⟨ret_int HN.out.symm, rfl⟩

end Go.Proofs.YtpebiebckdmopaaDoor
