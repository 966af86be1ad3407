/- PairWrite of impl -/
import Derived.Test.YtplnfddleaoimaaPrN
namespace Go.Proofs.Ytplnfddleaoimaa
open Go.RowKit
set_option linter.unusedVariables false
set_option linter.unusedSimpArgs false

def kWrite (zl zr : List Int) (lu ru : Bool) (line value : Int) : Bool := pairB zl zr lu ru && inB line 0 (max zl.length zr.length : Nat) && inB value 0 1000001
def aWrite (zl zr : List Int) (lu ru : Bool) (line value : Int) : PA :=
  if kWrite zl zr lu ru line value then ⟨if lu then zl.set line.toNat value else zl, if ru then zr.set line.toNat value else zr, lu, ru, true⟩ else PA.no
theorem aWrite_len (zl zr : List Int) (lu ru : Bool) (line value : Int) (h : zl.length + zr.length ≤ 1048576) : (aWrite zl zr lu ru line value).zl.length + (aWrite zl zr lu ru line value).zr.length ≤ 1048576 := by
  unfold aWrite
  generalize kWrite zl zr lu ru line value = b
  cases b
  · show 0 + 0 ≤ 1048576; omega
  · cases lu <;> cases ru <;> simp <;> omega
theorem aWrite_no {zl zr : List Int} {lu ru : Bool} {line value : Int} (h : kWrite zl zr lu ru line value = false) : aWrite zl zr lu ru line value = PA.no := by unfold aWrite; rw [h]; rfl

/-- a store into a row of one's own -/
theorem Ow.put {w : World} {lo p n c j : Nat} {zs : List Int} (h : Ow w lo (.slice (some ⟨p, 0, none⟩) n c) zs) (hj : j < zs.length) (v : Int) :
    Ow (w.setCell ⟨p, j, none⟩ (.int .i64 v)) lo (.slice (some ⟨p, 0, none⟩) n c) (zs.set j v) ∧ w.frozen? ⟨p, j, none⟩ = false ∧ ∃ o, w.cell? ⟨p, j, none⟩ = some o := by
  obtain ⟨ad, cap, e, _⟩ := h.form
  simp only [Value.slice.injEq] at e
  obtain ⟨_, rfl, _⟩ := e
  unfold Ow at *
  refine ⟨?_, h.frozenAt j, ?_⟩
  · rw [List.length_set, List.map_set]
    exact (h.stored j _).1
  · have h1 := h.cellAt j (by omega)
    have h2 : j < (zs.map (Value.int .i64)).length := by rw [List.length_map]; exact hj
    rw [List.getElem?_eq_getElem h2] at h1
    exact ⟨_, h1⟩
theorem Mi.putL {w : World} {lo hi Bl Br p n c j : Nat} {R : Value} {zl zr : List Int} {lu ru : Bool} (h : Mi w lo hi Bl Br (.slice (some ⟨p, 0, none⟩) n c) R zl zr lu ru) (hj : j < zl.length) (v : Int) :
    Mi (w.setCell ⟨p, j, none⟩ (.int .i64 v)) lo hi Bl Br (.slice (some ⟨p, 0, none⟩) n c) R (zl.set j v) zr lu ru := by
  have hp := h.hl p rfl
  have h2 := h.h2
  refine ⟨?_, ?_, (h.ol.put hj v).1, h.or.set (fun k hk => by have := h.hr k hk; omega), h.hl, h.hr, h.h1, h.h2, h.h3⟩
  · rw [heap_setCell_other _ _ _ _ (by simp; omega)]; exact h.bl
  · rw [heap_setCell_other _ _ _ _ (by simp; omega)]; exact h.br
theorem Mi.putR {w : World} {lo hi Bl Br p n c j : Nat} {L : Value} {zl zr : List Int} {lu ru : Bool} (h : Mi w lo hi Bl Br L (.slice (some ⟨p, 0, none⟩) n c) zl zr lu ru) (hj : j < zr.length) (v : Int) :
    Mi (w.setCell ⟨p, j, none⟩ (.int .i64 v)) lo hi Bl Br L (.slice (some ⟨p, 0, none⟩) n c) zl (zr.set j v) lu ru := by
  have hp := h.hr p rfl
  refine ⟨?_, ?_, h.ol.set (fun k hk => by have := h.hl k hk; omega), (h.or.put hj v).1, h.hl, h.hr, h.h1, h.h2, h.h3⟩
  · rw [heap_setCell_other _ _ _ _ (by simp; omega)]; exact h.bl
  · rw [heap_setCell_other _ _ _ _ (by simp; omega)]; exact h.br

/-- the lists when k sides are written -/
def zlk (zl : List Int) (lu : Bool) (j : Nat) (v : Int) (k : Nat) : List Int := if lu = true ∧ 0 < k then zl.set j v else zl
def zrk (zr : List Int) (lu ru : Bool) (j : Nat) (v : Int) (k : Nat) : List Int := if ru = true ∧ (if lu then 1 < k else 0 < k) then zr.set j v else zr
theorem zk_zero (zl zr : List Int) (lu ru : Bool) (j : Nat) (v : Int) : zlk zl lu j v 0 = zl ∧ zrk zr lu ru j v 0 = zr := by cases lu <;> cases ru <;> simp [zlk, zrk]
theorem zk_end (zl zr : List Int) (lu ru : Bool) (j : Nat) (v : Int) (Bl Br : Nat) : zlk zl lu j v (ups lu ru Bl Br).length = (if lu then zl.set j v else zl) ∧ zrk zr lu ru j v (ups lu ru Bl Br).length = (if ru then zr.set j v else zr) := by cases lu <;> cases ru <;> simp [zlk, zrk, ups]

theorem Ci.set {lo hi : Nat} {w w1 : World} (h : Ci lo hi w w1) {B i : Nat} (h1 : lo ≤ B) (h2 : B < hi) (v : Value) : Ci lo hi w (w1.setCell ⟨B, i, none⟩ v) := by
  have hb : Below 0 w1 (w1.setCell ⟨B, i, none⟩ v) := (Below.refl 0 w1).setCell (Nat.zero_le _) v
  exact h.trans ⟨hb.os, hb.tape, hb.output, hb.size, fun j hj hs => heap_setCell_other _ _ _ _ (fun e => by subst e; omega)⟩

/-- one more side is written -/
theorem Mi.step {w : World} {lo hi Bl Br : Nat} {L R : Value} {zl zr : List Int} {lu ru : Bool} {j N k : Nat} {v : Int} (h : Mi w lo hi Bl Br L R (zlk zl lu j v k) (zrk zr lu ru j v k) lu ru) (h1 : lu = true → zl.length = N) (h2 : ru = true → zr.length = N) (hj : j < N) (hk : k < (ups lu ru Bl Br).length) :
    ∃ p n c, w.cell? ⟨(ups lu ru Bl Br).getD k 0, 0, none⟩ = some (.slice (some ⟨p, 0, none⟩) n c) ∧ j < n ∧ w.frozen? ⟨p, j, none⟩ = false ∧ (∃ o, w.cell? ⟨p, j, none⟩ = some o) ∧ lo ≤ p ∧ p < hi ∧ Mi (w.setCell ⟨p, j, none⟩ (.int .i64 v)) lo hi Bl Br L R (zlk zl lu j v (k + 1)) (zrk zr lu ru j v (k + 1)) lu ru := by
  have c1 := (side_facts h.bl).2.1
  have c2 := (side_facts h.br).2.1
  have hh2 := h.h2
  have hh3 := h.h3
  have left : lu = true → k = 0 → ∃ p n c, w.cell? ⟨Bl, 0, none⟩ = some (.slice (some ⟨p, 0, none⟩) n c) ∧ j < n ∧ w.frozen? ⟨p, j, none⟩ = false ∧ (∃ o, w.cell? ⟨p, j, none⟩ = some o) ∧ lo ≤ p ∧ p < hi ∧ Mi (w.setCell ⟨p, j, none⟩ (.int .i64 v)) lo hi Bl Br L R (zl.set j v) zr lu ru := by
    intro hlu hk0
    subst hlu hk0
    have e1 : zlk zl true j v 0 = zl := by simp [zlk]
    have e2 : zrk zr true ru j v 0 = zr := by cases ru <;> simp [zrk]
    rw [e1, e2] at h
    obtain ⟨ad, cap, e, hg⟩ := h.ol.form
    obtain ⟨p, rfl⟩ := hg (by rw [h1 rfl]; omega)
    subst e
    have hlt := h.ol.lt p rfl
    have hp := h.hl p rfl
    have hjl : j < zl.length := by rw [h1 rfl]; exact hj
    obtain ⟨_, q1, q2⟩ := h.ol.put hjl v
    exact ⟨p, _, _, c1, hjl, q1, q2, hlt.1, by omega, h.putL hjl v⟩
  have right : ru = true → zrk zr lu ru j v k = zr → ∃ p n c, w.cell? ⟨Br, 0, none⟩ = some (.slice (some ⟨p, 0, none⟩) n c) ∧ j < n ∧ w.frozen? ⟨p, j, none⟩ = false ∧ (∃ o, w.cell? ⟨p, j, none⟩ = some o) ∧ lo ≤ p ∧ p < hi ∧ Mi (w.setCell ⟨p, j, none⟩ (.int .i64 v)) lo hi Bl Br L R (zlk zl lu j v k) (zr.set j v) lu ru := by
    intro hru e2
    rw [e2] at h
    obtain ⟨ad, cap, e, hg⟩ := h.or.form
    obtain ⟨p, rfl⟩ := hg (by rw [h2 hru]; omega)
    subst e
    have hlt := h.or.lt p rfl
    have hp := h.hr p rfl
    have hjl : j < zr.length := by rw [h2 hru]; exact hj
    obtain ⟨_, q1, q2⟩ := h.or.put hjl v
    exact ⟨p, _, _, c2, hjl, q1, q2, hlt.1, by omega, h.putR hjl v⟩
  cases lu with
  | false =>
    cases ru with
    | false => exact absurd hk (by simp [ups])
    | true =>
      have hk0 : k = 0 := by simp [ups] at hk; omega
      subst hk0
      have := right rfl (by simp [zrk])
      simpa [zlk, zrk, ups] using this
  | true =>
    cases ru with
    | false =>
      have hk0 : k = 0 := by simp [ups] at hk; omega
      have := left rfl hk0
      subst hk0
      simpa [zlk, zrk, ups] using this
    | true =>
      have hk0 : k = 0 ∨ k = 1 := by simp [ups] at hk; omega
      rcases hk0 with rfl | rfl
      · have := left rfl rfl
        simpa [zlk, zrk, ups] using this
      · have := right rfl (by simp [zrk])
        simpa [zlk, zrk, ups] using this

end Go.Proofs.Ytplnfddleaoimaa
