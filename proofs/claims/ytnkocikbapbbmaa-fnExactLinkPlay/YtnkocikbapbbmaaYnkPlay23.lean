/- LdN -/
import Derived.Test.YtnkocikbapbbmaaYnkPlay20
import Derived.Test.YtnkocikbapbbmaaYnkPlay22
/- a wire's text and mark set in a row; a link with another row; rows cloned; LinkOk of a link with room -/
namespace Go.Proofs.Ytnkocikbapbbmaa
open Go.RowKit
set_option linter.unusedVariables false
set_option linter.unusedSimpArgs false

def upd {α : Type} (t : Nat → α) (z : Nat) (x : α) : Nat → α := fun j => if j = z then x else t j
/-- a link with a bit of a text turned -/
def flipD (p : Lk) (z n : Nat) : Lk := { p with dt := upd p.dt z (trn (p.dt z) n), dh := upd p.dh z true }
def flipU (p : Lk) (z n : Nat) : Lk := { p with ut := upd p.ut z (trn (p.ut z) n), uh := upd p.uh z true }
theorem Rg.rows {w : World} {base n : Nat} {a : Option Addr} {c m : Nat} {f : Nat → Nat → Value} (h : Rg w base (.slice a n c) m n f) (hn : 0 < n) : ∃ g off, a = some ⟨g, off, none⟩ ∧ n ≤ c ∧ c ≤ maxLen ∧ base ≤ g ∧ Wc w g (off + c * m) ∧ ∀ x, x < n * m → w.cell? ⟨g, off + x, none⟩ = some (f (x / m) (x % m)) := by
  rcases h with ⟨_, h⟩ | ⟨g, off, k, he, h1, hp, h0, h2, hwc, h4⟩
  · omega
  · simp only [Value.slice.injEq, true_and] at he
    obtain ⟨rfl, rfl⟩ := he
    exact ⟨g, off, rfl, h1, h0, h2, hwc, h4⟩
theorem Rg.setW {w : World} {base g off n k : Nat} {t : Nat → ByteArray} {h : Nat → Bool} {z : Nat} (s : ByteArray) (b : Bool) (hr : Rg w base (.slice (some ⟨g, off, none⟩) n k) 2 n (wF t h)) (hz : z < n) :
    Rg ((w.setCell ⟨g, off + z * 2, none⟩ (.string s)).setCell ⟨g, off + z * 2 + 1, none⟩ (.bool b)) base (.slice (some ⟨g, off, none⟩) n k) 2 n (wF (upd t z s) (upd h z b)) := by
  obtain ⟨g', off', e, h1, h2, h3, h4, h5⟩ := hr.rows (by omega)
  cases e
  refine .inr ⟨g, off, k, rfl, h1, by omega, h2, h3, (h4.set _).set _, fun x hx => ?_⟩
  have c0 := h5 (z * 2) (by omega)
  have c1 := h5 (z * 2 + 1) (by omega)
  by_cases e1 : x = z * 2 + 1
  · subst e1
    have q : (w.setCell ⟨g, off + z * 2, none⟩ (.string s)).cell? ⟨g, off + z * 2 + 1, none⟩ = some _ := (far_set (by omega)).trans c1
    rw [show off + (z * 2 + 1) = off + z * 2 + 1 by omega, World.cell?_setCell_same _ _ _ q, show (z * 2 + 1) / 2 = z by omega, show (z * 2 + 1) % 2 = 1 by omega]
    simp [wF, upd]
  · rw [far_set (by omega)]
    by_cases e2 : x = z * 2
    · subst e2
      rw [World.cell?_setCell_same _ _ _ c0, show z * 2 / 2 = z by omega, show z * 2 % 2 = 0 by omega]
      simp [wF, upd]
    · rw [far_set (by omega), h5 x hx]
      have : ¬ x / 2 = z := by omega
      unfold wF upd
      simp [this]
theorem Lr.with_dn {w : World} {base n' : Nat} {wv gv dv uv v' : Value} {p : Lk} {s' : Nat → ByteArray} {h' : Nat → Bool} (hr : Lr w base wv gv dv uv p) (hn : Rg w base v' 2 n' (wF s' h')) (hb : ∀ g, rb v' = some g → ¬ Lrb wv gv dv uv g) : Lr w base wv gv v' uv { p with nd := n', dt := s', dh := h' } :=
  ⟨hr.wa, hr.go, hn, hr.up, fun g hg => ⟨(hr.aw g hg).1, fun e => hb g e (.inl hg), (hr.aw g hg).2.2⟩, fun g hg => ⟨fun e => hb g e (.inr (.inl hg)), (hr.ag g hg).2⟩, fun g hg e => hb g hg (.inr (.inr (.inr e)))⟩
theorem Lr.with_up {w : World} {base n' : Nat} {wv gv dv uv v' : Value} {p : Lk} {s' : Nat → ByteArray} {h' : Nat → Bool} (hr : Lr w base wv gv dv uv p) (hn : Rg w base v' 2 n' (wF s' h')) (hb : ∀ g, rb v' = some g → ¬ Lrb wv gv dv uv g) : Lr w base wv gv dv v' { p with nu := n', ut := s', uh := h' } :=
  ⟨hr.wa, hr.go, hr.dn, hn, fun g hg => ⟨(hr.aw g hg).1, (hr.aw g hg).2.1, fun e => hb g e (.inl hg)⟩, fun g hg => ⟨(hr.ag g hg).1, fun e => hb g e (.inr (.inl hg))⟩, fun g hg e => hb g e (.inr (.inr (.inl hg)))⟩
theorem Rg.pl {w : World} {base n : Nat} {v : Value} {m : Nat} {f : Nat → Nat → Value} (h : Rg w base v m n f) : Pl v n := by
  rcases h with ⟨⟨ad, rfl⟩, rfl⟩ | ⟨g, off, k, rfl, _⟩
  · cases ad with
    | none => exact .inl ⟨rfl, rfl⟩
    | some a => exact .inr ⟨a, 0, rfl⟩
  · exact .inr ⟨_, k, rfl⟩
theorem clone_at (a : Option Addr) (n c base : Nat) (t : Nat → ByteArray) (h : Nat → Bool) (w : World) (hv : Rg w base (.slice a n c) 2 n (wF t h)) (hp : 0 < n) (hn : n ≤ 1048576) :
    Calls Try.prog 61 #[.slice a n c] w fun e w' => ∃ g off k, e = .returned (.slice (some ⟨g, off, none⟩) n k) ∧ Rg w' w.heap.size (.slice (some ⟨g, off, none⟩) n k) 2 n (wF t h) ∧ Below w.heap.size w w' := by
  refine (clone_wires _ n t h w hv.pl hv.sg hn).mono (fun e w' hh => ?_)
  obtain ⟨u, he, hr, hb⟩ := hh
  obtain ⟨xa, xc, rfl, _⟩ := hr.form
  obtain ⟨g, off, rfl, _⟩ := hr.rows hp
  exact ⟨g, off, xc, he, hr, hb⟩
theorem there_as_dn (b : Bool) (pb pk : Int) (wa ga da ua : Option Addr) (nw ng nd nu wc gc dc uc : Nat) (z : Int) (w : World) (hb : thB nd z = b) : Calls Try.prog 81 #[.agg (l6 pb (.slice wa nw wc) pk (.slice ga ng gc) (.slice da nd dc) (.slice ua nu uc)), .agg #[.bool false, .int .i64 z]] w fun e w' => e = .returned (.bool b) ∧ Below w.heap.size w w' := by
  subst hb; exact there_dn _ _ _ _ _ _ _ _ _ _ _ _ _ _ z w
theorem there_as_up (b : Bool) (pb pk : Int) (wa ga da ua : Option Addr) (nw ng nd nu wc gc dc uc : Nat) (z : Int) (w : World) (hb : thB nu z = b) : Calls Try.prog 81 #[.agg (l6 pb (.slice wa nw wc) pk (.slice ga ng gc) (.slice da nd dc) (.slice ua nu uc)), .agg #[.bool true, .int .i64 z]] w fun e w' => e = .returned (.bool b) ∧ Below w.heap.size w w' := by
  subst hb; exact there_up _ _ _ _ _ _ _ _ _ _ _ _ _ _ z w

end Go.Proofs.Ytnkocikbapbbmaa
