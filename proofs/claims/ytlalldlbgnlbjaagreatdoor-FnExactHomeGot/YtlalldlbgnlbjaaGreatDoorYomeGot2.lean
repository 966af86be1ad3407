/- View -/
import Derived.Test.YtlalldlbgnlbjaaGreatDoorYomeGot1
import Derived.WalkKit
import Derived.WalkSpells
import Derived.Deep.QuietTactic
/-
  Views of a slice of int64: 'Sl': it can be read as zs; 'Ow': it is the call's own and holds zs. Plain facts on worlds: nothing of the program.
-/
namespace Go.Proofs.YtlalldlbgnlbjaaGreatDoor
open Go.RowKit

theorem unhide {p : Prop} (h : Hid p) : p := h

def Sl (w : World) (v : Value) (zs : List Int) : Prop :=
  ∃ ad cap, v = .slice ad zs.length cap ∧ (0 < zs.length → ∃ b off, ad = some ⟨b, off, none⟩ ∧ ∀ j, j < zs.length → w.cell? ⟨b, off + j, none⟩ = some (.int .i64 (zs.getD j 0)))

def Ow (w : World) (base : Nat) (v : Value) (zs : List Int) : Prop := w.ownsRow base 2 1 v zs.length (zs.map (Value.int .i64))

theorem Sl.carry {w w' : World} {v : Value} {zs : List Int} (h : Sl w v zs) (hb : ∀ a : Addr, ∀ u, w.cell? a = some u → w'.cell? a = some u) : Sl w' v zs := by
  obtain ⟨ad, cap, rfl, h⟩ := h
  refine ⟨ad, cap, rfl, fun hp => ?_⟩
  obtain ⟨b, off, rfl, hc⟩ := h hp
  exact ⟨b, off, rfl, fun j hj => hb _ _ (hc j hj)⟩

theorem Below.keep {w w' : World} (hb : Below w.heap.size w w') : ∀ a : Addr, ∀ u, w.cell? a = some u → w'.cell? a = some u := by
  intro a u h
  rw [hb.cell (World.block_lt_of_cell? w a h)]; exact h

theorem Sl.below {w w' : World} {v : Value} {zs : List Int} (h : Sl w v zs) (hb : Below w.heap.size w w') : Sl w' v zs := h.carry (Below.keep hb)

theorem grown_of_below {w w' : World} (hb : Below w.heap.size w w') : w.grownBy w' none := ⟨hb.os, hb.tape, hb.output, hb.size, fun k hk _ => hb.block k hk⟩

theorem Ow.below {w w' : World} {base : Nat} {v : Value} {zs : List Int} (h : Ow w base v zs) (hb : Below w.heap.size w w') : Ow w' base v zs := by
  refine World.ownsRow.kept h (grown_of_below hb) ?_
  cases hv : v.ownBlock with
  | none => exact .inl rfl
  | some k => exact .inr (by simp)

theorem Ow.sl {w : World} {base : Nat} {v : Value} {zs : List Int} (h : Ow w base v zs) : Sl w v zs := by
  rcases h.2 with ⟨h', hn⟩ | ⟨g, cap, cur, h', hb, hg, hnc, hcm, hcs, htake⟩
  · refine ⟨none, 0, by rw [hn]; exact h', fun hp => by omega⟩
  · refine ⟨some ⟨g, 0, none⟩, cap, h', fun _ => ⟨g, 0, rfl, fun j hj => ?_⟩⟩
    have hh : w.ownsRow base 2 1 (.slice (some ⟨g, 0, none⟩) zs.length cap) zs.length (zs.map (Value.int .i64)) := h' ▸ h
    have := hh.cellAt j (by omega)
    rw [Nat.zero_add, this]
    simp [hj]

theorem Ow.mono {w : World} {base base' : Nat} {v : Value} {zs : List Int} (h : Ow w base v zs) (hb : base' ≤ base) : Ow w base' v zs := by
  refine ⟨h.1, ?_⟩
  rcases h.2 with h' | ⟨g, cap, cur, h', hbb, hg⟩
  · exact .inl h'
  · exact .inr ⟨g, cap, cur, h', by omega, hg⟩

theorem addr_add (b off j : Nat) : (⟨b, off, none⟩ : Addr).add j = ⟨b, off + j, none⟩ := by
  unfold Addr.add
  by_cases h : j = 0
  · subst h; rfl
  · simp [h]

theorem sl_of_row {w : World} {x : Addr} {len cap : Nat} {z : List Int} (hl : len ≤ z.length) (hcell : ∀ i, i < z.length → w.cell? (x.add i) = some (.int .i64 (z.getD i 0))) : (z.take len).length = len ∧ Sl w (.slice (some x) len cap) (z.take len) := by
  have hlen : (z.take len).length = len := by rw [List.length_take]; omega
  refine ⟨hlen, some x, cap, by rw [hlen], fun hp => ?_⟩
  rw [hlen] at hp
  obtain ⟨b, off, spot⟩ := x
  have hc := hcell 0 (by omega)
  have hspot : spot = none := by simpa [Addr.add] using World.cell?_spot hc
  subst hspot
  refine ⟨b, off, rfl, fun j hj => ?_⟩
  rw [hlen] at hj
  have hcj := hcell j (by omega)
  rw [addr_add] at hcj
  rw [hcj]
  simp [hj]

theorem grown_trans {w w1 w2 : World} {row : Option Nat} (h : w.grownBy w1 row) (k : w1.grownBy w2 row) : w.grownBy w2 row :=
  ⟨k.os.trans h.os, k.tape.trans h.tape, k.output.trans h.output, Nat.le_trans h.size k.size, fun j hj hne => (k.block j (Nat.lt_of_lt_of_le hj h.size) hne).trans (h.block j hj hne)⟩

theorem Ow.form {w : World} {base : Nat} {v : Value} {zs : List Int} (h : Ow w base v zs) : ∃ ad cap, v = .slice ad zs.length cap ∧ (0 < zs.length → ∃ g, ad = some ⟨g, 0, none⟩) := by
  rcases h.2 with ⟨h', hn⟩ | ⟨g, cap, cur, h', _⟩
  · exact ⟨none, 0, by rw [hn]; exact h', fun hp => by omega⟩
  · exact ⟨_, cap, h', fun _ => ⟨g, rfl⟩⟩

end Go.Proofs.YtlalldlbgnlbjaaGreatDoor
