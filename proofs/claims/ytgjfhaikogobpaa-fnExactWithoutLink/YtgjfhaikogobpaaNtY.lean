/- nets: the answers of WithoutLink, as the law meets them -/
import Derived.Test.YtgjfhaikogobpaaNtX
import Derived.Test.YtgjfhaikogobpaaNtS
namespace Go.Proofs.Ytgjfhaikogobpaa
open Go.RowKit
set_option linter.unusedVariables false
set_option linter.unusedSimpArgs false

/-- one answer for both sides -/
theorem wpost_ans (N : Int) (n : Nat) (f : Nat → Nat → Int) (a b : Int) : ∃ (M : Int) (m : Nat) (g : Nat → Nat → Int) (t : Bool), m ≤ n ∧ ∀ w e w', WPost w N n f a b e w' → ∃ ua uc, e = .returned (.tuple #[.agg (nt M (.slice ua m uc)), .bool t]) ∧ Orow w' (w.heap.size + 1) 42 2 (.slice ua m uc) m m g ∧ Below w.heap.size w w' := by
  by_cases h : netB N n f = true ∧ jn n f a b = true
  · obtain ⟨k0, hk0, h0, h1⟩ := jn_iff.1 h.2
    refine ⟨N, n - 1, fk f k0, true, by omega, ?_⟩
    rintro w e w' ⟨⟨_, k, u, hk, e0, e1, rfl, ho⟩ | ⟨q | q, _⟩, hb⟩
    · have e2 : k = k0 := link_one (nt_of h.1) hk hk0 (e0.trans h0.symm) (e1.trans h1.symm)
      subst e2
      obtain ⟨ua, uc, rfl⟩ := own_form ho
      exact ⟨ua, uc, rfl, ho, hb⟩
    · rw [h.1] at q; cases q
    · rw [h.2] at q; cases q
  · refine ⟨0, 0, fun _ _ => 0, false, Nat.zero_le _, ?_⟩
    rintro w e w' ⟨⟨hN, k, u, hk, e0, e1, rfl, ho⟩ | ⟨_, rfl⟩, hb⟩
    · exact absurd ⟨hN, jn_iff.2 ⟨k, hk, e0, e1⟩⟩ h
    · refine ⟨none, 0, rfl, ?_, hb⟩
      have : rowC 2 0 0 (fun _ _ => (0 : Int)) = [] := by simp [rowC]
      unfold Orow
      rw [this]
      exact World.ownsRow_nil _ _ _ _
theorem Orow.chg {S : Nat → Prop} {w w' : World} {base : Nat} {T : TypeId} {u : Value} {m n : Nat} {f : Nat → Nat → Int} (h : Orow w base T m u n n f) (hc : Chg S w w') (hne : ∀ j, u.ownBlock = some j → ¬ S j) : Orow w' base T m u n n f := by
  obtain ⟨h1, h2⟩ := h
  refine ⟨h1, ?_⟩
  rcases h2 with h2 | ⟨g, cap, cur, e, hb, hg, r⟩
  · exact .inl h2
  · subst e
    exact .inr ⟨g, cap, cur, rfl, hb, (hc.block g (lt_of_block hg) (hne g rfl)).trans hg, r⟩
/-- where its block is; a number that no block bears where there is none -/
theorem Orow.addr {w : World} {base : Nat} {T : TypeId} {ua : Option Addr} {n uc : Nat} {f : Nat → Nat → Int} (h : Orow w base T 2 (.slice ua n uc) n n f) : ∃ g, (0 < n → ua = some ⟨g, 0, none⟩ ∧ Wc w g (n * 2)) ∧ (n = 0 → g = w.heap.size) := by
  by_cases hn : n = 0
  · exact ⟨w.heap.size, fun hp => by omega, fun _ => rfl⟩
  · rcases h.2 with ⟨e, e2⟩ | ⟨g, cap, cur, e, hb, hg, hnc, hcm, hcs, _⟩
    · omega
    · simp only [Value.slice.injEq] at e
      obtain ⟨rfl, _, rfl⟩ := e
      exact ⟨g, fun hp => ⟨rfl, cur, T, hg, by omega⟩, fun h0 => absurd h0 hn⟩
theorem heap_bl {w w' : World} {g : Nat} {x : Obj} (h : w.heap[g]? = some x) (hb : Below w.heap.size w w') : w'.heap[g]? = some x := (hb.block g (lt_of_block h)).trans h
theorem heap_chg {S : Nat → Prop} {w w' : World} {g : Nat} {x : Obj} (h : w.heap[g]? = some x) (hc : Chg S w w') (hn : ¬ S g) : w'.heap[g]? = some x := (hc.block g (lt_of_block h) hn).trans h

end Go.Proofs.Ytgjfhaikogobpaa
