/- an answer of many looks: a cache and a row of bools that lie apart; marked and found marked -/
import Derived.Test.YtcbadkljmcpghaaCaB4
namespace Go.Proofs.Ytcbadkljmcpghaa
open Go.RowKit
set_option linter.unusedVariables false
set_option linter.unusedSimpArgs false

def AnX (w : World) (B E : Nat) (v : Value) (m : Nat) (D : Nat → Sm) (vb : Value) : Prop :=
  (m = 2 ∧ ∃ G ib, Cg w B v 2 (fun _ => 4) D G ib ∧ (G < E ∧ ∀ c, c < 2 → ib c < E) ∧ Apart vb G ib) ∨ (m = 0 ∧ v = .slice none 0 0)
theorem AnX.an {w : World} {B E : Nat} {v : Value} {m : Nat} {D : Nat → Sm} {vb : Value} (h : AnX w B E v m D vb) : An w B E v m D := by
  rcases h with ⟨rfl, G, ib, h, h2, _⟩ | h
  · exact .inl ⟨rfl, G, ib, h, h2⟩
  · exact .inr h
theorem AnX.below {w w' : World} {B E : Nat} {v : Value} {m : Nat} {D : Nat → Sm} {vb : Value} (h : AnX w B E v m D vb) (hb : Below w.heap.size w w') : AnX w' B E v m D vb := by
  rcases h with ⟨rfl, G, ib, h, h2⟩ | h
  · exact .inl ⟨rfl, G, ib, h.below hb, h2⟩
  · exact .inr h
theorem AnX.drew {w : World} {B E : Nat} {v : Value} {m : Nat} {D : Nat → Sm} {vb : Value} (h : AnX w B E v m D vb) : AnX w.drew B E v m D vb := h.below ((Below.refl _ _).drew)
theorem AnX.chg {S : Nat → Prop} {w w' : World} {B E : Nat} {v : Value} {m : Nat} {D : Nat → Sm} {vb : Value} (h : AnX w B E v m D vb) (hc : Chg S w w') (hS : ∀ j, B ≤ j → j < E → ¬ S j) : AnX w' B E v m D vb := by
  rcases h with ⟨rfl, G, ib, h, h2, h3⟩ | h
  · exact .inl ⟨rfl, G, ib, h.chg hc (hS _ h.lo.1 h2.1) (fun c hcc => hS _ (h.lo.2 c hcc) (h2.2 c hcc)), h2, h3⟩
  · exact .inr h
def AmX (w : World) (v : Value) (m : Nat) (vb : Value) : Prop := (m = 2 ∧ ∃ G ib cap, v = sl G 2 cap ∧ MV w G 2 (fun _ => 4) ib 1 ∧ Apart vb G ib) ∨ (m = 0 ∧ v = .slice none 0 0)
theorem AmX.am {w : World} {v : Value} {m : Nat} {vb : Value} (h : AmX w v m vb) : Am w v m := by
  rcases h with ⟨rfl, G, ib, cap, e, h, _⟩ | h
  · exact .inl ⟨rfl, G, ib, cap, e, h⟩
  · exact .inr h
theorem AmX.chg {w w' : World} {v : Value} {m : Nat} {vb : Value} (h : AmX w v m vb) {S : Nat → Prop} (hc : Chg S w w') (hS : ∀ j, S j → vb.ownBlock = some j) : AmX w' v m vb := by
  rcases h with ⟨rfl, G, ib, cap, e, h, ha⟩ | h
  · have nG : ¬ S G := fun x => (ha G (hS _ x)).1 rfl
    have nI : ∀ c, c < 2 → ¬ S (ib c) := fun c hcc x => (ha _ (hS _ x)).2 c hcc rfl
    exact .inl ⟨rfl, G, ib, cap, e, ⟨fun c hcc => hc.cell nG (h.bits c hcc), fun c hcc => by obtain ⟨ic, x⟩ := h.rows c hcc; exact ⟨ic, hc.cell nG x⟩, fun c hcc => (h.ways c hcc).chg hc (nI c hcc)⟩, ha⟩
  · exact .inr h
theorem AmX.below {w w' : World} {v : Value} {m : Nat} {vb : Value} (h : AmX w v m vb) (hb : Below w.heap.size w w') : AmX w' v m vb := by
  rcases h with ⟨rfl, G, ib, cap, e, h, ha⟩ | h
  · exact .inl ⟨rfl, G, ib, cap, e, h.below hb, ha⟩
  · exact .inr h
theorem markAnX {w : World} {B E : Nat} {v : Value} {m : Nat} {D : Nat → Sm} {vb : Value} (h : AnX w B E v m D vb) : Calls Try.prog 21 #[.agg #[v], .int .i64 1] w fun e w' => e = .returned (.int .i64 (km m)) ∧ Chg (fun j => B ≤ j ∧ j < E) w w' ∧ AmX w' v m vb := by
  rcases h with ⟨rfl, G, ib, h, h2, h3⟩ | ⟨rfl, rfl⟩
  · obtain ⟨cap, hv⟩ := h.val
    refine (markCache_any v B 2 (fun _ => 4) D G ib w h (by decide) four_le).mono ?_
    rintro e w' ⟨rfl, hc, hm⟩
    refine ⟨rfl, hc.mono ?_, .inl ⟨rfl, G, ib, cap, hv, hm, h3⟩⟩
    rintro j (rfl | ⟨c, hcc, rfl⟩)
    · exact ⟨h.lo.1, h2.1⟩
    · exact ⟨h.lo.2 c hcc, h2.2 c hcc⟩
  · refine (markCacheNil w).mono ?_
    rintro e w' ⟨rfl, hb⟩
    exact ⟨rfl, chg_of_below hb, .inr ⟨rfl, rfl⟩⟩

/-- a row of bools that may be written -/
def Bw (w : World) (B E : Nat) (v : Value) (n : Nat) : Prop := (v = .slice none 0 0 ∧ n = 0) ∨ ∃ g cap, v = sl g n cap ∧ B ≤ g ∧ g < E ∧ Wc w g n
theorem Bo.bw {w : World} {B E : Nat} {v : Value} {n : Nat} {h : Nat → Bool} (r : Bo w B E v n h) : Bw w B E v n := by
  rcases r with x | ⟨g, cap, e, h1, h2, hw, _⟩
  · exact .inl x
  · exact .inr ⟨g, cap, e, h1, h2, hw⟩
theorem Bw.chg {S : Nat → Prop} {w w' : World} {B E : Nat} {v : Value} {n : Nat} (r : Bw w B E v n) (hc : Chg S w w') : Bw w' B E v n := by
  rcases r with x | ⟨g, cap, e, h1, h2, hw⟩
  · exact .inl x
  · exact .inr ⟨g, cap, e, h1, h2, hc.keep _ _ hw⟩
theorem markBw {w : World} {B E : Nat} {v : Value} {n : Nat} (k0 : Int) (h0 : 0 ≤ k0) (h1 : k0 ≤ 1152921504606846976) (r : Bw w B E v n) (hl : n ≤ 1048576) : Calls Try.prog 38 #[v, .int .i64 k0] w fun e w' => e = .returned (.int .i64 (k0 + n)) ∧ Chg (fun j => v.ownBlock = some j ∧ B ≤ j ∧ j < E) w w' ∧ Bm w' v n k0 := by
  rcases r with ⟨rfl, rfl⟩ | ⟨g, cap, rfl, hb, he, hw⟩
  · refine (markBoolS_any none 0 0 0 k0 w h0 h1 (fun h => by omega) (fun h => by omega) hl).mono ?_
    rintro e w' ⟨rfl, hc, _⟩
    exact ⟨rfl, hc.mono (fun j hj => by omega), .inl ⟨rfl, rfl⟩⟩
  · refine (markBoolS_any _ g n cap k0 w h0 h1 (fun _ => rfl) (fun _ => hw) hl).mono ?_
    rintro e w' ⟨rfl, hc, hv⟩
    exact ⟨rfl, hc.mono (fun j hj => by obtain ⟨_, rfl⟩ := hj; exact ⟨rfl, hb, he⟩), .inr ⟨g, cap, rfl, hv⟩⟩

def alM (n : Nat) (L : Nat → Nat) (D : Nat → Sm) (zs : List Int) : Nat := if aok n L D zs = true then 2 else 0
def alK (n : Nat) (L : Nat → Nat) (D : Nat → Sm) (zs : List Int) : Nat := if aok n L D zs = true then zs.length else 0
theorem alK_le (n : Nat) (L : Nat → Nat) (D : Nat → Sm) (zs : List Int) : alK n L D zs ≤ 1048576 := by
  unfold alK
  split
  · rename_i h
    simp only [aok, Bool.and_eq_true, decide_eq_true_eq] at h
    omega
  · omega
theorem AllPost.an {n : Nat} {L : Nat → Nat} {D : Nat → Sm} {zs : List Int} {w : World} {e : Ending} {w' : World} (h : AllPost n L D zs w e w') :
    ∃ ad cap vb, e = .returned (.tuple #[.agg #[.slice ad (alM n L D zs) cap], vb]) ∧ AnX w' w.heap.size w'.heap.size (.slice ad (alM n L D zs) cap) (alM n L D zs) (two (Ca.rn (D 0) (D 1) (zf zs) zs.length).1 (Ca.rn (D 0) (D 1) (zf zs) zs.length).2) vb ∧ Bo w' w.heap.size w'.heap.size vb (alK n L D zs) (Ca.ht (D 0) (D 1) (zf zs)) ∧ Below w.heap.size w w' := by
  rcases h with ⟨hc, G, c, ib, vb, rfl, hg, hr, ha, hb⟩ | ⟨hc, rfl, hb⟩
  · simp only [alM, alK, if_pos hc]
    exact ⟨_, c, vb, rfl, .inl ⟨rfl, G, ib, hg, ⟨hg.wcG.lt, fun c hcc => (hg.wcI c hcc).lt⟩, ha⟩, Rb.bo hr, hb⟩
  · have hn : ¬ aok n L D zs = true := by rw [hc]; decide
    simp only [alM, alK, if_neg hn]
    exact ⟨none, 0, .slice none 0 0, rfl, .inr ⟨rfl, rfl⟩, .inl ⟨rfl, rfl⟩, hb⟩

theorem Ow.wc {w : World} {base g n cap : Nat} {zs : List Int} (h : Ow w base (.slice (some ⟨g, 0, none⟩) n cap) zs) (hn : zs.length = n) : Wc w g n ∧ base ≤ g ∧ g < w.heap.size := by
  rcases h.2 with ⟨h', _⟩ | ⟨g', cp, cur, h', hb, hg, hnc, hcm, hcs, _⟩
  · cases h'
  · simp only [Value.slice.injEq, Option.some.injEq, Addr.mk.injEq, and_true, true_and] at h'
    obtain ⟨rfl, _, rfl⟩ := h'
    exact ⟨⟨cur, _, hg, by omega⟩, hb, lt_of_block hg⟩

end Go.Proofs.Ytcbadkljmcpghaa
