/- DrawReadLitmus -/
import Derived.Test.YtokekgfompbdiaaDoorRgC
import Derived.Test.YtokekgfompbdiaaDoorRdH
namespace Go.Proofs.YtokekgfompbdiaaDoor
open Go.RowKit
set_option linter.unusedVariables false
set_option linter.unusedSimpArgs false

theorem tsL_len (ts : List (List Ac)) : (tsL ts).length ≤ 130 := by
  unfold tsL tsT
  split
  · rename_i h
    have h1 := lit_acts h
    have h2 := ltT_len h1.2 ts.length (Nat.le_refl _)
    omega
  · simp
/-- a drawn text -/
def DrPost (w : World) (e : Ending) (w' : World) : Prop := ∃ t : By, e = .returned (.string (bstr t)) ∧ t.length ≤ 1000 ∧ Below w.heap.size w w'

set_option maxRecDepth 20000 in
set_option maxHeartbeats 4000000 in
theorem drawReadLit_any (ad : Option Addr) (nn cap : Nat) (w : World) (hb : Bt w ad nn) (hn : nn ≤ 1048576) : Calls Tryd.prog 11 #[.slice ad nn cap] w (DrPost w) := by
  go_enter Tryd.func11, Tryd.ntmps11
  go_wp2_with fail
  refine (open_any ad nn cap _ hb hn).mono ?_
  rintro e w1 ⟨g, rfl, hg0, hr1, hb1⟩
  clear hb
  go_wp2_with fail
  refine (litmus_any g _ hr1).mono ?_
  rintro e w2 ⟨v, ts, vs, rfl, ho, hr2, hg2, ht12, ht3⟩
  have hB2 : Below w.heap.size w w2 := hb1.grown hg2 hb1.size (fun k hk => by have := Option.some.inj hk; omega)
  have HS := hide ho.sa
  have HX6 : Hid (∀ c, c < ts.length → Lf ts c ≤ 1048576) := hide (fun c hc => by
    have : ts.getD c [] ∈ ts := by simp [List.getElem?_eq_getElem hc]
    have := ht3 _ this
    unfold Lf
    omega)
  obtain ⟨va, vc, ev⟩ : ∃ va vc, v = .slice va ts.length vc := by
    obtain ⟨va, vc, e, _⟩ := ho.sa
    exact ⟨va, vc, e⟩
  subst ev
  clear ho hg2 hr1 hb1
  go_wp2_with fail
  refine (specText_any _ ts.length (Lf ts) (Ff ts) _ HS.out (by omega) HX6.out).mono ?_
  rintro e w3 ⟨rfl, hb3⟩
  have hsl : (tsT ts.length (Lf ts) (Ff ts)).length ≤ 130 := tsL_len ts
  generalize tsT ts.length (Lf ts) (Ff ts) = s at hsl ⊢
  have hr3 := hr2.below hb3
  have hB3 := hB2.trans (hb3.mono hB2.size)
  clear HS HX6 hb3 hr2 hB2
  go_wp2_with fail
  refine (once_any g 2 _ hr3 (by decide) (by decide)).mono ?_
  rintro e w4 ⟨t, rfl, hr4, hg4⟩
  have hB4 : Below w.heap.size w w4 := hB3.grown hg4 hB3.size (fun k hk => by have := Option.some.inj hk; omega)
  clear hr3 hg4 hB3
  cases t with
  | true =>
    have HP : Hid (DrPost w (.returned (.string (bstr s))) w4) := hide ⟨s, rfl, by omega, hB4⟩
    clear hr4 hB4
    go_wp2
    go_ret
    exact HP.out
  | false =>
    go_wp2_with fail
    refine (hurt_any g (bstr s) _ hr4 (by rw [bstr_size]; omega)).mono ?_
    rintro e w5 ⟨u, rfl, hu, hr5, hg5⟩
    have HP : Hid (DrPost w (.returned (.string u)) w5) := hide ⟨u.data.toList, by rw [bstr_data], by rw [len_list]; omega, hB4.grown hg5 hB4.size (fun k hk => by have := Option.some.inj hk; omega)⟩
    clear hr4 hB4 hr5 hg5
    go_wp2
    go_ret
    exact HP.out

end Go.Proofs.YtokekgfompbdiaaDoor
