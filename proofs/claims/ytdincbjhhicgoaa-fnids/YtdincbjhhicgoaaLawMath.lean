/- what the law FnIds asks of right lists: plain facts -/
import Derived.Test.YtdincbjhhicgoaaI
namespace Go.Proofs.Ytdincbjhhicgoaa
open Go.RowKit

theorem good_five : ∀ a b c d e : Bool, ∀ z ∈ ([1, 2, 3, 4, 5] : List Int),
    Ids.ok (Ids.withId (Ids.five a b c d e) z) = true ∧ Ids.ok (Ids.withoutId (Ids.five a b c d e) z) = true ∧
    Ids.withoutId (Ids.withId (Ids.five a b c d e) z) z = Ids.withoutId (Ids.five a b c d e) z ∧ Ids.withId (Ids.withoutId (Ids.five a b c d e) z) z = Ids.withId (Ids.five a b c d e) z ∧
    ∀ n ∈ ([1, 2, 3, 4, 5] : List Int), (Ids.withId (Ids.five a b c d e) z).contains n = ((Ids.five a b c d e).contains n || n == z) ∧ (Ids.withoutId (Ids.five a b c d e) z).contains n = ((Ids.five a b c d e).contains n && !(n == z)) := by decide +kernel

theorem mem_five (z : Int) (h1 : 1 ≤ z) (h5 : z ≤ 5) : z ∈ ([1, 2, 3, 4, 5] : List Int) := by
  have e : z = 1 ∨ z = 2 ∨ z = 3 ∨ z = 4 ∨ z = 5 := by omega
  rcases e with rfl | rfl | rfl | rfl | rfl <;> decide

theorem good_ids {zs : List Int} {id : Int} (h : Ids.ok zs = true) (h1 : 1 ≤ id) (h5 : id ≤ 5) :
    Ids.ok (wRes zs id) = true ∧ Ids.ok (oRes zs id) = true ∧ oRes (wRes zs id) id = oRes zs id ∧ wRes (oRes zs id) id = wRes zs id := by
  obtain ⟨a, b, c, d, e, rfl⟩ := Ids.ok_five zs h
  have g := good_five a b c d e id (mem_five id h1 h5)
  rw [wRes_yes h h1 h5, oRes_yes h h1 h5]
  refine ⟨g.1, g.2.1, ?_, ?_⟩
  · rw [oRes_yes g.1 h1 h5]; exact g.2.2.1
  · rw [wRes_yes g.2.1 h1 h5]; exact g.2.2.2.1

theorem good_has {zs : List Int} {id : Int} (h : Ids.ok zs = true) (h1 : 1 ≤ id) (h5 : id ≤ 5) (n : Int) (n1 : 1 ≤ n) (n5 : n ≤ 5) :
    hasB (wRes zs id) n = (hasB zs n || n == id) ∧ hasB (oRes zs id) n = (hasB zs n && !(n == id)) := by
  obtain ⟨a, b, c, d, e, rfl⟩ := Ids.ok_five zs h
  have g := good_five a b c d e id (mem_five id h1 h5)
  rw [wRes_yes h h1 h5, oRes_yes h h1 h5]
  exact g.2.2.2.2 n (mem_five n n1 n5)

/-- three slices that can be read -/
structure S3 (w wi : World) (u a b : Value) (Z A B : List Int) : Prop where
  t : Below w.heap.size w wi
  su : Sl wi u Z
  sa : Sl wi a A
  sb : Sl wi b B

theorem S3.step {w wi wj : World} {u a b : Value} {Z A B : List Int} (h : S3 w wi u a b Z A B) (hb : Below wi.heap.size wi wj) : S3 w wj u a b Z A B :=
  ⟨h.t.trans (hb.mono h.t.size), h.su.below hb, h.sa.below hb, h.sb.below hb⟩

end Go.Proofs.Ytdincbjhhicgoaa
