/- what is known between the calls of the two laws: three slices of the call's own, the elder ones in elder blocks -/
import Derived.Test.YtdincbjhhicgoalI
namespace Go.Proofs.Ytdincbjhhicgoal
open Go.RowKit

structure St (w wi : World) (B1 B2 B3 : Nat) (p x g : Value) (R X G : List Int) : Prop where
  t : Below w.heap.size w wi
  op : Ow wi B1 p R
  ox : Ow wi B2 x X
  og : Ow wi B3 g G
  pl : ∀ k, p.ownBlock = some k → k < B2
  xl : ∀ k, x.ownBlock = some k → k < B3
  s2 : w.heap.size ≤ B2
  s3 : B2 ≤ B3

theorem St.step {w wi wj : World} {B1 B2 B3 : Nat} {p x g : Value} {R X G : List Int} (h : St w wi B1 B2 B3 p x g R X G) (hb : Below wi.heap.size wi wj) : St w wj B1 B2 B3 p x g R X G :=
  ⟨h.t.trans (hb.mono h.t.size), h.op.below hb, h.ox.below hb, h.og.below hb, h.pl, h.xl, h.s2, h.s3⟩

theorem St.markX {w wi wj : World} {B1 B2 B3 : Nat} {p x g : Value} {R X G X' : List Int} (h : St w wi B1 B2 B3 p x g R X G) (ho : Ow wj B2 x X') (hg : wi.grownBy wj x.ownBlock) : St w wj B1 B2 B3 p x g R X' G :=
  ⟨h.t.trans (below_grown h.ox hg h.s2 h.t.size), Ow.other h.op h.ox h.pl hg, ho, Ow.elder h.og h.xl hg, h.pl, h.xl, h.s2, h.s3⟩

theorem St.markG {w wi wj : World} {B1 B2 B3 : Nat} {p x g : Value} {R X G G' : List Int} (h : St w wi B1 B2 B3 p x g R X G) (ho : Ow wj B3 g G') (hg : wi.grownBy wj g.ownBlock) : St w wj B1 B2 B3 p x g R X G' :=
  ⟨h.t.trans (below_grown h.og hg (Nat.le_trans h.s2 h.s3) h.t.size), Ow.other h.op h.og (fun k hk => Nat.lt_of_lt_of_le (h.pl k hk) h.s3) hg, Ow.other h.ox h.og h.xl hg, ho, h.pl, h.xl, h.s2, h.s3⟩

/-- the state behind the first four calls -/
theorem St.start {w w1 w2 w3 w4 : World} {p x g : Value} {R zs : List Int} (hb1 : Below w.heap.size w w1) (hp : Ow w2 w1.heap.size p R) (hb2 : Below w1.heap.size w1 w2)
    (hx : Ow w3 w2.heap.size x zs) (hb3 : Below w2.heap.size w2 w3) (hg : Ow w4 w3.heap.size g R) (hb4 : Below w3.heap.size w3 w4) : St w w4 w1.heap.size w2.heap.size w3.heap.size p x g R zs R :=
  ⟨((hb1.trans (hb2.mono hb1.size)).trans (hb3.mono (Nat.le_trans hb1.size hb2.size))).trans (hb4.mono (Nat.le_trans (Nat.le_trans hb1.size hb2.size) hb3.size)),
    (hp.below hb3).below hb4, hx.below hb4, hg, fun k hk => (World.ownsRow.lt hp k hk).2, fun k hk => (World.ownsRow.lt hx k hk).2, Nat.le_trans hb1.size hb2.size, hb3.size⟩

end Go.Proofs.Ytdincbjhhicgoal
