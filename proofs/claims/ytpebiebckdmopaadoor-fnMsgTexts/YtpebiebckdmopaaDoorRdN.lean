/- the reader, for messages: what a change of a block of the call's own leaves, six numbers -/
import Derived.Test.YtpebiebckdmopaaDoorRdE
import Derived.Test.YtpebiebckdmopaaDoorMsgA
import Derived.Deep.Heap
import Derived.Deep.RegionWith
namespace Go.Proofs.YtpebiebckdmopaaDoor
open Go.RowKit

abbrev six (a b c d e f : Int) : Array Value := #[.int .i64 a, .int .i64 b, .int .i64 c, .int .i64 d, .int .i64 e, .int .i64 f]

theorem gr_young {w wr w2 : World} {g : Nat} {row : Option Nat} (h : w.grownBy wr (some g)) (k : wr.grownBy w2 row) (hr : ∀ j, row = some j → w.heap.size ≤ j) : w.grownBy w2 (some g) :=
  ⟨k.os.trans h.os, k.tape.trans h.tape, k.output.trans h.output, Nat.le_trans h.size k.size, fun j hj hne => (k.block j (Nat.lt_of_lt_of_le hj h.size) (fun e => by have := hr j e.symm; omega)).trans (h.block j hj hne)⟩

theorem gr_set (w : World) (S i : Nat) (v : Value) : w.grownBy (w.setCell ⟨S, i, none⟩ v) (some S) :=
  ⟨rfl, rfl, rfl, by simp, fun k _ hk => Go.Deep.blk_setCell_other _ _ _ _ (fun e => hk (by simp [e]))⟩

end Go.Proofs.YtpebiebckdmopaaDoor
