/- SwB -/
import Derived.Test.YtlalldlbgnlbjaaGreatDoorYomeGot5
import Derived.LoopN
/- control steps of loops and blocks -/
namespace Go.Proofs.YtlalldlbgnlbjaaGreatDoor
open Go.RowKit
set_option linter.unusedVariables false
section
variable {P : Program} {Q : Exit → Act → World → Prop} {a : Act} {w : World} {next : Act → World → Prop}
theorem then_exit {id : Nat} (h : Q (.exit id) a w) : Exit.then next Q (.exit id) a w := h
theorem then_ret (h : Q .ret a w) : Exit.then next Q .ret a w := h
theorem inb_ret {id : Nat} (h : Q .ret a w) : Exit.inBlock id Q .ret a w := h
theorem inb_norm {id : Nat} (h : Q .normal a w) : Exit.inBlock id Q .normal a w := h
theorem inb_here {id id' : Nat} (e : id' = id) (h : Q .normal a w) : Exit.inBlock id Q (.exit id') a w := by simpa [Exit.inBlock, e] using h
end
end Go.Proofs.YtlalldlbgnlbjaaGreatDoor
