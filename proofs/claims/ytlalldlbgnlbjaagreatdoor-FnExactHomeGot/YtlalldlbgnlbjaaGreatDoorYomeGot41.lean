/- HmY -/
import Derived.RangeFuncLeaves
import Derived.RangeFuncSeq
import Derived.RangeFuncRecord
import Derived.RangeFuncCalls
import Derived.RangeFuncNested
import Derived.TacticsInMore
import Derived.Test.YtlalldlbgnlbjaaGreatDoorYomeGot40
/- a range over a function value that has its own arguments: the statement and a round, in the form that the walks of homes take -/
namespace Go.Proofs.YtlalldlbgnlbjaaGreatDoor
open Go.RowKit
set_option linter.unusedVariables false
set_option linter.unusedSimpArgs false

theorem mv_putObj (W : World) (l : Nat) (o : Obj) : Mv (fun g => g = l) W (W.putObj l o) := ⟨rfl, rfl, rfl, by simp, fun j _ hn => World.putObj_heap_other hn⟩

/-- a loop's record -/
abbrev LR (fn : FuncId) (tm : Array Value) (ps : Array Tmp) (asg bo : Code) (D : Nat) (st : LoopState) (pe : Option Code) : Obj := .loop { state := st, pending := pe, fn := fn, tmps := tm, params := ps, assign := asg, body := bo, defers := D }

/-- one round -/
theorem range_yield {P : Program} {fn : FuncId} {tm : Array Value} {ps : Array Tmp} {asg bo : Code} {l D : Nat} {args : Array Value} {W : World} {K : Ending → World → Prop}
    (hl : W.heap[l]? = some (LR fn tm ps asg bo D .ready none)) (hs : args.size = ps.size)
    (hb : asg.wpIn (Fence.wide.inRound l) 0 P (Exit.then (fun a₁ w₁ => w₁.heap[l]? = some (LR fn tm ps asg bo D .ready none) ∧
      bo.wpIn (Fence.wide.inRound l) 0 P (fun e _ W3 => W3.heap[l]? = some (LR fn tm ps asg bo D .busy none) ∧ (e = .normal ∧ K (.returned (.bool true)) (W3.putObj l (LR fn tm ps asg bo D .ready none)) ∨ e = .ret ∧ K (.returned (.bool false)) (W3.putObj l (LR fn tm ps asg bo D .done (some .ret))))) a₁ (w₁.putObj l (LR fn tm ps asg bo D .busy none))) (fun _ _ _ => False))
      { tmps := (ps.zip args).foldl (fun t (p, v) => t.setIfInBounds p v) tm, defers := [] } W) :
    YieldAt Fence.wide 0 P l args W K := by
  have hy := run_yield (P := P) (args := args) hl hs
  refine ⟨fn, _, asg, bo, hy, roundIn_of_wpIn trivial (wpIn_mono hb ?_)⟩
  intro e a1 w1 h1
  cases e with
  | normal =>
    obtain ⟨h1l, h1b⟩ := h1
    refine ⟨_, run_beginRound h1l rfl, wpIn_mono h1b ?_⟩
    rintro e3 a3 W3 ⟨h3, (⟨rfl, hk⟩ | ⟨rfl, hk⟩)⟩
    · exact ⟨_, _, run_endRound none h3, hk⟩
    · exact ⟨_, _, run_endRound (some .ret) h3, hk⟩
  | _ => exact h1

/-- the statement -/
theorem range_stmt {P : Program} {g : Operand} {ps : Array Tmp} {asg bo : Code} {Q : Exit → Act → World → Prop} {a : Act} {w : World} {gf : Nat} {pre : Array Value}
    (hg : a.eval g = .func (.func gf) pre #[]) (eg : ∀ args w, (callFunc gf args).run P w = .ok (.enter gf args) w)
    (hc : ∀ (fn : FuncId) (l D : Nat) (W : World) (LO : LoopState → Option Code → Obj), (LO = fun st pe => LR fn a.tmps ps asg bo D st pe) → w.heap.size ≤ D → D < l → W.heap[l]? = some (LO .ready none) → W.heap[D]? = some (.deferred (some [])) → Below w.heap.size w W →
      Calls P gf (pre ++ #[.func (.yield l) #[] #[]]) W fun e W2 => (∃ v, e = .returned v) ∧
        ((W2.heap[l]? = some (LO .ready none) ∧ Q .normal { a with defers := { target := .collected D, args := #[] } :: a.defers } (W2.putObj l (LO .exhausted none))) ∨
         (W2.heap[l]? = some (LO .done (some .ret)) ∧ Code.ret.wp P Q { a with defers := { target := .collected D, args := #[] } :: a.defers } (W2.putObj l (LO .exhausted (some .ret)))))) :
    (Code.rangeFunc g ps asg bo).wp P Q a w := by
  refine (wpIn_wide (n := 1)).1 (wpIn_rangeFunc fun fn _ => ?_)
  obtain ⟨W1, hW1⟩ : ∃ W1, (w.alloc (.deferred (some []))).alloc (LR fn a.tmps ps asg bo w.heap.size .ready none) = W1 := ⟨_, rfl⟩
  have hL : W1.heap[w.heap.size + 1]? = some (LR fn a.tmps ps asg bo w.heap.size .ready none) := by
    have := World.alloc_heap_new (w.alloc (.deferred (some []))) (LR fn a.tmps ps asg bo w.heap.size .ready none)
    rw [World.size_alloc] at this
    rw [← hW1]; exact this
  have hD : W1.heap[w.heap.size]? = some (.deferred (some [])) := by
    rw [← hW1]; exact (Below.heap_alloc _ _ _ (by simp)).trans (World.alloc_heap_new w _)
  have hB : Below w.heap.size w W1 := by
    rw [← hW1]; exact ((Below.refl _ w).alloc (Nat.le_refl _) _).alloc (by simp) _
  refine ⟨w.heap.size + 1, [{ target := .collected w.heap.size, args := #[] }], W1, { target := .fn (.func gf) #[], args := pre ++ #[.func (.yield (w.heap.size + 1)) #[] #[]] }, W1, gf, pre ++ #[.func (.yield (w.heap.size + 1)) #[] #[]], W1, ?_, ?_, fun _ _ => trivial, ?_, fun h => absurd h (by decide), ?_⟩
  · rw [← hW1]; exact run_enterLoop_outer _ _ _ _ _
  · simp only [resolve, hg]
    simp [go_sem]
  · simp [invoke, go_sem, eg]
  · refine callsIn_wide.2 ((hc fn _ _ W1 _ rfl (Nat.le_refl _) (Nat.lt_succ_self _) hL hD hB).mono ?_)
    rintro e W2 ⟨⟨v, rfl⟩, (⟨h1, h2⟩ | ⟨h1, h2⟩)⟩
    · exact ⟨none, _, run_endLoop h1 (by simp), h2⟩
    · exact ⟨some .ret, _, run_endLoop h1 (by simp), wpIn_wide.2 h2⟩

/-- leaving with the mark -/
theorem leaves_mark {P : Program} {fn : Func} {D : Nat} {a : Act} {w : World} {R : Ending → World → Prop} (hd : a.defers = [{ target := .collected D, args := #[] }]) (hk : w.heap[D]? = some (.deferred (some []))) (h : LeavesIn Fence.wide 0 P fn a.tmps R [] .returning (w.putObj D (.deferred none))) :
    bodyPostM Fence.wide 0 P fn R .ret a w := by
  show LeavesInM Fence.wide 0 P fn a.tmps R a.defers .returning w
  rw [hd]
  exact ⟨by simp, .inl ⟨D, _, rfl, run_takeDeferred hk, h⟩⟩
end Go.Proofs.YtlalldlbgnlbjaaGreatDoor
