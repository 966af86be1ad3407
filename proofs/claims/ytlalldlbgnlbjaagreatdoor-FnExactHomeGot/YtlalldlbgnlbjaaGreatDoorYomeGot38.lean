/- HmV -/
import Derived.Test.YtlalldlbgnlbjaaGreatDoorYomeGot37
import Derived.RowKitTokens
/- errors.Is of a refusal: Go's own text walked (after the guide's toy 'sentry'): true of what it wraps, false of another -/
namespace Go.Proofs.YtlalldlbgnlbjaaGreatDoor
open Go.RowKit Go.Extern.Stop Go.Stop Go.Extern
set_option linter.unusedVariables false
set_option linter.unusedSimpArgs false

theorem is_typeOf (v : Value) (w : World) : (ReflectliteType.typeOf #[.iface 148 v]).run Tryz.prog w = .ok (.iface 124 (.agg #[.pointer (some ⟨7, 148, none⟩)])) w := by kernel_rfl
theorem is_comparable (w : World) : ((ReflectliteType.method fun t => do Rtype.noPackHeld "Comparable" t; (fun a => Value.bool a.comparable) <$> typeInfo t) #[.agg #[.pointer (some ⟨7, 148, none⟩)]]).run Tryz.prog w = .ok (.bool true) w := by kernel_rfl
theorem is_mComparable (v : Value) (w : World) : (Go.method 281 124 v "Comparable").run Tryz.prog w = .ok (133, v) w := by kernel_rfl
theorem is_comp : (Tryz.prog.info? 148).map (·.comparable) = some true := by kernel_rfl
theorem is_size : (Tryz.prog.info? 169).map (·.size) = some 1 := by kernel_rfl
theorem is_mUnwrap (v : Value) (w : World) : (Go.method 281 89 v "Unwrap").run Tryz.prog w = .ok (127, v) w := by kernel_rfl
theorem noIsR (v : Value) (xT : TypeId) (w : World) : (Instr.typeAssert (.iface 89 v) xT 143 true).run Tryz.prog w = .ok (.tuple #[.nilIface, .bool false]) w := run_typeAssert_lacksB Tryz.underlying143 (by kernel_rfl) (by kernel_rfl) v xT w
theorem hasUnR (v : Value) (xT : TypeId) (w : World) : (Instr.typeAssert (.iface 89 v) xT 132 true).run Tryz.prog w = .ok (.tuple #[.iface 89 v, .bool true]) w := run_typeAssert_hasB Tryz.underlying132 (by kernel_rfl) v xT w
theorem noIsE (v : Value) (xT : TypeId) (w : World) : (Instr.typeAssert (.iface 148 v) xT 143 true).run Tryz.prog w = .ok (.tuple #[.nilIface, .bool false]) w := run_typeAssert_lacksB Tryz.underlying143 (by kernel_rfl) (by kernel_rfl) v xT w
theorem noUnE (v : Value) (xT : TypeId) (w : World) : (Instr.typeAssert (.iface 148 v) xT 132 true).run Tryz.prog w = .ok (.tuple #[.nilIface, .bool false]) w := run_typeAssert_lacksB Tryz.underlying132 (by kernel_rfl) (by kernel_rfl) v xT w
theorem noUnsE (v : Value) (xT : TypeId) (w : World) : (Instr.typeAssert (.iface 148 v) xT 133 true).run Tryz.prog w = .ok (.tuple #[.nilIface, .bool false]) w := run_typeAssert_lacksB Tryz.underlying133 (by kernel_rfl) (by kernel_rfl) v xT w

set_option maxRecDepth 20000 in
set_option maxHeartbeats 4000000 in
theorem is_hit (c : Int) (p : Addr) (w : World) : Calls Tryz.prog 87 #[rfV c p, erV p] w fun e w' => e = .returned (.bool true) ∧ Below w.heap.size w w' := by
  obtain ⟨i, hi, hcmp⟩ := Option.map_eq_some_iff.1 is_comp
  obtain ⟨j, hj, hjs⟩ := Option.map_eq_some_iff.1 is_size
  have h8 := @run_callFunc_extern Tryz.prog 94 _ ReflectliteType.typeOf Tryz.func94 (by kernel_rfl) (by kernel_rfl) (by kernel_rfl) (by kernel_rfl)
  have h32 := @run_callFunc_extern Tryz.prog 133 _ (ReflectliteType.method fun t => do Rtype.noPackHeld "Comparable" t; pure (.bool (← typeInfo t).comparable)) Tryz.func133 (by kernel_rfl) (by kernel_rfl) (by kernel_rfl) (by kernel_rfl)
  have tT := is_typeOf
  have cT := is_comparable
  have mR := is_mComparable
  have nR := noIsR
  have uR := hasUnR
  have mU := is_mUnwrap
  have hty := fun W => run_eql_iface_types (P := Tryz.prog) 89 148 (.agg #[.int .i64 c, erV p]) (.pointer (some p)) Tryz.underlying59 (by decide) W
  have heq := fun W => run_eql_iface_ptr_same (P := Tryz.prog) W p Tryz.underlying59 Tryz.underlying148 hi hcmp hj
  go_enter Tryz.func87, Tryz.ntmps87
  go_wp2
  refine wp_loop_rounds 2 ?_
  rw [rounds_succ]
  go_wp2
  rw [rounds_succ]
  go_wp2
  go_ret
  exact ⟨rfl, (Below.refl _ _).alloc (Nat.le_refl _) _⟩

set_option maxRecDepth 20000 in
set_option maxHeartbeats 4000000 in
theorem is_other (c : Int) (p q : Addr) (ca cb : Array Value) (ta tb : TypeId) (w : World) (hne : p ≠ q) (ha : w.heap[p.block]? = some (.cells ca ta (0, 0))) (hb : w.heap[q.block]? = some (.cells cb tb (0, 0))) :
    Calls Tryz.prog 87 #[rfV c p, erV q] w fun e w' => e = .returned (.bool false) ∧ Below w.heap.size w w' := by
  obtain ⟨i, hi, hcmp⟩ := Option.map_eq_some_iff.1 is_comp
  obtain ⟨j, hj, hjs⟩ := Option.map_eq_some_iff.1 is_size
  have h8 := @run_callFunc_extern Tryz.prog 94 _ ReflectliteType.typeOf Tryz.func94 (by kernel_rfl) (by kernel_rfl) (by kernel_rfl) (by kernel_rfl)
  have h32 := @run_callFunc_extern Tryz.prog 133 _ (ReflectliteType.method fun t => do Rtype.noPackHeld "Comparable" t; pure (.bool (← typeInfo t).comparable)) Tryz.func133 (by kernel_rfl) (by kernel_rfl) (by kernel_rfl) (by kernel_rfl)
  have tT := is_typeOf
  have cT := is_comparable
  have mR := is_mComparable
  have nR := noIsR
  have uR := hasUnR
  have mU := is_mUnwrap
  have hty := fun W => run_eql_iface_types (P := Tryz.prog) 89 148 (.agg #[.int .i64 c, erV p]) (.pointer (some q)) Tryz.underlying59 (by decide) W
  have nE := noIsE
  have uE := noUnE
  have vE := noUnsE
  have hA : Mv nob w (w.alloc (.cells #[.int .i64 c, erV p] 89)) := Mv.alloc _ _
  have heq := run_eql_iface_ptr_other (P := Tryz.prog) (w.alloc (.cells #[.int .i64 c, erV p] 89)) Tryz.underlying59 Tryz.underlying148 hi hcmp hj (by rw [hjs]; decide) hne (hA.box ha (fun h => h)) (hA.box hb (fun h => h))
  clear hA
  go_enter Tryz.func87, Tryz.ntmps87
  go_wp2
  refine wp_loop_rounds 2 ?_
  rw [rounds_succ]
  go_wp2
  rw [rounds_succ]
  go_wp2
  go_ret
  exact ⟨rfl, (Below.refl _ _).alloc (Nat.le_refl _) _⟩

end Go.Proofs.YtlalldlbgnlbjaaGreatDoor
