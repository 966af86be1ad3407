/- mirrors.up, mirrors.with -/
import Derived.Test.YtplnfddleaoimaaPrJ
namespace Go.Proofs.Ytplnfddleaoimaa
open Go.RowKit
set_option linter.unusedVariables false
set_option linter.unusedSimpArgs false

theorem list_append_run {P : Program} {w : World} {ops : Array Oper} {rest : List Oper} {o : Oper} {a : Act} {Q : Exit → Act → World → Prop} (hgd : o.guard = none) (s x : Operand) (t : TypeId)
    (ho : o.op = .call { callee := .builtin .append, args := #[s, x], argTypes := #[t, t] }) {v u v' : Value} {w' : World} (hs : a.eval s = v) (hx : a.eval x = u) (hr : (Builtin.append_ #[t, t] o.type #[v, u]).run P w = .ok v' w') (h : wpList P ops Q rest (a.put o.dst v') w') :
    wpList P ops Q (o :: rest) a w := by
  refine wpList_plain hgd fun K hK => ?_
  unfold Oper.wp execOp
  simp only [ho, resolve, invoke, builtin, Sem.run_bind, Sem.run_pure, Result.andThen_ok, List.map_toArray, List.map_cons, List.map_nil, hs, hx, hr]
  exact hK _ _ h

/-- the k-th side's block, its flag; those that are up of the first k -/
def bk (Bl Br : Nat) (k : Nat) : Nat := if k = 0 then Bl else Br
def uk (lu ru : Bool) (k : Nat) : Bool := if k = 0 then lu else ru
def upk (lu ru : Bool) (Bl Br : Nat) (k : Nat) : List Nat := (if 0 < k ∧ lu = true then [Bl] else []) ++ (if 1 < k ∧ ru = true then [Br] else [])
theorem upk_len (lu ru : Bool) (Bl Br k : Nat) : (upk lu ru Bl Br k).length ≤ 10 := by unfold upk; split <;> split <;> simp
theorem upk_yes {lu ru : Bool} {Bl Br k : Nat} (hk : k < 2) (h : uk lu ru k = true) : upk lu ru Bl Br k ++ [bk Bl Br k] = upk lu ru Bl Br (k + 1) := by
  match k, hk with
  | 0, _ => simp [uk] at h; simp [upk, bk, h]
  | 1, _ => simp [uk] at h; simp [upk, bk, h]
theorem upk_no {lu ru : Bool} {Bl Br k : Nat} (hk : k < 2) (h : uk lu ru k = false) : upk lu ru Bl Br k = upk lu ru Bl Br (k + 1) := by
  match k, hk with
  | 0, _ => simp [uk] at h; simp [upk, h]
  | 1, _ => simp [uk] at h; simp [upk, h]
theorem upk_two (lu ru : Bool) (Bl Br : Nat) : upk lu ru Bl Br 2 = ups lu ru Bl Br := by cases lu <;> cases ru <;> rfl
theorem Mi.at {w : World} {lo hi Bl Br : Nat} {L R : Value} {zl zr : List Int} {lu ru : Bool} (h : Mi w lo hi Bl Br L R zl zr lu ru) {k : Nat} (hk : k < 2) : w.cell? ⟨bk Bl Br k, 1, none⟩ = some (.bool (uk lu ru k)) := by
  match k, hk with
  | 0, _ => exact (side_facts h.bl).2.2
  | 1, _ => exact (side_facts h.br).2.2

set_option maxHeartbeats 4000000 in
theorem up_any (lo hi Bl Br : Nat) (L R : Value) (zl zr : List Int) (lu ru : Bool) (w : World) (h : Mi w lo hi Bl Br L R zl zr lu ru) :
    Calls Try.prog 41 #[.agg #[pt Bl, pt Br]] w fun e w' => ∃ v, e = .returned v ∧ Pr w' w.heap.size v (ups lu ru Bl Br) ∧ Below w.heap.size w w' := by
  have HE := two_boxes w #[pt Bl, pt Br] #[pt Bl, pt Br] 50 48
  have HM := hide h
  clear h
  go_enter Try.func41, Try.ntmps41
  go_wp2
  generalize hW : (World.alloc (World.alloc _ _) _) = W
  obtain ⟨p1, p2, hB0, hsz⟩ := HE.out W hW
  clear HE hW
  have HM2 := hide (HM.out.below hB0)
  clear HM
  have harr : ∀ k, k < 2 → W.cell? ⟨w.heap.size + 1, k, none⟩ = some (pt (bk Bl Br k)) := by
    intro k hk
    match k, hk with
    | 0, _ => exact (two_cells p2).2.1
    | 1, _ => exact (two_cells p2).2.2
  have HA := hide harr
  clear harr p1 p2
  go_loopw [3, 12] (fun u i wr => ∃ (k : Nat) (ua : Option Addr) (uc : Nat), k ≤ 2 ∧ i = .int .i64 k ∧ u = .slice ua (upk lu ru Bl Br k).length uc ∧ Hid (Pr wr W.heap.size (.slice ua (upk lu ru Bl Br k).length uc) (upk lu ru Bl Br k) ∧ Below W.heap.size W wr)) (fun _ i _ => 2 - (intOf i).toNat)
  case atStart => exact ⟨0, none, 0, by omega, rfl, rfl, hide ⟨Pr.nil _ _, Below.refl _ _⟩⟩
  case round =>
    obtain ⟨k, ua, uc, hk, rfl, rfl, HR⟩ := hrel
    by_cases hlt : k < 2
    · have c1 := keepc HR.out.2 (HA.out k hlt)
      have c2 := keepc HR.out.2 (HM2.out.at hlt)
      have hlen := upk_len lu ru Bl Br k
      have hgrow := HR.out.2.size
      have HY : Hid (uk lu ru k = true → upk lu ru Bl Br k ++ [bk Bl Br k] = upk lu ru Bl Br (k + 1)) := hide (upk_yes hlt)
      have HN : Hid (uk lu ru k = false → upk lu ru Bl Br k = upk lu ru Bl Br (k + 1)) := hide (upk_no hlt)
      obtain ⟨us', hus'⟩ : ∃ us', upk lu ru Bl Br (k + 1) = us' := ⟨_, rfl⟩
      generalize hus : upk lu ru Bl Br k = us at HR HY HN hlen ⊢
      rw [hus'] at HY HN
      clear hus
      obtain ⟨B, hB⟩ : ∃ B, bk Bl Br k = B := ⟨_, rfl⟩
      rw [hB] at c1 c2 HY
      clear hB
      cases hu : uk lu ru k with
      | true =>
        rw [hu] at c2
        have heq := HY.out hu
        obtain ⟨ud, uc2, w2, hrun, hpr, hbe⟩ := append_ptr wr W.heap.size B (.slice ua us.length uc) us 54 HR.out.1 hlen hgrow
        rw [heq] at hpr hrun
        have HR2 := hide (And.intro hpr ((HR.out.2).trans hbe))
        clear HY HN HR hu heq hpr hbe
        go_wp2_with (at_builtin; refine list_append_run (by rfl) _ _ 54 (by rfl) (by rfl) (by rfl) hrun ?_)
        clear hrun
        go_wp2
        go_roundw
        case rel => exact ⟨k + 1, ud, uc2, by omega, by go_num, by rw [hus'], by rw [hus']; exact HR2⟩
        case measure => simp [intOf]; omega
      | false =>
        rw [hu] at c2
        have heq := HN.out hu
        rw [heq] at HR
        clear HY HN hu
        go_wp2
        go_roundw
        case rel => exact ⟨k + 1, ua, uc, by omega, by go_num, by rw [hus', heq], by rw [hus']; exact HR⟩
        case measure => simp [intOf]; omega
    · have e : k = 2 := by omega
      subst e
      rw [upk_two] at HR ⊢
      have HF := hide (And.intro (HR.out.1.mono hB0.size) (hB0.trans (HR.out.2.mono hB0.size)))
      clear HR
      go_wp2
      go_ret
      exact ⟨_, rfl, HF.out.1, HF.out.2⟩

end Go.Proofs.Ytplnfddleaoimaa
