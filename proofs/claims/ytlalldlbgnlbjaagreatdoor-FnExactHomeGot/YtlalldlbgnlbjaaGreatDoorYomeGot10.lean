/- HmA, A -/
import Derived.Test.YtlalldlbgnlbjaaGreatDoorYomeGot9
import Derived.Test.YtlalldlbgnlbjaaGreatDoorChecked
import Derived.Test.YtlalldlbgnlbjaaGreatDoorYomeGot2
import Derived.WalkKit
import Derived.WalkSpells
import Derived.WalkLawsBesides
/- homes, plainly: a line as lists, what is granted, asked, begun; what waits is begun in turn -/
namespace Go.Proofs.YtlalldlbgnlbjaaGreatDoor.Hm
set_option linter.unusedVariables false
set_option linter.unusedSimpArgs false

structure Ln where
  mem : Int
  own : Int
  sh : List Int
  bu : Int
  wt : Int
  ac : Int
  q : List (Int × Int)
abbrev Mg := List Int
def mFetch (own line want : Int) : Mg := [5, 0, own, line, want, 0]
def mInv (core line : Int) : Mg := [4, 0, core, line, 0, 0]
def mGrant (core line want data : Int) : Mg := [8, 0, core, line, want, data]
def mDone (core line : Int) : Mg := [9, 0, core, line, 0, 0]

/-- what a core wanted is granted -/
def grantL (L : Ln) (c t : Int) : Ln := if t = 1 then { L with sh := Ids.withId L.sh c, bu := 0, wt := 0, ac := 0 } else { L with own := c, sh := [], bu := 0, wt := 0, ac := 0 }
/-- who is asked ahead of a grant -/
def askM (L : Ln) (line c t : Int) : List Mg := if L.own ≠ 0 then [mFetch L.own line t] else if t = 1 then [] else (Ids.withoutId L.sh c).map fun k => mInv k line
def begL (L : Ln) (line c t : Int) : Ln := if askM L line c t = [] then grantL L c t else { L with bu := c, wt := t, ac := ((askM L line c t).length : Int) }
def begM (L : Ln) (line c t : Int) : List Mg := if askM L line c t = [] then [mGrant c line t L.mem] else askM L line c t
theorem askM_fetch {L : Ln} {line c t : Int} (h : L.own ≠ 0) : askM L line c t = [mFetch L.own line t] := by simp [askM, h]
theorem askM_read {L : Ln} {line c t : Int} (h : L.own = 0) (ht : t = 1) : askM L line c t = [] := by simp [askM, h, ht]
theorem askM_write {L : Ln} {line c t : Int} (h : L.own = 0) (ht : ¬ t = 1) : askM L line c t = (Ids.withoutId L.sh c).map fun k => mInv k line := by simp [askM, h, ht]
theorem begL_grant {L : Ln} {line c t : Int} (h : askM L line c t = []) : begL L line c t = grantL L c t := by simp [begL, h]
theorem begM_grant {L : Ln} {line c t : Int} (h : askM L line c t = []) : begM L line c t = [mGrant c line t L.mem] := by simp [begM, h]
theorem begL_ask {L : Ln} {line c t : Int} (h : ¬ askM L line c t = []) : begL L line c t = { L with bu := c, wt := t, ac := ((askM L line c t).length : Int) } := by simp [begL, h]
theorem begM_ask {L : Ln} {line c t : Int} (h : ¬ askM L line c t = []) : begM L line c t = askM L line c t := by simp [begM, h]
theorem grantL_read {L : Ln} {c t : Int} (h : t = 1) : grantL L c t = { L with sh := Ids.withId L.sh c, bu := 0, wt := 0, ac := 0 } := by simp [grantL, h]
theorem grantL_write {L : Ln} {c t : Int} (h : ¬ t = 1) : grantL L c t = { L with own := c, sh := [], bu := 0, wt := 0, ac := 0 } := by simp [grantL, h]

/-- what waits is begun in turn, for as long as the line is not busy: false where one that waits owns the line -/
def nextR (line : Int) : List (Int × Int) → Ln → List Mg → Bool × Ln × List Mg
  | [], L, ms => (true, { L with q := [] }, ms)
  | (c, t) :: q, L, ms => if L.bu ≠ 0 then (true, { L with q := (c, t) :: q }, ms) else if L.own = c then (false, { L with q := q }, ms) else nextR line q (begL { L with q := q } line c t) (ms ++ begM { L with q := q } line c t)

/-- what a home makes of a message of a core -/
def gotR (L : Ln) (k c line d : Int) : Bool × Ln × List Mg :=
  if k = 1 ∨ k = 2 then
    if L.bu = 0 then (if L.own = c then (false, L, []) else (true, begL L line c k, begM L line c k))
    else if 10 ≤ L.q.length ∨ L.bu = c ∨ L.q.any (fun r => r.1 == c) = true then (false, L, [])
    else (true, { L with q := L.q ++ [(c, k)] }, [])
  else if k = 3 then (true, (if L.own = c ∧ L.bu = 0 then { L with mem := d, own := 0 } else L), [mDone c line])
  else if k = 6 then
    if L.bu = 0 ∨ L.own ≠ 0 ∨ L.wt = 1 then (false, L, [])
    else if 0 < L.ac - 1 then (true, { L with ac := L.ac - 1 }, [])
    else nextR line L.q (grantL { L with ac := L.ac - 1 } L.bu L.wt) [mGrant L.bu line L.wt L.mem]
  else
    if L.bu = 0 ∨ L.own ≠ c then (false, L, [])
    else nextR line L.q (grantL { L with mem := d, own := 0, sh := if L.wt = 1 then [c] else [] } L.bu L.wt) [mGrant L.bu line L.wt d]
end Go.Proofs.YtlalldlbgnlbjaaGreatDoor.Hm

/- contracts of the small functions -/
namespace Go.Proofs.YtlalldlbgnlbjaaGreatDoor
open Go.RowKit

theorem Tryz.info2 : (Tryz.prog.info? 2).map (fun i => (i.zero, i.size, i.bytes)) = some (some (.int .i64 0), 1, 8) := by kernel_rfl

set_option maxHeartbeats 400000 in
theorem core_yes (n : Int) (w : World) (h1 : 1 ≤ n) (h5 : n ≤ 5) : Calls Tryz.prog 51 #[.int .i64 n] w fun e w' => e = .returned (.bool true) ∧ w' = w := by
  go_enter Tryz.func51, Tryz.ntmps51
  go_wp2
  go_ret
  exact ⟨rfl, rfl⟩

set_option maxHeartbeats 400000 in
theorem core_no (n : Int) (w : World) (h : n < 1 ∨ 5 < n) : Calls Tryz.prog 51 #[.int .i64 n] w fun e w' => e = .returned (.bool false) ∧ w' = w := by
  rcases h with h | h
  · have h1 : ¬ 1 ≤ n := by omega
    go_enter Tryz.func51, Tryz.ntmps51
    go_wp2
    go_ret
    exact ⟨rfl, rfl⟩
  · have h1 : 1 ≤ n := by omega
    have h2 : ¬ n ≤ 5 := by omega
    go_enter Tryz.func51, Tryz.ntmps51
    go_wp2
    go_ret
    exact ⟨rfl, rfl⟩

set_option maxHeartbeats 400000 in
theorem in_yes (n a b : Int) (w : World) (h1 : a ≤ n) (h5 : n ≤ b) : Calls Tryz.prog 55 #[.int .i64 n, .int .i64 a, .int .i64 b] w fun e w' => e = .returned (.bool true) ∧ w' = w := by
  go_enter Tryz.func55, Tryz.ntmps55
  go_wp2
  go_ret
  exact ⟨rfl, rfl⟩

set_option maxHeartbeats 400000 in
theorem in_no (n a b : Int) (w : World) (h : n < a ∨ b < n) : Calls Tryz.prog 55 #[.int .i64 n, .int .i64 a, .int .i64 b] w fun e w' => e = .returned (.bool false) ∧ w' = w := by
  by_cases h1 : a ≤ n
  · have h2 : ¬ n ≤ b := by omega
    clear h
    go_enter Tryz.func55, Tryz.ntmps55
    go_wp2
    go_ret
    exact ⟨rfl, rfl⟩
  · clear h
    go_enter Tryz.func55, Tryz.ntmps55
    go_wp2
    go_ret
    exact ⟨rfl, rfl⟩

end Go.Proofs.YtlalldlbgnlbjaaGreatDoor
