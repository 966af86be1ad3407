/- HmA -/
import Derived.Test.YtlalldlbgnlbjaaDoorYtBegun10
/- homes, plainly: a line as lists, what is granted, asked, begun; what waits is begun in turn -/
namespace Go.Proofs.YtlalldlbgnlbjaaDoor.Hm
set_option linter.unusedVariables false
set_option linter.unusedSimpArgs false

structure Ln where
  mem : Int
  own : Int
  sh : List Int
  bu : Int
  wt : Int
  ac : Int
  q : List (Int × Int)
abbrev Mg := List Int
def mFetch (own line want : Int) : Mg := [5, 0, own, line, want, 0]
def mInv (core line : Int) : Mg := [4, 0, core, line, 0, 0]
def mGrant (core line want data : Int) : Mg := [8, 0, core, line, want, data]
/-- what a core wanted is granted -/
def grantL (L : Ln) (c t : Int) : Ln := if t = 1 then { L with sh := Ids.withId L.sh c, bu := 0, wt := 0, ac := 0 } else { L with own := c, sh := [], bu := 0, wt := 0, ac := 0 }
/-- who is asked ahead of a grant -/
def askM (L : Ln) (line c t : Int) : List Mg := if L.own ≠ 0 then [mFetch L.own line t] else if t = 1 then [] else (Ids.withoutId L.sh c).map fun k => mInv k line
def begL (L : Ln) (line c t : Int) : Ln := if askM L line c t = [] then grantL L c t else { L with bu := c, wt := t, ac := ((askM L line c t).length : Int) }
def begM (L : Ln) (line c t : Int) : List Mg := if askM L line c t = [] then [mGrant c line t L.mem] else askM L line c t
theorem askM_fetch {L : Ln} {line c t : Int} (h : L.own ≠ 0) : askM L line c t = [mFetch L.own line t] := by simp [askM, h]
theorem askM_read {L : Ln} {line c t : Int} (h : L.own = 0) (ht : t = 1) : askM L line c t = [] := by simp [askM, h, ht]
theorem askM_write {L : Ln} {line c t : Int} (h : L.own = 0) (ht : ¬ t = 1) : askM L line c t = (Ids.withoutId L.sh c).map fun k => mInv k line := by simp [askM, h, ht]
theorem begL_grant {L : Ln} {line c t : Int} (h : askM L line c t = []) : begL L line c t = grantL L c t := by simp [begL, h]
theorem begM_grant {L : Ln} {line c t : Int} (h : askM L line c t = []) : begM L line c t = [mGrant c line t L.mem] := by simp [begM, h]
theorem begL_ask {L : Ln} {line c t : Int} (h : ¬ askM L line c t = []) : begL L line c t = { L with bu := c, wt := t, ac := ((askM L line c t).length : Int) } := by simp [begL, h]
theorem begM_ask {L : Ln} {line c t : Int} (h : ¬ askM L line c t = []) : begM L line c t = askM L line c t := by simp [begM, h]
theorem grantL_read {L : Ln} {c t : Int} (h : t = 1) : grantL L c t = { L with sh := Ids.withId L.sh c, bu := 0, wt := 0, ac := 0 } := by simp [grantL, h]
theorem grantL_write {L : Ln} {c t : Int} (h : ¬ t = 1) : grantL L c t = { L with own := c, sh := [], bu := 0, wt := 0, ac := 0 } := by simp [grantL, h]

end Go.Proofs.YtlalldlbgnlbjaaDoor.Hm
