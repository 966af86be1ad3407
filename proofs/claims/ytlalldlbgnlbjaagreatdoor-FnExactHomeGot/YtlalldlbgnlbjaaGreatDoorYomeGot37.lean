/- HmT, HmU -/
import Derived.Test.YtlalldlbgnlbjaaGreatDoorYomeGot36
/- errors.Is of nothing -/
namespace Go.Proofs.YtlalldlbgnlbjaaGreatDoor
open Go.RowKit Go.Extern.Stop Go.Stop Go.Extern
set_option linter.unusedVariables false
set_option linter.unusedSimpArgs false

set_option maxRecDepth 20000 in
set_option maxHeartbeats 2000000 in
theorem is_nil (p : Addr) (w : World) : Calls Tryz.prog 87 #[.nilIface, erV p] w fun e w' => e = .returned (.bool false) ∧ w' = w := by
  have hq := fun W => run_eql_iface_nil_left (P := Tryz.prog) (w := W) 148 (.pointer (some p)) Tryz.underlying59
  go_enter Tryz.func87, Tryz.ntmps87
  go_wp2
  go_ret
  exact ⟨rfl, rfl⟩
end Go.Proofs.YtlalldlbgnlbjaaGreatDoor

/- a right line at work, plainly: what is begun of it is right again; what waits -/
namespace Go.Proofs.YtlalldlbgnlbjaaGreatDoor
open Go.RowKit
set_option linter.unusedVariables false
set_option linter.unusedSimpArgs false

theorem ok_withId {zs : List Int} {c : Int} (h : Ids.ok zs = true) (h1 : 1 ≤ c) (h5 : c ≤ 5) : Ids.ok (Ids.withId zs c) = true := by
  obtain ⟨a, b, k, d, e, rfl⟩ := Ids.ok_five zs h
  have hall : ∀ a b k d e : Bool, ∀ z ∈ [1, 2, 3, 4, 5], Ids.ok (Ids.withId (Ids.five a b k d e) ((z : Nat) : Int)) = true := by decide +kernel
  obtain ⟨z, rfl⟩ := Int.eq_ofNat_of_zero_le (by omega : 0 ≤ c)
  have hz : z = 1 ∨ z = 2 ∨ z = 3 ∨ z = 4 ∨ z = 5 := by omega
  exact hall a b k d e z (by rcases hz with rfl | rfl | rfl | rfl | rfl <;> simp)

/-- what the work on a line needs of it -/
structure Gd (L : Hm.Ln) : Prop where
  sh : Ids.ok L.sh = true
  n : L.q.length ≤ 10
  q : ∀ r ∈ L.q, 1 ≤ r.1 ∧ r.1 ≤ 5 ∧ (r.2 = 1 ∨ r.2 = 2)

theorem lok_gd {L : Hm.Ln} (h : lok L = true) : Gd L := by
  have h2 : lineP L.mem L.own L.sh L.bu L.wt L.ac L.q.length (f2 L.q) := by simpa only [lok, lineB, decide_eq_true_eq] using h
  obtain ⟨_, _, hs, hr⟩ := h2
  rcases hr with ⟨_, _, _, hn⟩ | ⟨_, _, _, hn, hq⟩
  · exact ⟨hs, by omega, fun r hr => by rw [List.eq_nil_of_length_eq_zero hn] at hr; exact absurd hr (by simp)⟩
  · refine ⟨hs, hn, fun r hr => ?_⟩
    obtain ⟨j, hj, e⟩ := List.getElem_of_mem hr
    have h3 := hq j hj
    have e2 : L.q.getD j (0, 0) = r := by rw [List.getD_eq_getElem?_getD, List.getElem?_eq_getElem hj]; exact e
    simp only [reqB, inB, f2, e2, Bool.and_eq_true, decide_eq_true_eq] at h3
    simp at h3
    omega
/-- a busy line -/
theorem lok_bu {L : Hm.Ln} (h : lok L = true) (hb : ¬ L.bu = 0) : (1 ≤ L.bu ∧ L.bu ≤ 5) ∧ (L.wt = 1 ∨ L.wt = 2) ∧ (1 ≤ L.ac ∧ L.ac ≤ 5) := by
  have h2 : lineP L.mem L.own L.sh L.bu L.wt L.ac L.q.length (f2 L.q) := by simpa only [lok, lineB, decide_eq_true_eq] using h
  obtain ⟨_, _, hs, hr⟩ := h2
  rcases hr with ⟨h0, _, _, hn⟩ | ⟨h1, h3, h4, _, _⟩
  · exact absurd h0 hb
  · exact ⟨h1, by omega, h4⟩

theorem Gd.grant {L : Hm.Ln} (h : Gd L) {c t : Int} (h1 : 1 ≤ c) (h5 : c ≤ 5) : Gd (Hm.grantL L c t) := by
  unfold Hm.grantL
  split
  · exact ⟨ok_withId h.sh h1 h5, h.n, h.q⟩
  · exact ⟨rfl, h.n, h.q⟩
theorem grantL_q (L : Hm.Ln) (c t : Int) : (Hm.grantL L c t).q = L.q := by unfold Hm.grantL; split <;> rfl
theorem begL_q (L : Hm.Ln) (line c t : Int) : (Hm.begL L line c t).q = L.q := by unfold Hm.begL; split; exact grantL_q _ _ _; rfl
theorem Gd.beg {L : Hm.Ln} (h : Gd L) {line c t : Int} (h1 : 1 ≤ c) (h5 : c ≤ 5) : Gd (Hm.begL L line c t) := by
  unfold Hm.begL
  split
  · exact h.grant h1 h5
  · exact ⟨h.sh, h.n, h.q⟩
theorem Gd.tail {L : Hm.Ln} (h : Gd L) {r : Int × Int} {q : List (Int × Int)} (e : L.q = r :: q) : Gd { L with q := q } :=
  ⟨h.sh, by have := h.n; rw [e] at this; simp at this; show q.length ≤ 10; omega, fun x hx => h.q x (by rw [e]; exact List.mem_cons_of_mem _ hx)⟩
theorem Gd.head {L : Hm.Ln} (h : Gd L) {c t : Int} {q : List (Int × Int)} (e : L.q = (c, t) :: q) : 1 ≤ c ∧ c ≤ 5 ∧ (t = 1 ∨ t = 2) := h.q (c, t) (by rw [e]; exact List.mem_cons_self ..)
theorem askM_len {L : Hm.Ln} (h : Ids.ok L.sh = true) (line c t : Int) : (Hm.askM L line c t).length ≤ 5 := by
  have hl := ok_len h
  have ho : (Ids.withoutId L.sh c).length ≤ L.sh.length := List.length_filter_le _ _
  unfold Hm.askM
  split
  · simp
  · split
    · simp
    · rw [List.length_map]; omega
theorem begM_len {L : Hm.Ln} (h : Gd L) (line c t : Int) : (Hm.begM L line c t).length ≤ 5 := by
  unfold Hm.begM
  split
  · simp
  · exact askM_len h.sh line c t

/-- nothing more to begin -/
theorem next_end {line : Int} {L : Hm.Ln} {ms : List Hm.Mg} (h : ¬ L.bu = 0 ∨ L.q = []) : Hm.nextR line L.q L ms = (true, L, ms) := by
  cases e : L.q with
  | nil => simp only [Hm.nextR]; rw [← e]
  | cons r q =>
    obtain ⟨c, t⟩ := r
    have hb : ¬ L.bu = 0 := h.resolve_right (by rw [e]; simp)
    simp only [Hm.nextR, ne_eq, hb, not_false_eq_true, if_true]; rw [← e]
theorem next_no {line : Int} {L : Hm.Ln} {ms : List Hm.Mg} {c t : Int} {q : List (Int × Int)} (hb : L.bu = 0) (e : L.q = (c, t) :: q) (ho : L.own = c) : Hm.nextR line L.q L ms = (false, { L with q := q }, ms) := by
  rw [e]; simp [Hm.nextR, hb, ho]
theorem next_step {line : Int} {L : Hm.Ln} {ms : List Hm.Mg} {c t : Int} {q : List (Int × Int)} (hb : L.bu = 0) (e : L.q = (c, t) :: q) (ho : ¬ L.own = c) :
    Hm.nextR line L.q L ms = Hm.nextR line (Hm.begL { L with q := q } line c t).q (Hm.begL { L with q := q } line c t) (ms ++ Hm.begM { L with q := q } line c t) := by
  rw [e, begL_q]; simp [Hm.nextR, hb, ho]

theorem next_len {line : Int} : ∀ {q : List (Int × Int)} {L : Hm.Ln} {ms : List Hm.Mg}, Gd L → L.q = q → (Hm.nextR line q L ms).2.2.length ≤ ms.length + 5 * q.length ∧ (Hm.nextR line q L ms).2.1.q.length ≤ q.length ∧ (Hm.nextR line q L ms).2.1.sh.length ≤ 5 := by
  intro q
  induction q with
  | nil =>
    intro L ms h e
    have := next_end (line := line) (ms := ms) (.inr e)
    rw [e] at this; rw [this]
    exact ⟨by simp, by rw [e]; simp, ok_len h.sh⟩
  | cons r q ih =>
    intro L ms h e
    obtain ⟨c, t⟩ := r
    have hh := h.head e
    by_cases hb : L.bu = 0
    · by_cases ho : L.own = c
      · have := next_no (line := line) (ms := ms) hb e ho
        rw [e] at this; rw [this]
        exact ⟨by show ms.length ≤ _; omega, by show q.length ≤ _; simp, ok_len h.sh⟩
      · have := next_step (line := line) (ms := ms) hb e ho
        rw [e, begL_q] at this; rw [this]
        have hg := (h.tail e).beg (line := line) (t := t) hh.1 hh.2.1
        have h3 := ih (ms := ms ++ Hm.begM { L with q := q } line c t) hg (begL_q _ _ _ _)
        have h4 := begM_len (h.tail e) line c t
        rw [List.length_append] at h3
        simp only [List.length_cons]
        exact ⟨by omega, by omega, h3.2.2⟩
    · have := next_end (line := line) (ms := ms) (L := L) (.inl hb)
      rw [e] at this; rw [this]
      exact ⟨by show ms.length ≤ _; omega, by rw [e]; exact Nat.le_refl _, ok_len h.sh⟩
end Go.Proofs.YtlalldlbgnlbjaaGreatDoor
