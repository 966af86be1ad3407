package tests

import (
	"fmt"
	"math"
	"regexp"
	"slices"
	"strings"
	"testing"

	"loop.example/g00384/impl"
)

func TestNumbersOfLitmus(t *testing.T) {
	if impl.MaxThread != 3 {
		t.Error(impl.MaxThread, "not 3")
	}
}

func litmusOf(threads ...[]impl.BAct) impl.Litmus { return impl.Litmus{Threads: threads} }

func litmusFrom(t *testing.T, text string) impl.Litmus {
	t.Helper()
	l, ok := impl.ReadLitmus(text)
	if !ok {
		t.Fatalf("%q is no test", text)
	}
	return l
}

func sameLitmus(a impl.Litmus, b impl.Litmus) bool {
	return slices.EqualFunc(a.Threads, b.Threads, slices.Equal)
}

func isNoLitmus(l impl.Litmus) bool { return len(l.Threads) == 0 }

// litmusTexts has each kind of act at its edges, threads of each length, and
// one thread and two.
var litmusTexts = []struct {
	text   string
	litmus impl.Litmus
}{
	{"do", litmusOf(nil)},
	{"do | do", litmusOf(nil, nil)},
	{"do, fence", litmusOf([]impl.BAct{fenceAct(0)})},
	{"do, st 0 0", litmusOf([]impl.BAct{storeAct(0, 0, 0)})},
	{"do, st 2 9", litmusOf([]impl.BAct{storeAct(0, 2, 9)})},
	{"do, ld 0 0", litmusOf([]impl.BAct{loadAct(0, 0, 0)})},
	{"do, ld 2 1", litmusOf([]impl.BAct{loadAct(0, 2, 1)})},
	{"do, st 1 2, ld 2 1, fence", litmusOf([]impl.BAct{storeAct(0, 1, 2), loadAct(0, 2, 1), fenceAct(0)})},
	{"do, fence, fence, fence", litmusOf([]impl.BAct{fenceAct(0), fenceAct(0), fenceAct(0)})},
	{"do | do, fence", litmusOf(nil, []impl.BAct{fenceAct(1)})},
	{"do, fence | do", litmusOf([]impl.BAct{fenceAct(0)}, nil)},
	{"do, st 0 1 | do, st 2 9", litmusOf([]impl.BAct{storeAct(0, 0, 1)}, []impl.BAct{storeAct(1, 2, 9)})},
	{"do, ld 1 0 | do, ld 2 1", litmusOf([]impl.BAct{loadAct(0, 1, 0)}, []impl.BAct{loadAct(1, 2, 1)})},
	{
		"do, st 0 1, fence, ld 1 0 | do, st 1 1, fence, ld 0 1",
		litmusOf([]impl.BAct{storeAct(0, 0, 1), fenceAct(0), loadAct(0, 1, 0)}, []impl.BAct{storeAct(1, 1, 1), fenceAct(1), loadAct(1, 0, 1)}),
	},
}

func TestLitmusThereAndBack(t *testing.T) {
	for _, r := range litmusTexts {
		if !impl.LitmusOk(r.litmus) {
			t.Error(r.text, "is not right")
		}
		if got := impl.LitmusText(r.litmus); got != r.text {
			t.Errorf("%v is %q, not %q", r.litmus, got, r.text)
		}
		if got, ok := impl.ReadLitmus(r.text); !ok || !sameLitmus(got, r.litmus) {
			t.Errorf("%q is read as %v, %v", r.text, got, ok)
		}
	}
	// An empty list of acts is the same value as none.
	if got := impl.LitmusText(litmusOf([]impl.BAct{}, []impl.BAct{})); got != "do | do" {
		t.Error("threads without acts are", got)
	}
}

// litmusActBy says in the document's words whether a thread may have that act.
func litmusActBy(a impl.BAct, thread int64) bool {
	within := func(n int64, most int64) bool { return 0 <= n && n <= most }
	if a.Core != thread {
		return false
	}
	switch a.Kind {
	case 1:
		return within(a.Var, 2) && within(a.Value, 9) && a.Reg == 0
	case 2:
		return within(a.Var, 2) && a.Value == 0 && within(a.Reg, 1)
	case 3:
		return a.Var == 0 && a.Value == 0 && a.Reg == 0
	}
	return false
}

// checkNoLitmus: of a test that is not right nothing is told.
func checkNoLitmus(t *testing.T, l impl.Litmus) {
	t.Helper()
	if impl.LitmusOk(l) {
		t.Error("right:", l)
	}
	if got := impl.LitmusText(l); got != "" {
		t.Errorf("%v has the text %q", l, got)
	}
	for _, picks := range [][]int64{nil, {0}, {-1}} {
		if got, ok := impl.RunPicks(l, picks); ok || !isNoTso(got) {
			t.Error(l, "runs", picks, "to", got, ok)
		}
	}
	for _, buffered := range []bool{false, true} {
		if got := impl.Outcomes(l, buffered); len(got) != 0 {
			t.Error(l, "has outcomes", got)
		}
	}
}

func checkLitmus(t *testing.T, l impl.Litmus, right bool) {
	t.Helper()
	if !right {
		checkNoLitmus(t, l)
		return
	}
	text := impl.LitmusText(l)
	if got, ok := impl.ReadLitmus(text); !ok || !sameLitmus(got, l) || !impl.LitmusOk(l) {
		t.Errorf("%v comes back from %q as %v, %v", l, text, got, ok)
	}
}

func TestLitmusThreadsAndActs(t *testing.T) {
	acts := func(thread int64, count int) []impl.BAct { return slices.Repeat([]impl.BAct{fenceAct(thread)}, count) }
	for first := range 6 {
		checkLitmus(t, litmusOf(acts(0, first)), first <= 3)
		for second := range 6 {
			checkLitmus(t, litmusOf(acts(0, first), acts(1, second)), first <= 3 && second <= 3)
			checkLitmus(t, litmusOf(acts(0, first), acts(1, second), acts(2, 1)), false)
		}
	}
	for _, wrong := range []impl.Litmus{
		{},
		{Threads: [][]impl.BAct{}},
		litmusOf(nil, nil, nil),
		litmusOf(nil, nil, nil, nil),
		litmusOf(acts(0, 1000)),
		{Threads: make([][]impl.BAct, 1000)},
		litmusOf(acts(1, 1)),
		litmusOf(acts(1, 1), acts(0, 1)),
		litmusOf(acts(0, 1), acts(0, 1)),
		litmusOf(acts(1, 1), acts(1, 1)),
		litmusOf(nil, acts(2, 1)),
		litmusOf(append(acts(0, 1), acts(1, 1)...), nil),
		litmusOf([]impl.BAct{drainAct(0)}),
		litmusOf([]impl.BAct{storeAct(0, 0, 1), drainAct(0), fenceAct(0)}),
		litmusOf(nil, []impl.BAct{storeAct(1, 0, 1), drainAct(1)}),
	} {
		checkLitmus(t, wrong, false)
	}
}

// Each field of an act around its limits, all with all, in either thread and
// at each place of it.
func TestLitmusActsAroundAllLimits(t *testing.T) {
	var right, wrong int
	check := func(l impl.Litmus, want bool) {
		t.Helper()
		checkLitmus(t, l, want)
		if want {
			right++
		} else {
			wrong++
		}
	}
	for kind := int64(-1); kind <= 5; kind++ {
		for core := int64(-1); core <= 2; core++ {
			for v := int64(-1); v <= 3; v++ {
				for _, value := range []int64{-1, 0, 1, 2, 9, 10} {
					for reg := int64(-1); reg <= 2; reg++ {
						a := impl.BAct{Kind: kind, Core: core, Var: v, Value: value, Reg: reg}
						check(litmusOf([]impl.BAct{a}), litmusActBy(a, 0))
						check(litmusOf([]impl.BAct{fenceAct(0), a}, nil), litmusActBy(a, 0))
						check(litmusOf(nil, []impl.BAct{fenceAct(1), fenceAct(1), a}), litmusActBy(a, 1))
					}
				}
			}
		}
	}
	// Twelve stores, six loads and a fence, at three places.
	if right != 57 || wrong < 5000 {
		t.Error(right, "are right,", wrong, "wrong")
	}
}

func TestLitmusActsFarFromLimits(t *testing.T) {
	for _, n := range []int64{math.MinInt64, math.MaxInt64, 1 << 32, 1<<32 + 1, -64, 64, 256, 257} {
		for kind := int64(1); kind <= 3; kind++ {
			for _, a := range []impl.BAct{{Kind: n}, {Kind: kind, Core: n}, {Kind: kind, Var: n}, {Kind: kind, Value: n}, {Kind: kind, Reg: n}} {
				checkLitmus(t, litmusOf([]impl.BAct{a}), false)
				checkLitmus(t, litmusOf([]impl.BAct{a}, nil), false)
			}
		}
	}
}

// everyLitmusAct is each right act of that thread.
func everyLitmusAct(thread int64) []impl.BAct {
	acts := []impl.BAct{fenceAct(thread)}
	for v := range int64(3) {
		for value := range int64(10) {
			acts = append(acts, storeAct(thread, v, value))
		}
		acts = append(acts, loadAct(thread, v, 0), loadAct(thread, v, 1))
	}
	return acts
}

// threadsOf are all threads of these acts, up to that length.
func threadsOf(acts []impl.BAct, longest int) [][]impl.BAct {
	threads := [][]impl.BAct{nil}
	for from := 0; from < len(threads); from++ {
		if len(threads[from]) == longest {
			continue
		}
		for _, a := range acts {
			threads = append(threads, append(slices.Clone(threads[from]), a))
		}
	}
	return threads
}

func TestEveryThreadComesBack(t *testing.T) {
	for _, thread := range threadsOf(everyLitmusAct(0), 3) {
		checkLitmus(t, litmusOf(thread), true)
	}
	seconds := threadsOf(everyLitmusAct(1), 1)
	for _, first := range threadsOf(everyLitmusAct(0), 1) {
		for _, second := range seconds {
			checkLitmus(t, litmusOf(first, second), true)
		}
	}
}

const threadPattern = `do(, (st [0-2] [0-9]|ld [0-2] [01]|fence)){0,3}`

var litmusPattern = regexp.MustCompile(`\A` + threadPattern + `( \| ` + threadPattern + `)?\z`)

func checkLitmusText(t *testing.T, s string) bool {
	t.Helper()
	right := litmusPattern.MatchString(s)
	got, ok := impl.ReadLitmus(s)
	if ok != right || !right && !isNoLitmus(got) {
		t.Errorf("%q is read as %v, %v", s, got, ok)
	}
	if right && impl.LitmusText(got) != s {
		t.Errorf("%q is read as %v, and told as %q", s, got, impl.LitmusText(got))
	}
	return right
}

func TestTextsThatAreNearlyLitmus(t *testing.T) {
	for _, s := range []string{
		"", " ", "|", " | ", ",", ", ", "d", "o", "Do", "DO", "doo", "do ", " do", "do\n", "\ndo", "\tdo", "do\x00",
		"do,", "do, ", "do,  ", "do , fence", "do,fence", "do,  fence", "do fence", "do, fence ", "do, fence,", "do, fence, ",
		"do, fence fence", "do, fence 0", "do, fences", "do, Fence", "do, , fence", "fence", "st 0 1", ", fence",
		"do, st", "do, st ", "do, st 0", "do, st 0 ", "do, st  0 1", "do, st 0  1", "do, st 0 1 ", "do, st 0 1 2", "do, st 0, 1",
		"do, st 00 1", "do, st 0 01", "do, st 0 00", "do, st 01 1", "do, st +0 1", "do, st -0 1", "do, st 0 -1", "do, st -1 1",
		"do, st 3 1", "do, st 0 10", "do, st 0 11", "do, st 0 1.0", "do, st 0 a", "do, st a 0", "do, st 0 0x1", "do, st 0\t1",
		"do, st 4294967296 1", "do, st 0 18446744073709551616", "do, st 0 4294967297", "do, st 1000000000 1", "do, st 999999999 1",
		"do, ld", "do, ld 0", "do, ld 0 2", "do, ld 3 0", "do, ld 0 0 0", "do, ld 0 -1", "do, ld 0 01", "do, ld 00 0", "do, ld  0 0",
		"do, dr", "do, drain", "do, drain 0", "do, fly", "do, sto 0 1", "do, 1 0 1", "do, do", "do, do, fence",
		"do | ", " | do", "do |", "| do", "do| do", "do |do", "do|do", "do  | do", "do |  do", "do || do", "do | | do", "do / do", "do do",
		"do | do | do", "do | do | ", "do | do |", "do, fence | fence", "do, fence | , fence", "do | st 0 1", "do, fence do",
		"do, fence, fence, fence, fence", "do, fence, fence, fence, fence | do", "do | do, st 0 1, st 0 1, st 0 1, st 0 1",
		"do\u00a0| do", "do, st \uff10 1", "do, st 0 \u0661",
	} {
		if checkLitmusText(t, s) {
			t.Errorf("%q is right", s)
		}
	}
}

// Texts that are one byte away from right ones.
func TestTextsOneByteAwayFromLitmus(t *testing.T) {
	var right, wrong int
	check := func(s string) {
		t.Helper()
		if checkLitmusText(t, s) {
			right++
		} else {
			wrong++
		}
	}
	bytes := strings.Split(" 0129-,|dostlfenc\n\x00\xff", "")
	for _, r := range litmusTexts {
		for at := range len(r.text) + 1 {
			before, after := r.text[:at], r.text[at:]
			check(before)
			check(after)
			for _, b := range bytes {
				check(before + b + after)
				if after != "" {
					check(before + b + after[1:])
				}
			}
			if after != "" {
				check(before + after[1:])
			}
		}
	}
	if right < 50 || wrong < 5000 {
		t.Error("too few:", right, wrong)
	}
}

func TestLongTextsAreNoLitmus(t *testing.T) {
	for _, piece := range []string{"do", "do | ", ", fence", " ", "0", "|"} {
		if checkLitmusText(t, "do"+strings.Repeat(piece, 20000)) {
			t.Error("many of", piece, "are right")
		}
	}
}

// plainRun is a run as the document tells it, in values alone.
type plainRun struct {
	done  [2]int
	mem   [3]int64
	waits [2][3]impl.Store
	count [2]int
	regs  [2][2]int64
}

func (r *plainRun) drain(thread int64) bool {
	if r.count[thread] == 0 {
		return false
	}
	first := r.waits[thread][0]
	r.mem[first.Var] = first.Value
	r.waits[thread] = [3]impl.Store{r.waits[thread][1], r.waits[thread][2]}
	r.count[thread]--
	return true
}

func (r *plainRun) act(l impl.Litmus, thread int64) bool {
	if r.done[thread] >= len(l.Threads[thread]) {
		return false
	}
	a := l.Threads[thread][r.done[thread]]
	waits := r.waits[thread][:r.count[thread]]
	switch a.Kind {
	case impl.BaStore:
		r.waits[thread][r.count[thread]] = storeOf(a.Var, a.Value)
		r.count[thread]++
	case impl.BaLoad:
		r.regs[thread][a.Reg] = r.mem[a.Var]
		for _, w := range slices.Backward(waits) {
			if w.Var == a.Var {
				r.regs[thread][a.Reg] = w.Value
				break
			}
		}
	case impl.BaFence:
		if len(waits) > 0 {
			return false
		}
	}
	r.done[thread]++
	return true
}

func (r *plainRun) pick(l impl.Litmus, pick int64) bool {
	if threads := int64(len(l.Threads)); pick >= threads {
		return r.drain(pick - threads)
	}
	return r.act(l, pick)
}

func (r *plainRun) drainAll() {
	for thread := range int64(2) {
		for r.drain(thread) {
		}
	}
}

func (r *plainRun) outcome(l impl.Litmus) string {
	var s strings.Builder
	for thread := range l.Threads {
		fmt.Fprintf(&s, "%d%d/", r.regs[thread][0], r.regs[thread][1])
	}
	fmt.Fprintf(&s, "%d%d%d", r.mem[0], r.mem[1], r.mem[2])
	return s.String()
}

func (r *plainRun) tso(l impl.Litmus) impl.Tso {
	s := impl.Tso{Mem: slices.Clone(r.mem[:])}
	for thread := range l.Threads {
		s.Bufs = append(s.Bufs, slices.Clone(r.waits[thread][:r.count[thread]]))
		s.Regs = append(s.Regs, slices.Clone(r.regs[thread][:]))
	}
	return s
}

func plainPicks(l impl.Litmus, picks []int64) *plainRun {
	r := &plainRun{}
	for _, pick := range picks {
		r.pick(l, pick)
	}
	for thread := range l.Threads {
		for r.done[thread] < len(l.Threads[thread]) {
			if !r.act(l, int64(thread)) {
				r.drain(int64(thread))
			}
		}
	}
	r.drainAll()
	return r
}

// plainOutcomes goes through all orders of picks, one by one.
func plainOutcomes(l impl.Litmus, buffered bool) []string {
	found := map[string]int{}
	var goOn func(plainRun)
	goOn = func(r plainRun) {
		ended := true
		for pick := range 2 * int64(len(l.Threads)) {
			next := r
			if !next.pick(l, pick) {
				continue
			}
			ended = false
			if !buffered {
				next.drainAll()
			}
			goOn(next)
		}
		if ended {
			found[r.outcome(l)]++
		}
	}
	goOn(plainRun{})
	var list []string
	for outcome := range found {
		list = append(list, outcome)
	}
	slices.Sort(list)
	return list
}

func checkRun(t *testing.T, l impl.Litmus, picks []int64) string {
	t.Helper()
	got, ok := impl.RunPicks(l, picks)
	want := plainPicks(l, picks)
	if !ok || !sameTso(got, want.tso(l)) || !impl.TsoOk(got) {
		t.Fatal(impl.LitmusText(l), picks, "runs to", got, ok, "not", want.tso(l))
	}
	outcome := impl.OutcomeOf(got)
	if outcome != want.outcome(l) {
		t.Fatal(impl.LitmusText(l), picks, "has the outcome", outcome, "not", want.outcome(l))
	}
	return outcome
}

const (
	storesAndLoads = "do, st 0 1, ld 1 0 | do, st 1 1, ld 0 0"
	fencedOnes     = "do, st 0 1, fence, ld 1 0 | do, st 1 1, fence, ld 0 0"
)

func TestRunPicks(t *testing.T) {
	table := []struct {
		name  string
		text  string
		picks []int64
		want  string
	}{
		{"no acts", "do", nil, "00/000"},
		{"no acts, and all picks", "do", []int64{0, 1, 0, 1}, "00/000"},
		{"no acts of two", "do | do", []int64{0, 1, 2, 3}, "00/00/000"},
		{"no picks", storesAndLoads, nil, "00/00/110"},
		{"both store first", storesAndLoads, []int64{0, 1, 0, 1}, "00/00/110"},
		{"the first is drained", storesAndLoads, []int64{0, 2, 0, 1}, "00/10/110"},
		{"the second is drained", storesAndLoads, []int64{1, 3, 1, 0}, "10/00/110"},
		{"both are drained", storesAndLoads, []int64{0, 1, 2, 3}, "10/10/110"},
		{"a drain of nothing is passed over", storesAndLoads, []int64{2, 3, 2, 0, 0, 1, 1}, "00/00/110"},
		{"a thread that has ended is passed over", storesAndLoads, []int64{0, 0, 0, 0, 2, 2, 1, 1}, "00/10/110"},
		{"what is left is done without drains", "do, st 0 1, ld 0 0 | do, ld 0 0", nil, "10/00/100"},
		{"the first thread's acts that are left go first", "do, ld 0 0 | do, st 0 1, fence", nil, "00/00/100"},
		{"the second one's were picked", "do, ld 0 0 | do, st 0 1, fence", []int64{1, 3}, "10/00/100"},
		{"a fence drains its own alone", "do, st 0 1, fence, ld 1 0 | do, st 1 2", []int64{1}, "00/00/120"},
		{"all that wait are drained ahead of a fence", "do, st 0 1, st 1 2, fence | do, ld 0 0, ld 1 1", nil, "00/12/120"},
		{"none is drained ahead of a load", "do, st 0 1, st 1 2, ld 2 0 | do, ld 0 0, ld 1 1", nil, "00/00/120"},
		{"drained core by core at last", "do, st 0 1 | do, st 0 2", nil, "00/00/200"},
		{"even when the second one stored first", "do, st 0 1 | do, st 0 2", []int64{1, 0}, "00/00/200"},
		{"unless that is drained already", "do, st 0 1 | do, st 0 2", []int64{1, 3}, "00/00/100"},
		{"its own newest is loaded", "do, st 0 1, st 0 2, ld 0 1", []int64{0, 1, 0}, "02/200"},
		{"a fence waits, and its thread with it", fencedOnes, []int64{0, 0, 0, 1, 3}, "10/10/110"},
		{"a fence that does not wait any more", fencedOnes, []int64{0, 0, 2, 0, 0, 1, 3}, "00/10/110"},
		{"both wait at their fences", fencedOnes, []int64{0, 1, 0, 1, 0, 1, 0, 1}, "00/10/110"},
		{"both wait, the second is drained", fencedOnes, []int64{0, 1, 0, 1, 3, 1, 1}, "10/00/110"},
		{"a fence ahead of everything", "do, fence, st 0 1, ld 0 0", []int64{1, 0, 0, 1, 0}, "10/100"},
		{"three stores wait", "do, st 0 1, st 0 2, st 0 3 | do, ld 0 0", []int64{0, 0, 0, 1}, "00/00/300"},
		{"of three the one that waits longest is drained", "do, st 0 1, st 0 2, st 0 3 | do, ld 0 0, ld 0 1", []int64{0, 0, 0, 2, 1, 2, 1}, "00/12/300"},
		{"stores of 0", "do, st 0 5, st 0 0 | do, ld 0 0", []int64{0, 0, 2, 1}, "00/50/000"},
		{"one thread", "do, st 2 9, ld 2 0, ld 1 1", []int64{0, 1, 0}, "90/009"},
	}
	for _, r := range table {
		l := litmusFrom(t, r.text)
		if got := checkRun(t, l, r.picks); got != r.want {
			t.Error(r.name, ":", r.text, r.picks, "ends in", got, "not", r.want)
		}
	}
}

// So few acts has a thread that there is always room for one more store: what
// is refused when MaxStores wait never is here.
func TestStoresOfAThreadHaveRoom(t *testing.T) {
	l := litmusFrom(t, "do, st 0 1, st 1 2, st 2 3 | do, st 0 4, st 1 5, st 2 6")
	if got := checkRun(t, l, []int64{0, 1, 0, 1, 0, 1}); got != "00/00/456" {
		t.Error("all stores wait:", got)
	}
	if got := checkRun(t, l, []int64{1, 1, 1, 0, 0, 0, 3, 3, 3}); got != "00/00/123" {
		t.Error("the second one's are drained first:", got)
	}
	four := slices.Repeat([]impl.BAct{storeAct(0, 0, 1)}, 4)
	checkNoLitmus(t, litmusOf(four))
	checkNoLitmus(t, litmusOf(four, nil))
}

func TestRunPicksLimits(t *testing.T) {
	for _, r := range litmusTexts {
		count := 2 * int64(len(r.litmus.Threads))
		for pick := range count {
			picks := slices.Repeat([]int64{pick}, 51)
			checkRun(t, r.litmus, picks[:1])
			checkRun(t, r.litmus, picks[:49])
			checkRun(t, r.litmus, picks[:50])
			for _, many := range [][]int64{picks, append(slices.Clone(picks), picks...)} {
				if got, ok := impl.RunPicks(r.litmus, many); ok || !isNoTso(got) {
					t.Error(r.text, "with", len(many), "picks runs to", got, ok)
				}
			}
		}
		for _, none := range []int64{-1, count, count + 1, -count, 64, math.MinInt64, math.MaxInt64} {
			for _, picks := range [][]int64{{none}, {0, none}, {none, 0}, {0, count - 1, 0, none, 1}, append(make([]int64, 49), none)} {
				if got, ok := impl.RunPicks(r.litmus, picks); ok || !isNoTso(got) {
					t.Error(r.text, "with", picks, "runs to", got, ok)
				}
			}
		}
		checkRun(t, r.litmus, []int64{})
	}
	// The last of 50 picks is done too: it is a drain ahead of the other one's
	// load.
	l := litmusFrom(t, "do, st 0 1 | do, ld 0 0")
	picks := slices.Repeat([]int64{0}, 50)
	if got := checkRun(t, l, picks); got != "00/00/100" {
		t.Error("without the drain:", got)
	}
	picks[49] = 2
	if got := checkRun(t, l, picks); got != "00/10/100" {
		t.Error("with the drain as the last pick:", got)
	}
}

func TestOutcomeOf(t *testing.T) {
	table := []struct {
		tso  impl.Tso
		want string
	}{
		{zeroTso(1), "00/000"},
		{zeroTso(2), "00/00/000"},
		{zeroTso(3), "00/00/00/000"},
		{threeBuffers(), "89/01/23/123"},
		{fourWait(), "00/000"},
		{impl.Tso{Mem: []int64{9, 8, 7}, Bufs: make([][]impl.Store, 2), Regs: [][]int64{{1, 2}, {3, 4}}}, "12/34/987"},
	}
	for _, r := range table {
		if got := impl.OutcomeOf(r.tso); got != r.want {
			t.Error(r.tso, "has the outcome", got, "not", r.want)
		}
	}
	for _, s := range wrongTsos() {
		if got := impl.OutcomeOf(s); got != "" {
			t.Error(s, "is not right, but has the outcome", got)
		}
	}
	d := draw{state: 111}
	for range 2000 {
		s := d.tso()
		want := ""
		for _, regs := range s.Regs {
			want += fmt.Sprintf("%d%d/", regs[0], regs[1])
		}
		want += fmt.Sprintf("%d%d%d", s.Mem[0], s.Mem[1], s.Mem[2])
		if got := impl.OutcomeOf(s); got != want {
			t.Fatal(s, "has the outcome", got, "not", want)
		}
	}
}

func TestOutcomes(t *testing.T) {
	table := []struct {
		name     string
		text     string
		plain    string
		buffered string
	}{
		{"nothing", "do", "00/000", "00/000"},
		{"nothing of two", "do | do", "00/00/000", "00/00/000"},
		{"a fence alone", "do, fence | do, fence", "00/00/000", "00/00/000"},
		{"a store alone", "do, st 1 7", "00/070", "00/070"},
		{"stores and loads", storesAndLoads, "00/10/110 10/00/110 10/10/110", "00/00/110 00/10/110 10/00/110 10/10/110"},
		{"with fences between", fencedOnes, "00/10/110 10/00/110 10/10/110", "00/10/110 10/00/110 10/10/110"},
		{
			"with one fence alone", "do, st 0 1, fence, ld 1 0 | do, st 1 1, ld 0 0",
			"00/10/110 10/00/110 10/10/110", "00/00/110 00/10/110 10/00/110 10/10/110",
		},
		{"a fence ahead of each store", "do, fence, st 0 1, ld 1 0 | do, fence, st 1 1, ld 0 0", "00/10/110 10/00/110 10/10/110", "00/00/110 00/10/110 10/00/110 10/10/110"},
		{"a message is passed", "do, st 0 1, st 1 1 | do, ld 1 0, ld 0 1", "00/00/110 00/01/110 00/11/110", "00/00/110 00/01/110 00/11/110"},
		{"loads ahead of stores", "do, ld 0 0, st 1 1 | do, ld 1 0, st 0 1", "00/00/110 00/10/110 10/00/110", "00/00/110 00/10/110 10/00/110"},
		{"two stores each", "do, st 0 1, st 1 2 | do, st 1 1, st 0 2", "00/00/120 00/00/210 00/00/220", "00/00/120 00/00/210 00/00/220"},
		{"two stores to one", "do, st 0 1 | do, st 0 2", "00/00/100 00/00/200", "00/00/100 00/00/200"},
		{"one reads twice", "do, st 0 1 | do, ld 0 0, ld 0 1", "00/00/100 00/01/100 00/11/100", "00/00/100 00/01/100 00/11/100"},
		{
			"its own is read early", "do, st 0 1, ld 0 0, ld 1 1 | do, st 1 1, ld 1 0, ld 0 1",
			"10/11/110 11/10/110 11/11/110", "10/10/110 10/11/110 11/10/110 11/11/110",
		},
		{"one thread that reads its own", "do, st 0 1, st 0 2, ld 0 0", "20/200", "20/200"},
		{"one thread with a fence that waits", "do, st 0 1, fence, st 0 2", "00/200", "00/200"},
		{"a fence that waits at the end", "do, st 0 1, fence | do, ld 0 0", "00/00/100 00/10/100", "00/00/100 00/10/100"},
	}
	for _, r := range table {
		l := litmusFrom(t, r.text)
		if got := strings.Join(impl.Outcomes(l, false), " "); got != r.plain {
			t.Error(r.name, ": without buffers", r.text, "comes to", got, "not", r.plain)
		}
		if got := strings.Join(impl.Outcomes(l, true), " "); got != r.buffered {
			t.Error(r.name, ": with buffers", r.text, "comes to", got, "not", r.buffered)
		}
	}
}

// risesBy: each outcome once, the lesser ones first.
func risesBy(list []string) bool {
	for at := 1; at < len(list); at++ {
		if list[at-1] >= list[at] {
			return false
		}
	}
	return len(list) > 0
}

// checkOutcomes answers the outcomes without and with buffers, when they are
// as the document tells and the first are some of the second.
func checkOutcomes(t *testing.T, l impl.Litmus) ([]string, []string) {
	t.Helper()
	plain, buffered := impl.Outcomes(l, false), impl.Outcomes(l, true)
	if !slices.Equal(plain, plainOutcomes(l, false)) || !slices.Equal(buffered, plainOutcomes(l, true)) {
		t.Fatal(impl.LitmusText(l), "comes to", plain, buffered)
	}
	if !risesBy(plain) || !risesBy(buffered) {
		t.Fatal(impl.LitmusText(l), "comes to what does not rise:", plain, buffered)
	}
	for _, outcome := range plain {
		if !slices.Contains(buffered, outcome) {
			t.Fatal(impl.LitmusText(l), "comes to", outcome, "without buffers alone")
		}
	}
	return plain, buffered
}

// someActs are a few acts of that thread.
func someActs(thread int64) []impl.BAct {
	return []impl.BAct{storeAct(thread, 0, 1+thread), storeAct(thread, 1, 1+thread), loadAct(thread, 0, 0), loadAct(thread, 1, 1), fenceAct(thread)}
}

// Promise 11, of all tests of two short threads.
func TestOutcomesOfAllShortTests(t *testing.T) {
	seconds := threadsOf(someActs(1), 2)
	var more int
	for _, first := range threadsOf(someActs(0), 2) {
		for _, second := range seconds {
			plain, buffered := checkOutcomes(t, litmusOf(first, second))
			if len(buffered) > len(plain) {
				more++
			}
		}
	}
	if more == 0 {
		t.Error("buffers bring nothing new anywhere")
	}
}

func (d *draw) thread(number int64, longest int64) []impl.BAct {
	var acts []impl.BAct
	for range 1 + d.upTo(longest) {
		switch d.upTo(5) {
		case 0:
			acts = append(acts, fenceAct(number))
		case 1, 2:
			acts = append(acts, loadAct(number, d.upTo(2), d.upTo(2)))
		default:
			acts = append(acts, storeAct(number, d.upTo(2), d.upTo(4)))
		}
	}
	return acts
}

func (d *draw) litmus() impl.Litmus { return litmusOf(d.thread(0, 3), d.thread(1, 3)) }

// Promise 11, of drawn tests.
func TestOutcomesOfDrawnTests(t *testing.T) {
	d := draw{state: 112}
	for range 2000 {
		checkOutcomes(t, d.litmus())
	}
}

// Promise 11: one thread alone has one outcome, whatever is picked.
func TestOneThreadHasOneOutcome(t *testing.T) {
	check := func(thread []impl.BAct) {
		t.Helper()
		plain, buffered := checkOutcomes(t, litmusOf(thread))
		if len(buffered) != 1 || !slices.Equal(plain, buffered) {
			t.Fatal(thread, "comes to", plain, buffered)
		}
		for _, picks := range [][]int64{nil, {0, 1, 0, 1, 0, 1}, {0, 0, 1, 0}, {1, 0, 0, 0}} {
			if got := checkRun(t, litmusOf(thread), picks); got != buffered[0] {
				t.Fatal(thread, picks, "ends in", got, "not", buffered[0])
			}
		}
	}
	for _, thread := range threadsOf(everyLitmusAct(0), 2) {
		check(thread)
	}
	for _, thread := range threadsOf(someActs(0), 3) {
		check(thread)
	}
}

// fenced are all threads of some acts in which a fence is behind each store.
func fenced(thread int64) [][]impl.BAct {
	var threads [][]impl.BAct
	for _, acts := range threadsOf(someActs(thread), 3) {
		bare := false
		for at, a := range acts {
			last := at == len(acts)-1
			bare = bare || a.Kind == impl.BaStore && (last || acts[at+1].Kind != impl.BaFence)
		}
		if !bare {
			threads = append(threads, acts)
		}
	}
	return threads
}

// Promise 11: with a fence behind each store buffers bring nothing new.
func TestFencesBehindStores(t *testing.T) {
	seconds := fenced(1)
	for _, first := range fenced(0) {
		for _, second := range seconds {
			l := litmusOf(first, second)
			plain, buffered := impl.Outcomes(l, false), impl.Outcomes(l, true)
			if len(plain) == 0 || !slices.Equal(plain, buffered) {
				t.Fatal(impl.LitmusText(l), "comes to", plain, "without buffers,", buffered, "with them")
			}
		}
	}
}

// allPicks are all lists of so many picks.
func allPicks(picks int64, length int) [][]int64 {
	lists := [][]int64{nil}
	for range length {
		var longer [][]int64
		for _, list := range lists {
			for pick := range picks {
				longer = append(longer, append(slices.Clone(list), pick))
			}
		}
		lists = longer
	}
	return lists
}

// Promise 11: whatever is picked, a run ends in one of the outcomes.
func TestAllPicksEndInOutcomes(t *testing.T) {
	texts := []string{
		storesAndLoads, fencedOnes,
		"do, st 0 1, st 1 1 | do, ld 1 0, ld 0 1",
		"do, st 0 1, ld 0 0, ld 1 1 | do, st 1 1, ld 1 0, ld 0 1",
		"do, st 0 1, st 0 2, fence | do, ld 0 0, ld 0 1",
		"do, fence | do",
		"do, st 0 1, fence, st 0 2",
	}
	for _, text := range texts {
		l := litmusFrom(t, text)
		outcomes := impl.Outcomes(l, true)
		for length := range 7 {
			for _, picks := range allPicks(2*int64(len(l.Threads)), length) {
				if got := checkRun(t, l, picks); !slices.Contains(outcomes, got) {
					t.Fatal(text, picks, "ends in", got, "which is none of", outcomes)
				}
			}
		}
	}
}

// Promise 11, with many picks at drawn tests.
func TestDrawnPicksEndInOutcomes(t *testing.T) {
	d := draw{state: 113}
	for range 100 {
		l := d.litmus()
		outcomes := impl.Outcomes(l, true)
		for range 200 {
			picks := d.addrs(d.upTo(51), 4)
			if got := checkRun(t, l, picks); !slices.Contains(outcomes, got) {
				t.Fatal(impl.LitmusText(l), picks, "ends in", got, "which is none of", outcomes)
			}
		}
	}
}

// Each outcome with buffers is one in which a run ends.
func TestOutcomesComeOfPicks(t *testing.T) {
	for _, text := range []string{storesAndLoads, fencedOnes, "do, st 0 1, st 1 2 | do, st 1 1, st 0 2", "do, st 0 1, st 0 2 | do, ld 0 0, ld 0 1"} {
		l := litmusFrom(t, text)
		var came []string
		for _, picks := range allPicks(4, 8) {
			s, ok := impl.RunPicks(l, picks)
			if !ok {
				t.Fatal(text, picks, "does not run")
			}
			if outcome := impl.OutcomeOf(s); !slices.Contains(came, outcome) {
				came = append(came, outcome)
			}
		}
		slices.Sort(came)
		if want := impl.Outcomes(l, true); !slices.Equal(came, want) {
			t.Error(text, "comes to", want, "but runs end in", came)
		}
	}
}

// A test whose threads change places has outcomes whose registers do.
func TestThreadsChangePlaces(t *testing.T) {
	moved := func(acts []impl.BAct, thread int64) []impl.BAct {
		acts = slices.Clone(acts)
		for at := range acts {
			acts[at].Core = thread
		}
		return acts
	}
	d := draw{state: 114}
	for range 200 {
		l := d.litmus()
		other := litmusOf(moved(l.Threads[1], 0), moved(l.Threads[0], 1))
		for _, buffered := range []bool{false, true} {
			var want []string
			for _, outcome := range impl.Outcomes(l, buffered) {
				parts := strings.Split(outcome, "/")
				want = append(want, parts[1]+"/"+parts[0]+"/"+parts[2])
			}
			slices.Sort(want)
			if got := impl.Outcomes(other, buffered); !slices.Equal(got, want) {
				t.Fatal(impl.LitmusText(other), "comes to", got, "not", want)
			}
		}
	}
}

func litmusLists(l impl.Litmus) []any {
	lists := []any{l.Threads}
	for _, acts := range l.Threads {
		lists = append(lists, acts)
	}
	return lists
}

func roomyLitmus(l impl.Litmus) impl.Litmus {
	var n impl.Litmus
	for _, acts := range l.Threads {
		n.Threads = append(n.Threads, roomy(acts, impl.BAct{Kind: spareMark}))
	}
	n.Threads = roomy(n.Threads, []impl.BAct{{Kind: spareMark}})
	return n
}

func withLitmusRoom(l impl.Litmus) impl.Litmus {
	var n impl.Litmus
	for _, acts := range l.Threads[:cap(l.Threads)] {
		n.Threads = append(n.Threads, slices.Clone(acts[:cap(acts)]))
	}
	return n
}

func TestLitmusMemory(t *testing.T) {
	d := draw{state: 115}
	var tests []impl.Litmus
	for _, r := range litmusTexts {
		tests = append(tests, r.litmus)
	}
	for range 50 {
		tests = append(tests, d.litmus())
	}
	tests = append(tests, impl.Litmus{}, litmusOf(nil, nil, nil), litmusOf([]impl.BAct{drainAct(0)}))
	for _, l := range tests {
		given := roomyLitmus(l)
		before := withLitmusRoom(given)
		picks := roomy(d.addrs(20, 4), spareMark)
		if len(l.Threads) == 1 {
			picks = roomy(d.addrs(20, 2), spareMark)
		}
		picksBefore := slices.Clone(picks[:cap(picks)])
		for _, list := range [][]int64{picks, picks[:0], nil} {
			first, ok := impl.RunPicks(given, list)
			kept := copyTso(first)
			second, okToo := impl.RunPicks(given, list)
			if ok != okToo || !sameTso(second, kept) || !sameTso(first, kept) {
				t.Error("RunPicks of", l, "answers otherwise when asked again:", second)
			}
			checkApart(t, "RunPicks", append(tsoLists(first), tsoLists(second)...), append(litmusLists(given), picks))
		}
		for _, buffered := range []bool{false, true} {
			first := impl.Outcomes(given, buffered)
			kept := slices.Clone(first)
			second := impl.Outcomes(given, buffered)
			if !slices.Equal(first, kept) || !slices.Equal(second, kept) {
				t.Error("Outcomes of", l, "answers otherwise when asked again:", second)
			}
			checkApart(t, "Outcomes", []any{first, second}, litmusLists(given))
		}
		if impl.LitmusOk(given) != impl.LitmusOk(l) || impl.LitmusText(given) != impl.LitmusText(l) {
			t.Error(l, "hangs on the room behind it")
		}
		if !sameLitmus(withLitmusRoom(given), before) || !slices.Equal(picks[:cap(picks)], picksBefore) {
			t.Error("written into the argument:", withLitmusRoom(given), picks[:cap(picks)])
		}
	}
	for _, r := range litmusTexts {
		first, second := litmusFrom(t, r.text), litmusFrom(t, r.text)
		checkApart(t, "ReadLitmus", append(litmusLists(first), litmusLists(second)...), nil)
	}
	for _, s := range append(rightTsos(), wrongTsos()...) {
		given := roomyTso(s)
		before := copyTso(withTsoRoom(given))
		if impl.OutcomeOf(given) != impl.OutcomeOf(s) || !sameTso(withTsoRoom(given), before) {
			t.Error("OutcomeOf wrote into", s, "or hangs on the room behind it")
		}
	}
}

// The threads of an argument may share memory.
func TestLitmusWhoseThreadsShare(t *testing.T) {
	acts := []impl.BAct{fenceAct(0), fenceAct(0), fenceAct(1), fenceAct(1)}
	l := litmusOf(acts[:2], acts[2:])
	if got := impl.LitmusText(l); got != "do, fence, fence | do, fence, fence" {
		t.Error(got)
	}
	checkRun(t, l, []int64{0, 1, 2, 3})
	if got := impl.Outcomes(l, true); !slices.Equal(got, []string{"00/00/000"}) {
		t.Error(got)
	}
	if !slices.Equal(acts, []impl.BAct{fenceAct(0), fenceAct(0), fenceAct(1), fenceAct(1)}) {
		t.Error("written into the argument:", acts)
	}
}
