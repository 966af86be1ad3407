package tests

import (
	"fmt"
	"math"
	"slices"
	"testing"

	"loop.example/g00384/impl"
)

func TestNumbersOfBuffers(t *testing.T) {
	got := []int64{
		impl.VarCount, impl.RegCount, impl.MaxStores,
		impl.TsDone, impl.TsWrong, impl.TsForm, impl.TsFull, impl.TsWait, impl.TsNone,
		impl.BaStore, impl.BaLoad, impl.BaFence, impl.BaDrain,
	}
	if want := []int64{3, 2, 4, 0, 1, 2, 3, 4, 5, 1, 2, 3, 4}; !slices.Equal(got, want) {
		t.Error(got, "not", want)
	}
}

func storeOf(v int64, value int64) impl.Store { return impl.Store{Var: v, Value: value} }

func storeAct(core int64, v int64, value int64) impl.BAct {
	return impl.BAct{Kind: impl.BaStore, Core: core, Var: v, Value: value}
}

func loadAct(core int64, v int64, reg int64) impl.BAct {
	return impl.BAct{Kind: impl.BaLoad, Core: core, Var: v, Reg: reg}
}

func fenceAct(core int64) impl.BAct { return impl.BAct{Kind: impl.BaFence, Core: core} }

func drainAct(core int64) impl.BAct { return impl.BAct{Kind: impl.BaDrain, Core: core} }

func sameTso(a impl.Tso, b impl.Tso) bool {
	return slices.Equal(a.Mem, b.Mem) && slices.EqualFunc(a.Bufs, b.Bufs, slices.Equal) && slices.EqualFunc(a.Regs, b.Regs, slices.Equal)
}

func isNoTso(s impl.Tso) bool { return sameTso(s, impl.Tso{}) }

func copyTso(s impl.Tso) impl.Tso {
	n := impl.Tso{Mem: slices.Clone(s.Mem), Bufs: slices.Clone(s.Bufs), Regs: slices.Clone(s.Regs)}
	for at := range n.Bufs {
		n.Bufs[at] = slices.Clone(n.Bufs[at])
	}
	for at := range n.Regs {
		n.Regs[at] = slices.Clone(n.Regs[at])
	}
	return n
}

func tsoWith(s impl.Tso, change func(*impl.Tso)) impl.Tso {
	n := copyTso(s)
	change(&n)
	return n
}

// zeroTso has so many cores, right or not, and nothing else.
func zeroTso(cores int) impl.Tso {
	s := impl.Tso{Mem: make([]int64, 3)}
	for range cores {
		s.Bufs = append(s.Bufs, nil)
		s.Regs = append(s.Regs, make([]int64, 2))
	}
	return s
}

// threeBuffers has a core of which three wait, one of which one does, and one
// of which none does.
func threeBuffers() impl.Tso {
	return impl.Tso{
		Mem:  []int64{1, 2, 3},
		Bufs: [][]impl.Store{{storeOf(0, 4), storeOf(1, 5), storeOf(0, 6)}, {storeOf(0, 7)}, nil},
		Regs: [][]int64{{8, 9}, {0, 1}, {2, 3}},
	}
}

// fourWait is one core with as many stores as may wait.
func fourWait() impl.Tso {
	return impl.Tso{
		Mem:  []int64{0, 0, 0},
		Bufs: [][]impl.Store{{storeOf(2, 9), storeOf(2, 9), storeOf(0, 0), storeOf(2, 1)}},
		Regs: [][]int64{{0, 0}},
	}
}

func rightTsos() []impl.Tso {
	empty := zeroTso(2)
	empty.Bufs = [][]impl.Store{{}, {}}
	nines := impl.Tso{
		Mem:  []int64{9, 9, 9},
		Bufs: slices.Repeat([][]impl.Store{slices.Repeat([]impl.Store{storeOf(2, 9)}, 4)}, 3),
		Regs: slices.Repeat([][]int64{{9, 9}}, 3),
	}
	return []impl.Tso{zeroTso(1), zeroTso(2), zeroTso(3), empty, threeBuffers(), fourWait(), nines}
}

func wrongTsos() []impl.Tso {
	list := []impl.Tso{
		{},
		{Mem: make([]int64, 3)},
		zeroTso(0),
		zeroTso(4),
		zeroTso(5),
		{Bufs: make([][]impl.Store, 1), Regs: [][]int64{{0, 0}}},
		{Mem: make([]int64, 3), Bufs: make([][]impl.Store, 1)},
		{Mem: make([]int64, 3), Regs: [][]int64{{0, 0}}},
		{Mem: make([]int64, 3), Bufs: make([][]impl.Store, 1), Regs: [][]int64{nil}},
	}
	changes := []func(*impl.Tso){
		func(s *impl.Tso) { s.Mem = nil },
		func(s *impl.Tso) { s.Mem = s.Mem[:2] },
		func(s *impl.Tso) { s.Mem = append(s.Mem, 0) },
		func(s *impl.Tso) { s.Bufs = s.Bufs[:len(s.Bufs)-1] },
		func(s *impl.Tso) { s.Bufs = append(s.Bufs, nil) },
		func(s *impl.Tso) { s.Regs = s.Regs[:len(s.Regs)-1] },
		func(s *impl.Tso) { s.Regs = append(s.Regs, []int64{0, 0}) },
		func(s *impl.Tso) { s.Bufs[0] = slices.Repeat([]impl.Store{storeOf(0, 0)}, 5) },
		func(s *impl.Tso) { s.Bufs[len(s.Bufs)-1] = slices.Repeat([]impl.Store{storeOf(1, 1)}, 5) },
		func(s *impl.Tso) { s.Regs[0] = nil },
		func(s *impl.Tso) { s.Regs[0] = []int64{0} },
		func(s *impl.Tso) { s.Regs[len(s.Regs)-1] = []int64{0, 0, 0} },
	}
	for _, n := range []int64{-1, 10, 11, math.MinInt64, math.MaxInt64} {
		for at := range 3 {
			changes = append(changes, func(s *impl.Tso) { s.Mem[at] = n })
		}
		changes = append(changes,
			func(s *impl.Tso) { s.Regs[0][0] = n },
			func(s *impl.Tso) { s.Regs[len(s.Regs)-1][1] = n },
			func(s *impl.Tso) { s.Bufs[0] = []impl.Store{storeOf(0, n)} },
			func(s *impl.Tso) { s.Bufs[len(s.Bufs)-1] = []impl.Store{storeOf(0, 0), storeOf(0, n)} },
		)
	}
	for _, v := range []int64{-1, 3, 4, math.MinInt64, math.MaxInt64} {
		changes = append(changes,
			func(s *impl.Tso) { s.Bufs[0] = []impl.Store{storeOf(v, 0)} },
			func(s *impl.Tso) { s.Bufs[len(s.Bufs)-1] = []impl.Store{storeOf(2, 0), storeOf(v, 0)} },
		)
	}
	for _, change := range changes {
		for _, right := range rightTsos() {
			list = append(list, tsoWith(right, change))
		}
	}
	// A core more, of which too many are there then, or but one list has it.
	for _, right := range rightTsos() {
		if len(right.Bufs) == 3 {
			list = append(list, tsoWith(right, func(s *impl.Tso) {
				s.Bufs, s.Regs = append(s.Bufs, nil), append(s.Regs, []int64{0, 0})
			}))
		}
	}
	return list
}

func TestRightTsos(t *testing.T) {
	for _, s := range rightTsos() {
		if !impl.TsoOk(s) {
			t.Error("not right:", s)
		}
	}
}

func TestWrongTsos(t *testing.T) {
	acts := []impl.BAct{
		storeAct(0, 0, 1), loadAct(0, 0, 0), fenceAct(0), drainAct(0),
		{}, {Kind: 5}, {Kind: impl.BaFence, Var: 1}, storeAct(9, 9, 99), drainAct(-1),
	}
	for _, s := range wrongTsos() {
		if impl.TsoOk(s) {
			t.Error("right:", s)
		}
		for core := int64(-1); core < 4; core++ {
			for v := int64(-1); v < 4; v++ {
				if got, ok := impl.SeenBy(s, core, v); ok || got != 0 {
					t.Error(s, ": core", core, "sees", v, "as", got, ok)
				}
			}
		}
		for _, a := range acts {
			if got, code := impl.TsoDo(s, a); code != impl.TsWrong || !isNoTso(got) {
				t.Error(s, a, "tells", code, got)
			}
		}
		for _, l := range [][]impl.BAct{nil, acts, slices.Repeat(acts, 30)} {
			if got, codes := impl.TsoPlay(s, l); len(codes) != 0 || !isNoTso(got) {
				t.Error(s, "plays", codes, got)
			}
		}
		if got, ok := impl.Drained(s); ok || !isNoTso(got) {
			t.Error(s, "drained is", got, ok)
		}
	}
}

func digitsBy(l []int64, count int) bool {
	return len(l) == count && slices.Min(append(slices.Clone(l), 0)) == 0 && slices.Max(append(slices.Clone(l), 9)) == 9
}

func tsoRightBy(s impl.Tso) bool {
	if len(s.Bufs) != len(s.Regs) || len(s.Bufs) == 0 || len(s.Bufs) > 3 || !digitsBy(s.Mem, 3) {
		return false
	}
	for _, regs := range s.Regs {
		if !digitsBy(regs, 2) {
			return false
		}
	}
	for _, buf := range s.Bufs {
		for at, w := range buf {
			if at >= 4 || w.Var != 0 && w.Var != 1 && w.Var != 2 || !digitsBy([]int64{w.Value}, 1) {
				return false
			}
		}
	}
	return true
}

// tso is right.
func (d *draw) tso() impl.Tso {
	s := zeroTso(int(1 + d.upTo(3)))
	s.Mem = d.addrs(3, 10)
	for core := range s.Bufs {
		s.Regs[core] = d.addrs(2, 10)
		for range d.upTo(5) {
			s.Bufs[core] = append(s.Bufs[core], storeOf(d.upTo(3), d.upTo(10)))
		}
	}
	return s
}

// Tsos that are near to right ones.
func TestTsoOkOfSpoiltTsos(t *testing.T) {
	d := draw{state: 101}
	var right, wrong int
	for range 40000 {
		s := d.tso()
		core := d.upTo(int64(len(s.Bufs)))
		switch d.upTo(8) {
		case 0:
			s.Mem[d.upTo(3)] += d.upTo(7) - 3
		case 1:
			s.Regs[core][d.upTo(2)] += d.upTo(7) - 3
		case 2:
			s.Bufs[core] = append(s.Bufs[core], storeOf(d.upTo(5)-1, 5))
		case 3:
			s.Bufs[core] = append(s.Bufs[core], storeOf(1, d.upTo(13)-1))
		case 4:
			s.Mem = append(s.Mem, 0)[:2+d.upTo(3)]
		case 5:
			s.Regs[core] = append(s.Regs[core], 0)[:1+d.upTo(3)]
		case 6:
			s.Bufs = append(s.Bufs, nil)
			if d.oneIn(2) {
				s.Regs = append(s.Regs, []int64{0, 9})
			}
		case 7:
			s.Regs = s.Regs[:core]
			if d.oneIn(2) {
				s.Bufs = s.Bufs[:core]
			}
		}
		want := tsoRightBy(s)
		if impl.TsoOk(s) != want {
			t.Fatal(s, "is right:", !want)
		}
		if want {
			right++
		} else {
			wrong++
		}
	}
	if right < 5000 || wrong < 5000 {
		t.Error("too few:", right, wrong)
	}
}

func TestTsoNew(t *testing.T) {
	for cores := int64(1); cores <= 3; cores++ {
		got, ok := impl.TsoNew(cores)
		if !ok || !impl.TsoOk(got) || !sameTso(got, zeroTso(int(cores))) {
			t.Error("a new one of", cores, "is", got, ok)
		}
	}
	for _, cores := range []int64{0, 4, -1, 5, math.MinInt64, math.MaxInt64} {
		if got, ok := impl.TsoNew(cores); ok || !isNoTso(got) {
			t.Error("a new one of", cores, "is", got, ok)
		}
	}
}

func TestSeenBy(t *testing.T) {
	three, four := threeBuffers(), fourWait()
	otherAlone := zeroTso(2)
	otherAlone.Bufs[1] = []impl.Store{storeOf(2, 8)}
	noughts := impl.Tso{Mem: []int64{5, 6, 7}, Bufs: [][]impl.Store{{storeOf(0, 1), storeOf(0, 0)}}, Regs: [][]int64{{3, 4}}}
	table := []struct {
		name string
		tso  impl.Tso
		core int64
		v    int64
		want int64
	}{
		{"the last of two, another between them", three, 0, 0, 6},
		{"one", three, 0, 1, 5},
		{"none of that variable", three, 0, 2, 3},
		{"its own, not the other's", three, 1, 0, 7},
		{"none of its own, but another's", three, 1, 1, 2},
		{"nothing of its own", three, 2, 0, 1},
		{"nothing of its own", three, 2, 1, 2},
		{"nothing of its own", three, 2, 2, 3},
		{"the last of three", four, 0, 2, 1},
		{"a store of 0", four, 0, 0, 0},
		{"no store", four, 0, 1, 0},
		{"another core's alone", otherAlone, 0, 2, 0},
		{"that core's", otherAlone, 1, 2, 8},
		{"a store of 0 hides what is ahead of it", noughts, 0, 0, 0},
		{"what is in Mem", noughts, 0, 1, 6},
	}
	for _, r := range table {
		if got, ok := impl.SeenBy(r.tso, r.core, r.v); !ok || got != r.want {
			t.Error(r.name, ": core", r.core, "sees", r.v, "as", got, ok, "not", r.want)
		}
	}
}

func TestSeenByNobody(t *testing.T) {
	for _, s := range rightTsos() {
		cores := int64(len(s.Bufs))
		for core := int64(-1); core <= cores; core++ {
			for v := int64(-1); v <= 3; v++ {
				_, ok := impl.SeenBy(s, core, v)
				if want := core >= 0 && core < cores && v >= 0 && v < 3; ok != want {
					t.Error(s, ": core", core, "sees", v, ":", ok)
				}
			}
		}
		for _, far := range []int64{-1, cores, 64, math.MinInt64, math.MaxInt64} {
			if got, ok := impl.SeenBy(s, far, 0); ok || got != 0 {
				t.Error(s, ": core", far, "sees", got, ok)
			}
		}
		for _, far := range []int64{-1, 3, 64, math.MinInt64, math.MaxInt64} {
			if got, ok := impl.SeenBy(s, 0, far); ok || got != 0 {
				t.Error(s, far, "is seen as", got, ok)
			}
		}
	}
}

// bufferCase has no next when all stays as it is.
type bufferCase struct {
	name string
	tso  impl.Tso
	act  impl.BAct
	code int64
	next func(*impl.Tso)
}

func checkBufferCases(t *testing.T, list []bufferCase) {
	t.Helper()
	for _, c := range list {
		want := copyTso(c.tso)
		if c.next != nil {
			c.next(&want)
		}
		got, code := impl.TsoDo(c.tso, c.act)
		if code != c.code || !sameTso(got, want) {
			t.Error(c.name, ":", c.act, "tells", code, "not", c.code, "with", got, "not", want)
		}
	}
}

func TestStores(t *testing.T) {
	three, four, one := threeBuffers(), fourWait(), zeroTso(1)
	waits := func(core int, v int64, value int64) func(*impl.Tso) {
		return func(s *impl.Tso) { s.Bufs[core] = append(s.Bufs[core], storeOf(v, value)) }
	}
	alike := tsoWith(one, func(s *impl.Tso) { s.Bufs[0] = slices.Repeat([]impl.Store{storeOf(1, 2)}, 3) })
	checkBufferCases(t, []bufferCase{
		{"the first", one, storeAct(0, 0, 0), impl.TsDone, waits(0, 0, 0)},
		{"all fields at their limits", one, storeAct(0, 2, 9), impl.TsDone, waits(0, 2, 9)},
		{"the fourth, behind all", three, storeAct(0, 2, 1), impl.TsDone, waits(0, 2, 1)},
		{"what waits already, as the last", three, storeAct(0, 0, 6), impl.TsDone, waits(0, 0, 6)},
		{"what waits already, as the first", three, storeAct(0, 0, 4), impl.TsDone, waits(0, 0, 4)},
		{"what waits already, in the middle", three, storeAct(0, 1, 5), impl.TsDone, waits(0, 1, 5)},
		{"what waits already, alone", three, storeAct(1, 0, 7), impl.TsDone, waits(1, 0, 7)},
		{"what waits already, three times", alike, storeAct(0, 1, 2), impl.TsDone, waits(0, 1, 2)},
		{"what another core's waits with", three, storeAct(2, 0, 7), impl.TsDone, waits(2, 0, 7)},
		{"another value of a variable that waits", three, storeAct(1, 0, 8), impl.TsDone, waits(1, 0, 8)},
		{"what Mem has already", three, storeAct(2, 1, 2), impl.TsDone, waits(2, 1, 2)},
		{"the fifth", four, storeAct(0, 1, 1), impl.TsFull, nil},
		{"the fifth, which waits already", four, storeAct(0, 2, 1), impl.TsFull, nil},
		{"the fifth, like the first", four, storeAct(0, 2, 9), impl.TsFull, nil},
		{"the fifth, not of the right form", four, storeAct(0, 3, 1), impl.TsForm, nil},
		{"the fifth, with a register", four, impl.BAct{Kind: impl.BaStore, Reg: 1}, impl.TsForm, nil},
	})
}

func TestLoads(t *testing.T) {
	three, four := threeBuffers(), fourWait()
	has := func(core int, reg int, value int64) func(*impl.Tso) {
		return func(s *impl.Tso) { s.Regs[core][reg] = value }
	}
	checkBufferCases(t, []bufferCase{
		{"its newest", three, loadAct(0, 0, 0), impl.TsDone, has(0, 0, 6)},
		{"its newest, the other register", three, loadAct(0, 0, 1), impl.TsDone, has(0, 1, 6)},
		{"its only one", three, loadAct(0, 1, 1), impl.TsDone, has(0, 1, 5)},
		{"Mem", three, loadAct(0, 2, 1), impl.TsDone, has(0, 1, 3)},
		{"its own, not another's", three, loadAct(1, 0, 0), impl.TsDone, has(1, 0, 7)},
		{"Mem, not another's", three, loadAct(2, 0, 1), impl.TsDone, has(2, 1, 1)},
		{"Mem, not another's", three, loadAct(2, 1, 0), impl.TsDone, has(2, 0, 2)},
		{"with four that wait", four, loadAct(0, 2, 1), impl.TsDone, has(0, 1, 1)},
		{"what the register has", four, loadAct(0, 0, 0), impl.TsDone, nil},
	})
}

func TestFences(t *testing.T) {
	three, four := threeBuffers(), fourWait()
	otherAlone := zeroTso(2)
	otherAlone.Bufs[1] = []impl.Store{storeOf(0, 1)}
	checkBufferCases(t, []bufferCase{
		{"three wait", three, fenceAct(0), impl.TsWait, nil},
		{"one waits", three, fenceAct(1), impl.TsWait, nil},
		{"none waits, but another's do", three, fenceAct(2), impl.TsDone, nil},
		{"four wait", four, fenceAct(0), impl.TsWait, nil},
		{"none waits at all", zeroTso(1), fenceAct(0), impl.TsDone, nil},
		{"another's alone", otherAlone, fenceAct(0), impl.TsDone, nil},
		{"its own alone", otherAlone, fenceAct(1), impl.TsWait, nil},
		{"three wait, with a variable", three, impl.BAct{Kind: impl.BaFence, Var: 1}, impl.TsForm, nil},
	})
}

func TestDrains(t *testing.T) {
	three, four := threeBuffers(), fourWait()
	checkBufferCases(t, []bufferCase{
		{"the first of three", three, drainAct(0), impl.TsDone, func(s *impl.Tso) { s.Mem[0], s.Bufs[0] = 4, s.Bufs[0][1:] }},
		{"the only one", three, drainAct(1), impl.TsDone, func(s *impl.Tso) { s.Mem[0], s.Bufs[1] = 7, nil }},
		{"none", three, drainAct(2), impl.TsNone, nil},
		{"the first of two alike", four, drainAct(0), impl.TsDone, func(s *impl.Tso) { s.Mem[2], s.Bufs[0] = 9, s.Bufs[0][1:] }},
		{"none at all", zeroTso(3), drainAct(0), impl.TsNone, nil},
		{"none, with a value", zeroTso(3), impl.BAct{Kind: impl.BaDrain, Value: 1}, impl.TsForm, nil},
	})
}

func TestDrainsInTheirOrder(t *testing.T) {
	s := impl.Tso{
		Mem:  []int64{0, 0, 5},
		Bufs: [][]impl.Store{{storeOf(0, 1), storeOf(1, 2), storeOf(0, 3), storeOf(0, 1)}, {storeOf(0, 8)}},
		Regs: [][]int64{{6, 6}, {7, 7}},
	}
	steps := []struct {
		core int64
		code int64
		mem  []int64
		left int
	}{
		{0, impl.TsDone, []int64{1, 0, 5}, 4},
		{0, impl.TsDone, []int64{1, 2, 5}, 3},
		{1, impl.TsDone, []int64{8, 2, 5}, 2},
		{1, impl.TsNone, []int64{8, 2, 5}, 2},
		{0, impl.TsDone, []int64{3, 2, 5}, 1},
		{0, impl.TsDone, []int64{1, 2, 5}, 0},
		{0, impl.TsNone, []int64{1, 2, 5}, 0},
		{1, impl.TsNone, []int64{1, 2, 5}, 0},
	}
	for at, step := range steps {
		next, code := impl.TsoDo(s, drainAct(step.core))
		if code != step.code || !slices.Equal(next.Mem, step.mem) || len(next.Bufs[0])+len(next.Bufs[1]) != step.left {
			t.Error("drain", at, "tells", code, next)
		}
		s = next
	}
	if !slices.Equal(s.Regs[0], []int64{6, 6}) || !slices.Equal(s.Regs[1], []int64{7, 7}) {
		t.Error("registers:", s.Regs)
	}
}

// actLimits are, of each kind, the greatest Var, Value and Reg; one that the
// kind does not name has 0.
var actLimits = map[int64][3]int64{
	impl.BaStore: {2, 9, 0},
	impl.BaLoad:  {2, 0, 1},
	impl.BaFence: {},
	impl.BaDrain: {},
}

func bactRightBy(a impl.BAct, cores int) bool {
	limits, ok := actLimits[a.Kind]
	if !ok || a.Core < 0 || a.Core >= int64(cores) {
		return false
	}
	for at, field := range []int64{a.Var, a.Value, a.Reg} {
		if field < 0 || field > limits[at] {
			return false
		}
	}
	return true
}

func seenBy(s impl.Tso, core int64, v int64) int64 {
	for _, w := range slices.Backward(s.Bufs[core]) {
		if w.Var == v {
			return w.Value
		}
	}
	return s.Mem[v]
}

// bufferBy does an act at a right Tso as the document tells it.
func bufferBy(s impl.Tso, a impl.BAct) (impl.Tso, int64) {
	if !bactRightBy(a, len(s.Bufs)) {
		return s, impl.TsForm
	}
	n := copyTso(s)
	waiting := len(s.Bufs[a.Core])
	switch {
	case a.Kind == impl.BaStore && waiting == 4:
		return s, impl.TsFull
	case a.Kind == impl.BaFence && waiting > 0:
		return s, impl.TsWait
	case a.Kind == impl.BaDrain && waiting == 0:
		return s, impl.TsNone
	case a.Kind == impl.BaStore:
		n.Bufs[a.Core] = append(n.Bufs[a.Core], storeOf(a.Var, a.Value))
	case a.Kind == impl.BaLoad:
		n.Regs[a.Core][a.Reg] = seenBy(s, a.Core, a.Var)
	case a.Kind == impl.BaDrain:
		first := s.Bufs[a.Core][0]
		n.Mem[first.Var] = first.Value
		n.Bufs[a.Core] = slices.Delete(n.Bufs[a.Core], 0, 1)
	}
	return n, impl.TsDone
}

func allSeen(t *testing.T, s impl.Tso) [][3]int64 {
	t.Helper()
	var seen [][3]int64
	for core := range s.Bufs {
		var row [3]int64
		for v := range int64(3) {
			value, ok := impl.SeenBy(s, int64(core), v)
			if !ok || value != seenBy(s, int64(core), v) {
				t.Fatal(s, ": core", core, "sees", v, "as", value, ok)
			}
			row[v] = value
		}
		seen = append(seen, row)
	}
	return seen
}

// checkSeen: promise 10, of what came of an act that was done.
func checkSeen(t *testing.T, s impl.Tso, a impl.BAct, got impl.Tso) {
	t.Helper()
	before, after := allSeen(t, s), allSeen(t, got)
	for core := range before {
		want := before[core]
		mine := int64(core) == a.Core
		switch {
		case a.Kind == impl.BaStore && mine:
			want[a.Var] = a.Value
		case a.Kind == impl.BaDrain && !mine:
			first := s.Bufs[a.Core][0]
			hides := func(w impl.Store) bool { return w.Var == first.Var }
			if !slices.ContainsFunc(s.Bufs[core], hides) {
				want[first.Var] = first.Value
			}
		}
		if after[core] != want {
			t.Fatal(s, a, ": core", core, "sees", after[core], "not", want)
		}
	}
	if a.Kind == impl.BaLoad && got.Regs[a.Core][a.Reg] != before[a.Core][a.Var] {
		t.Fatal(s, a, "loads", got.Regs)
	}
}

func checkBufferAct(t *testing.T, s impl.Tso, a impl.BAct) (impl.Tso, int64) {
	t.Helper()
	got, code := impl.TsoDo(s, a)
	want, wantCode := bufferBy(s, a)
	if code != wantCode || !sameTso(got, want) {
		t.Fatal(s, a, "tells", code, got, "not", wantCode, want)
	}
	if !impl.TsoOk(got) {
		t.Fatal(s, a, "leaves", got, "which is not right")
	}
	if code == impl.TsDone {
		checkSeen(t, s, a, got)
	} else if !sameTso(got, s) {
		t.Fatal(s, a, "is refused, but leaves", got)
	}
	return got, code
}

// Each field of an act around its limits, all with all.
func TestActsAroundAllLimits(t *testing.T) {
	fields := []int64{-1, 0, 1, 2, 3, 9, 10}
	var done, form int
	for _, s := range []impl.Tso{zeroTso(1), threeBuffers(), fourWait()} {
		for kind := int64(-1); kind <= 5; kind++ {
			for core := int64(-1); core <= 3; core++ {
				for _, v := range fields {
					for _, value := range fields {
						for _, reg := range fields {
							a := impl.BAct{Kind: kind, Core: core, Var: v, Value: value, Reg: reg}
							if _, code := checkBufferAct(t, s, a); code == impl.TsForm {
								form++
							} else {
								done++
							}
						}
					}
				}
			}
		}
	}
	if done < 100 || form < 10000 {
		t.Error("too few:", done, form)
	}
}

func TestActsOfWrongForm(t *testing.T) {
	var acts []impl.BAct
	far := []int64{math.MinInt64, math.MaxInt64, math.MinInt64 + 1, 1 << 32, -64, 64}
	for _, kind := range append([]int64{-1, 0, 5, 6}, far...) {
		acts = append(acts, impl.BAct{Kind: kind}, impl.BAct{Kind: kind, Core: 1, Var: 1})
	}
	for kind := int64(1); kind <= 4; kind++ {
		for _, n := range append([]int64{-1, 3}, far...) {
			acts = append(acts, impl.BAct{Kind: kind, Core: n}, impl.BAct{Kind: kind, Var: n})
		}
		for _, n := range append([]int64{-1, 10}, far...) {
			acts = append(acts, impl.BAct{Kind: kind, Value: n}, impl.BAct{Kind: kind, Reg: n})
		}
	}
	acts = append(acts,
		impl.BAct{Kind: impl.BaStore, Reg: 1}, impl.BAct{Kind: impl.BaLoad, Value: 1}, impl.BAct{Kind: impl.BaLoad, Reg: 2},
		impl.BAct{Kind: impl.BaFence, Var: 1}, impl.BAct{Kind: impl.BaFence, Value: 1}, impl.BAct{Kind: impl.BaFence, Reg: 1},
		impl.BAct{Kind: impl.BaDrain, Var: 1}, impl.BAct{Kind: impl.BaDrain, Value: 1}, impl.BAct{Kind: impl.BaDrain, Reg: 1},
	)
	for _, a := range acts {
		for _, s := range rightTsos() {
			if got, code := impl.TsoDo(s, a); code != impl.TsForm || !sameTso(got, s) {
				t.Error(s, a, "tells", code, got)
			}
		}
	}
}

// bact is one that such a Tso may do, but for a field here and there.
func (d *draw) bact(s impl.Tso) impl.BAct {
	core := d.upTo(int64(len(s.Bufs)))
	var a impl.BAct
	switch 1 + d.upTo(4) {
	case impl.BaStore:
		a = storeAct(core, d.upTo(3), d.upTo(10))
		if buf := s.Bufs[core]; d.oneIn(3) && len(buf) > 0 {
			like := buf[d.upTo(int64(len(buf)))]
			a = storeAct(core, like.Var, like.Value)
		}
	case impl.BaLoad:
		a = loadAct(core, d.upTo(3), d.upTo(2))
	case impl.BaFence:
		a = fenceAct(core)
	case impl.BaDrain:
		a = drainAct(core)
	}
	if d.oneIn(8) {
		fields := []*int64{&a.Kind, &a.Core, &a.Var, &a.Value, &a.Reg}
		*fields[d.upTo(5)] += d.upTo(5) - 2
	}
	return a
}

// Promise 10, with drawn acts at drawn Tsos.
func TestDrawnActsAtDrawnTsos(t *testing.T) {
	d := draw{state: 102}
	seen := map[[2]int64]int{}
	for range 60000 {
		s := d.tso()
		if !impl.TsoOk(s) || !tsoRightBy(s) {
			t.Fatal("drawn, but not right:", s)
		}
		a := d.bact(s)
		_, code := checkBufferAct(t, s, a)
		seen[[2]int64{a.Kind, code}]++
	}
	often := [][2]int64{
		{impl.BaStore, impl.TsDone}, {impl.BaStore, impl.TsForm}, {impl.BaStore, impl.TsFull},
		{impl.BaLoad, impl.TsDone}, {impl.BaLoad, impl.TsForm},
		{impl.BaFence, impl.TsDone}, {impl.BaFence, impl.TsForm}, {impl.BaFence, impl.TsWait},
		{impl.BaDrain, impl.TsDone}, {impl.BaDrain, impl.TsForm}, {impl.BaDrain, impl.TsNone},
	}
	for _, kind := range often {
		if seen[kind] < 50 {
			t.Error("kind and code", kind, "were drawn too seldom:", seen[kind])
		}
	}
}

// Promise 10, at all Tsos of two cores to which stores of two values to two
// variables and drains lead, with at most two that wait of each.
func TestBuffersEverywhere(t *testing.T) {
	start, _ := impl.TsoNew(2)
	work := []impl.Tso{start}
	seen := map[string]int{fmt.Sprint(start): 1}
	for len(work) > 0 {
		s := work[0]
		work = work[1:]
		for core := range int64(2) {
			checkBufferAct(t, s, fenceAct(core))
			checkBufferAct(t, s, loadAct(core, 0, 1))
			checkBufferAct(t, s, loadAct(core, 1, 0))
			acts := []impl.BAct{drainAct(core)}
			if len(s.Bufs[core]) < 2 {
				acts = append(acts, storeAct(core, 0, 1), storeAct(core, 0, 2), storeAct(core, 1, 1), storeAct(core, 1, 2))
			}
			for _, a := range acts {
				next, _ := checkBufferAct(t, s, a)
				if key := fmt.Sprint(next); seen[key] == 0 {
					seen[key] = 1
					work = append(work, next)
				}
			}
		}
	}
	// 21 buffers of each core, with each of three values of two variables.
	if len(seen) != 21*21*9 {
		t.Error(len(seen), "Tsos were seen")
	}
}

func TestTsoPlay(t *testing.T) {
	acts := []impl.BAct{
		storeAct(0, 0, 1), storeAct(0, 0, 1), {}, loadAct(1, 0, 0), loadAct(0, 0, 1), fenceAct(0), fenceAct(1), drainAct(1),
		drainAct(0), loadAct(1, 0, 1), storeAct(1, 0, 2), drainAct(1), {Kind: impl.BaDrain, Reg: 1}, drainAct(0), fenceAct(0),
		storeAct(0, 2, 9), storeAct(0, 2, 8), storeAct(0, 2, 7), storeAct(0, 2, 6), storeAct(0, 2, 5),
	}
	wantCodes := []int64{
		impl.TsDone, impl.TsDone, impl.TsForm, impl.TsDone, impl.TsDone, impl.TsWait, impl.TsDone, impl.TsNone,
		impl.TsDone, impl.TsDone, impl.TsDone, impl.TsDone, impl.TsForm, impl.TsDone, impl.TsDone,
		impl.TsDone, impl.TsDone, impl.TsDone, impl.TsDone, impl.TsFull,
	}
	want := impl.Tso{
		Mem:  []int64{1, 0, 0},
		Bufs: [][]impl.Store{{storeOf(2, 9), storeOf(2, 8), storeOf(2, 7), storeOf(2, 6)}, nil},
		Regs: [][]int64{{0, 1}, {0, 1}},
	}
	got, codes := impl.TsoPlay(zeroTso(2), acts)
	if !slices.Equal(codes, wantCodes) || !sameTso(got, want) {
		t.Error(got, codes, "not", want, wantCodes)
	}
	for _, s := range rightTsos() {
		for _, none := range [][]impl.BAct{nil, {}} {
			if got, codes := impl.TsoPlay(s, none); len(codes) != 0 || !sameTso(got, s) {
				t.Error(got, codes, "not", s)
			}
		}
	}
}

func TestTsoPlayLimits(t *testing.T) {
	acts := slices.Repeat([]impl.BAct{drainAct(0)}, 201)
	acts[199] = storeAct(0, 1, 5)
	want := tsoWith(zeroTso(1), func(s *impl.Tso) { s.Bufs[0] = []impl.Store{storeOf(1, 5)} })
	got, codes := impl.TsoPlay(zeroTso(1), acts[:200])
	if wantCodes := append(slices.Repeat([]int64{impl.TsNone}, 199), impl.TsDone); !slices.Equal(codes, wantCodes) || !sameTso(got, want) {
		t.Error(got, codes, "not", want)
	}
	for _, s := range rightTsos() {
		if _, codes := impl.TsoPlay(s, acts[:200]); len(codes) != 200 {
			t.Error(len(codes), "are told of 200")
		}
		for _, list := range [][]impl.BAct{acts, append(slices.Clone(acts), acts...), slices.Repeat([]impl.BAct{{}}, 201)} {
			if got, codes := impl.TsoPlay(s, list); len(codes) != 0 || !isNoTso(got) {
				t.Error(len(list), "acts are", got, codes)
			}
		}
	}
}

// Acts in two pieces, or one by one, are the same acts.
func TestBufferActsInTwoPieces(t *testing.T) {
	d := draw{state: 103}
	for range 300 {
		s := d.tso()
		now, codes := s, []int64(nil)
		var acts []impl.BAct
		for range 200 {
			a := d.bact(now)
			next, code := checkBufferAct(t, now, a)
			now, codes, acts = next, append(codes, code), append(acts, a)
		}
		got, gotCodes := impl.TsoPlay(s, acts)
		if !sameTso(got, now) || !slices.Equal(gotCodes, codes) {
			t.Fatal(s, "plays", got, gotCodes, "not", now, codes)
		}
		cut := d.upTo(201)
		half, first := impl.TsoPlay(s, acts[:cut])
		whole, second := impl.TsoPlay(half, acts[cut:])
		if !sameTso(whole, now) || !slices.Equal(append(first, second...), codes) {
			t.Fatal(s, "plays in pieces", whole, first, second, "not", now, codes)
		}
	}
}

func TestDrained(t *testing.T) {
	noneWait := func(s impl.Tso, mem ...int64) impl.Tso {
		return tsoWith(s, func(n *impl.Tso) { n.Mem, n.Bufs = mem, make([][]impl.Store, len(s.Bufs)) })
	}
	toOne := impl.Tso{
		Mem:  []int64{1, 1, 1},
		Bufs: [][]impl.Store{{storeOf(0, 2), storeOf(0, 3)}, {storeOf(0, 4), storeOf(1, 5), storeOf(0, 6)}, {storeOf(0, 7), storeOf(0, 8)}},
		Regs: [][]int64{{1, 2}, {3, 4}, {5, 6}},
	}
	firstAlone := tsoWith(toOne, func(s *impl.Tso) { s.Bufs[1], s.Bufs[2] = nil, nil })
	notTheLast := tsoWith(toOne, func(s *impl.Tso) { s.Bufs[2] = []impl.Store{storeOf(2, 9)} })
	table := []struct {
		name string
		tso  impl.Tso
		want impl.Tso
	}{
		{"none waits", zeroTso(3), zeroTso(3)},
		{"several cores' to one variable", toOne, noneWait(toOne, 8, 5, 1)},
		{"the first core's alone", firstAlone, noneWait(firstAlone, 3, 1, 1)},
		{"the second core's behind the first's", notTheLast, noneWait(notTheLast, 6, 5, 9)},
		{"three", threeBuffers(), noneWait(threeBuffers(), 7, 5, 3)},
		{"four of one core", fourWait(), noneWait(fourWait(), 0, 0, 1)},
	}
	for _, r := range table {
		if got, ok := impl.Drained(r.tso); !ok || !sameTso(got, r.want) {
			t.Error(r.name, ":", got, ok, "not", r.want)
		}
	}
}

// Drained is as many drains of each core as wait, and one more is refused.
func TestDrainedIsDrainByDrain(t *testing.T) {
	d := draw{state: 104}
	tsos := rightTsos()
	for range 5000 {
		tsos = append(tsos, d.tso())
	}
	for _, s := range tsos {
		now := s
		for core, buf := range s.Bufs {
			for range buf {
				next, code := checkBufferAct(t, now, drainAct(int64(core)))
				if code != impl.TsDone {
					t.Fatal(now, "drain of", core, "tells", code)
				}
				now = next
			}
			if _, code := impl.TsoDo(now, drainAct(int64(core))); code != impl.TsNone {
				t.Fatal(now, "one drain more of", core, "tells", code)
			}
		}
		got, ok := impl.Drained(s)
		if !ok || !sameTso(got, now) || !impl.TsoOk(got) {
			t.Fatal(s, "drained is", got, ok, "not", now)
		}
		if again, ok := impl.Drained(got); !ok || !sameTso(again, got) {
			t.Fatal(got, "drained again is", again, ok)
		}
	}
}

func tsoLists(s impl.Tso) []any {
	lists := []any{s.Mem, s.Bufs, s.Regs}
	for _, buf := range s.Bufs {
		lists = append(lists, buf)
	}
	for _, regs := range s.Regs {
		lists = append(lists, regs)
	}
	return lists
}

func roomyTso(s impl.Tso) impl.Tso {
	n := impl.Tso{Mem: roomy(s.Mem, spareMark)}
	for _, buf := range s.Bufs {
		n.Bufs = append(n.Bufs, roomy(buf, storeOf(spareMark, spareMark)))
	}
	for _, regs := range s.Regs {
		n.Regs = append(n.Regs, roomy(regs, spareMark))
	}
	n.Bufs = roomy(n.Bufs, []impl.Store{storeOf(spareMark, spareMark)})
	n.Regs = roomy(n.Regs, []int64{spareMark})
	return n
}

func withTsoRoom(s impl.Tso) impl.Tso {
	n := impl.Tso{Mem: s.Mem[:cap(s.Mem)]}
	for _, buf := range s.Bufs[:cap(s.Bufs)] {
		n.Bufs = append(n.Bufs, buf[:cap(buf)])
	}
	for _, regs := range s.Regs[:cap(s.Regs)] {
		n.Regs = append(n.Regs, regs[:cap(regs)])
	}
	return n
}

// checkTsoMemory calls f twice; it answers a Tso, and what else it answers.
func checkTsoMemory(t *testing.T, name string, s impl.Tso, f func(impl.Tso) (impl.Tso, []int64)) {
	t.Helper()
	given := roomyTso(s)
	before := copyTso(withTsoRoom(given))
	got, codes := f(given)
	if !sameTso(withTsoRoom(given), before) {
		t.Error(name, "wrote into its argument", s, ":", withTsoRoom(given))
	}
	checkApart(t, name, append(tsoLists(got), codes), tsoLists(given))
	kept := copyTso(got)
	again, againCodes := f(given)
	if !sameTso(again, kept) || !slices.Equal(againCodes, codes) {
		t.Error(name, "of", s, "answers otherwise when asked again:", again, againCodes)
	}
	checkApart(t, name, append(append(tsoLists(got), tsoLists(again)...), codes, againCodes), nil)
	if !sameTso(got, kept) {
		t.Error(name, "of", s, "changed an answer of its own")
	}
}

func TestBuffersMemory(t *testing.T) {
	d := draw{state: 105}
	tsos := append(rightTsos(), wrongTsos()...)
	for range 200 {
		tsos = append(tsos, d.tso())
	}
	acts := []impl.BAct{
		storeAct(0, 1, 2), storeAct(1, 0, 3), storeAct(2, 2, 9), loadAct(0, 0, 1), loadAct(1, 1, 0), fenceAct(0), fenceAct(1),
		drainAct(0), drainAct(1), drainAct(2), {}, {Kind: impl.BaDrain, Reg: 1},
	}
	for _, s := range tsos {
		checkTsoMemory(t, "TsoOk and SeenBy", s, func(s impl.Tso) (impl.Tso, []int64) {
			impl.TsoOk(s)
			value, _ := impl.SeenBy(s, 0, 0)
			return impl.Tso{}, []int64{value}
		})
		for _, a := range acts {
			checkTsoMemory(t, fmt.Sprint("TsoDo ", a), s, func(s impl.Tso) (impl.Tso, []int64) {
				n, code := impl.TsoDo(s, a)
				return n, []int64{code}
			})
		}
		given := roomy(append(slices.Clone(acts), acts...), impl.BAct{Kind: spareMark})
		before := slices.Clone(given[:cap(given)])
		checkTsoMemory(t, "TsoPlay", s, func(s impl.Tso) (impl.Tso, []int64) { return impl.TsoPlay(s, given) })
		checkTsoMemory(t, "TsoPlay of nothing", s, func(s impl.Tso) (impl.Tso, []int64) { return impl.TsoPlay(s, nil) })
		if !slices.Equal(given[:cap(given)], before) {
			t.Error("TsoPlay wrote into its acts")
		}
		checkTsoMemory(t, "Drained", s, func(s impl.Tso) (impl.Tso, []int64) {
			n, _ := impl.Drained(s)
			return n, nil
		})
	}
	for cores := int64(0); cores <= 4; cores++ {
		checkTsoMemory(t, "TsoNew", impl.Tso{}, func(impl.Tso) (impl.Tso, []int64) {
			n, _ := impl.TsoNew(cores)
			return n, nil
		})
	}
}

// Lists of an argument may share memory; those of the answer do not, so that
// an act changes just one of them.
func TestTsoWhoseListsShare(t *testing.T) {
	numbers := []int64{1, 2, 3}
	stores := []impl.Store{storeOf(0, 5), storeOf(1, 6)}
	s := impl.Tso{Mem: numbers, Bufs: [][]impl.Store{stores[:1], stores}, Regs: [][]int64{numbers[:2], numbers[1:]}}
	acts := []impl.BAct{storeAct(0, 2, 9), loadAct(0, 2, 0), drainAct(1), loadAct(1, 2, 0)}
	got, codes := impl.TsoPlay(s, acts)
	want := impl.Tso{
		Mem:  []int64{5, 2, 3},
		Bufs: [][]impl.Store{{storeOf(0, 5), storeOf(2, 9)}, {storeOf(1, 6)}},
		Regs: [][]int64{{9, 2}, {3, 3}},
	}
	if !slices.Equal(codes, make([]int64, 4)) || !sameTso(got, want) {
		t.Error(got, codes, "not", want)
	}
	checkApart(t, "TsoPlay", tsoLists(got), tsoLists(s))
	if !slices.Equal(numbers, []int64{1, 2, 3}) || !slices.Equal(stores, []impl.Store{storeOf(0, 5), storeOf(1, 6)}) {
		t.Error("written into the argument:", s)
	}
}
