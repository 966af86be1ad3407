package tests

import (
	"fmt"
	"math"
	"slices"
	"testing"

	"loop.example/g00384/impl"
)

func bothUp(values ...int64) impl.Pair {
	return impl.Pair{Left: slices.Clone(values), Right: slices.Clone(values), LeftUp: true, RightUp: true}
}

func leftAlone(values ...int64) impl.Pair {
	return impl.Pair{Left: slices.Clone(values), LeftUp: true}
}

func rightAlone(values ...int64) impl.Pair {
	return impl.Pair{Right: slices.Clone(values), RightUp: true}
}

func samePair(a impl.Pair, b impl.Pair) bool {
	return slices.Equal(a.Left, b.Left) && slices.Equal(a.Right, b.Right) && a.LeftUp == b.LeftUp && a.RightUp == b.RightUp
}

func isNoPair(p impl.Pair) bool { return samePair(p, impl.Pair{}) }

func copyPair(p impl.Pair) impl.Pair {
	p.Left, p.Right = slices.Clone(p.Left), slices.Clone(p.Right)
	return p
}

func rightPairs() []impl.Pair {
	list := []impl.Pair{{}, {Left: []int64{}}, {Right: []int64{}}, {Left: []int64{}, Right: []int64{}}}
	for _, values := range [][]int64{{0}, {1}, {1000000}, {0, 1}, {999999, 1000000}, {3, 2, 1}, {0, 0, 0, 0}, {1000000, 0, 5, 1000000}, {4, 3, 2, 1}} {
		list = append(list, bothUp(values...), leftAlone(values...), rightAlone(values...))
	}
	return list
}

// wrongPairs have one thing that is not right each.
func wrongPairs() []impl.Pair {
	var list []impl.Pair
	for _, values := range [][]int64{
		nil, {}, {0, 0, 0, 0, 0}, {1, 2, 3, 4, 5}, make([]int64, 100),
		{-1}, {1000001}, {math.MinInt64}, {math.MaxInt64},
		{0, -1}, {-1, 0}, {0, 1000001, 0}, {0, 0, 0, -1}, {0, 0, 0, 1000001},
	} {
		list = append(list, bothUp(values...), leftAlone(values...), rightAlone(values...))
	}
	for _, values := range [][]int64{{0}, {7, 8}, {-1}, {0, 0, 0, 0}, {0, 0, 0, 0, 0}} {
		list = append(list,
			impl.Pair{Left: values},
			impl.Pair{Right: values},
			impl.Pair{Left: values, Right: values},
			impl.Pair{Left: []int64{0}, LeftUp: true, Right: values},
			impl.Pair{Right: []int64{0}, RightUp: true, Left: values},
		)
	}
	for _, sides := range [][2][]int64{
		{{0}, {1}}, {{0, 0}, {0, 1}}, {{1, 0}, {0, 0}}, {{1, 2}, {2, 1}}, {{1, 2, 3, 4}, {1, 2, 3, 5}}, {{1, 2, 3, 4}, {0, 2, 3, 4}},
		{{0}, {0, 0}}, {{0, 0, 0}, {0, 0, 0, 0}}, {{1, 2, 3}, {1, 2}}, {{0}, nil}, {{0, 0, 0, 0}, {0, 0, 0, 0, 0}}, {{5}, {-1}}, {{5}, {1000001}},
	} {
		list = append(list,
			impl.Pair{Left: sides[0], Right: sides[1], LeftUp: true, RightUp: true},
			impl.Pair{Left: sides[1], Right: sides[0], LeftUp: true, RightUp: true},
		)
	}
	return list
}

func TestPairOk(t *testing.T) {
	for _, p := range rightPairs() {
		if !impl.PairOk(p) {
			t.Error(p, "is not right")
		}
	}
	for _, p := range wrongPairs() {
		if impl.PairOk(p) {
			t.Error(p, "is right")
		}
	}
}

func TestPairNew(t *testing.T) {
	for lines, want := range map[int64]impl.Pair{1: bothUp(0), 2: bothUp(0, 0), 3: bothUp(0, 0, 0), 4: bothUp(0, 0, 0, 0)} {
		p, ok := impl.PairNew(lines)
		if !ok || !samePair(p, want) || !impl.PairOk(p) {
			t.Error(lines, "are", p, ok)
		}
		checkApart(t, "PairNew", []any{p.Left, p.Right}, nil)
	}
	for _, lines := range []int64{math.MinInt64, -1, 0, 5, 6, math.MaxInt64} {
		if p, ok := impl.PairNew(lines); ok || !isNoPair(p) {
			t.Error(lines, "are", p, ok)
		}
	}
}

func TestPairWriteAndRead(t *testing.T) {
	for _, r := range []struct {
		name  string
		p     impl.Pair
		line  int64
		value int64
		want  impl.Pair
		was   int64
	}{
		{"the first of both", bothUp(1, 2, 3, 4), 0, 9, bothUp(9, 2, 3, 4), 1},
		{"the second of both", bothUp(1, 2, 3, 4), 1, 9, bothUp(1, 9, 3, 4), 2},
		{"the third of both", bothUp(1, 2, 3, 4), 2, 9, bothUp(1, 2, 9, 4), 3},
		{"the last of both", bothUp(1, 2, 3, 4), 3, 9, bothUp(1, 2, 3, 9), 4},
		{"the only one of both", bothUp(5), 0, 6, bothUp(6), 5},
		{"the same again", bothUp(5, 6), 1, 6, bothUp(5, 6), 6},
		{"the first of the left one", leftAlone(1, 2, 3), 0, 9, leftAlone(9, 2, 3), 1},
		{"the last of the left one", leftAlone(1, 2, 3), 2, 9, leftAlone(1, 2, 9), 3},
		{"the first of the right one", rightAlone(1, 2, 3), 0, 9, rightAlone(9, 2, 3), 1},
		{"the last of the right one", rightAlone(1, 2, 3), 2, 9, rightAlone(1, 2, 9), 3},
		{"the least value", bothUp(7, 8), 0, 0, bothUp(0, 8), 7},
		{"the greatest value", bothUp(7, 1000000), 0, 1000000, bothUp(1000000, 1000000), 7},
		{"over the greatest value", leftAlone(1000000), 0, 3, leftAlone(3), 1000000},
	} {
		if got, ok := impl.PairRead(r.p, r.line); !ok || got != r.was {
			t.Error(r.name, ":", r.p, "reads", got, ok)
		}
		got, ok := impl.PairWrite(r.p, r.line, r.value)
		if !ok || !samePair(got, r.want) {
			t.Error(r.name, ":", r.p, "is", got, ok)
		}
		if value, ok := impl.PairRead(got, r.line); !ok || value != r.value {
			t.Error(r.name, ":", got, "reads", value, ok)
		}
	}
}

func checkNoWrite(t *testing.T, p impl.Pair, line int64, value int64) {
	t.Helper()
	if got, ok := impl.PairWrite(p, line, value); ok || !isNoPair(got) {
		t.Error(p, "with", value, "at", line, "is", got, ok)
	}
}

func checkNoRead(t *testing.T, p impl.Pair, line int64) {
	t.Helper()
	if got, ok := impl.PairRead(p, line); ok || got != 0 {
		t.Error(p, "at", line, "reads", got, ok)
	}
}

func TestPairRefusals(t *testing.T) {
	for _, p := range []impl.Pair{bothUp(1), bothUp(1, 2), bothUp(1, 2, 3, 4), leftAlone(1, 2), rightAlone(1, 2), leftAlone(1, 2, 3, 4), rightAlone(1, 2, 3, 4)} {
		lines := int64(max(len(p.Left), len(p.Right)))
		for _, line := range []int64{math.MinInt64, -1, lines, lines + 1, 4, math.MaxInt64} {
			checkNoRead(t, p, line)
			for _, value := range []int64{-1, 0, 1, 1000000, 1000001} {
				checkNoWrite(t, p, line, value)
			}
		}
		for line := range lines {
			for _, value := range []int64{math.MinInt64, -1, 1000001, math.MaxInt64} {
				checkNoWrite(t, p, line, value)
			}
		}
	}
	for _, p := range append(wrongPairs(), impl.Pair{}) {
		for line := int64(-1); line <= 5; line++ {
			checkNoRead(t, p, line)
			for _, value := range []int64{-1, 0, 1, 1000000, 1000001} {
				checkNoWrite(t, p, line, value)
			}
		}
	}
}

func TestPairFail(t *testing.T) {
	for _, r := range []struct {
		name string
		p    impl.Pair
		left bool
		want impl.Pair
		ok   bool
	}{
		{"the left one of two", bothUp(1, 2), true, rightAlone(1, 2), true},
		{"the right one of two", bothUp(1, 2), false, leftAlone(1, 2), true},
		{"the left one of two with most", bothUp(4, 3, 2, 1000000), true, rightAlone(4, 3, 2, 1000000), true},
		{"the right one of two with one", bothUp(0), false, leftAlone(0), true},
		{"the left one alone", leftAlone(1, 2), true, impl.Pair{}, true},
		{"the right one alone", rightAlone(1, 2), false, impl.Pair{}, true},
		{"the left one that is lost", rightAlone(1, 2), true, impl.Pair{}, false},
		{"the right one that is lost", leftAlone(1, 2), false, impl.Pair{}, false},
		{"the left one of none", impl.Pair{}, true, impl.Pair{}, false},
		{"the right one of none", impl.Pair{}, false, impl.Pair{}, false},
	} {
		if got, ok := impl.PairFail(r.p, r.left); ok != r.ok || !samePair(got, r.want) {
			t.Error(r.name, ":", got, ok)
		}
	}
}

func TestPairMend(t *testing.T) {
	for _, r := range []struct {
		name string
		p    impl.Pair
		want impl.Pair
		ok   bool
	}{
		{"both are up", bothUp(1, 2), bothUp(1, 2), true},
		{"the left one is", leftAlone(1, 2), bothUp(1, 2), true},
		{"the right one is", rightAlone(1, 2), bothUp(1, 2), true},
		{"one with one value", leftAlone(0), bothUp(0), true},
		{"one with most values", rightAlone(4, 1000000, 0, 1), bothUp(4, 1000000, 0, 1), true},
		{"none is", impl.Pair{}, impl.Pair{}, false},
	} {
		if got, ok := impl.PairMend(r.p); ok != r.ok || !samePair(got, r.want) {
			t.Error(r.name, ":", got, ok)
		}
	}
}

func TestWrongPairsFailAndMend(t *testing.T) {
	for _, p := range wrongPairs() {
		for _, left := range []bool{true, false} {
			if got, ok := impl.PairFail(p, left); ok || !isNoPair(got) {
				t.Error(p, left, "fails:", got, ok)
			}
		}
		if got, ok := impl.PairMend(p); ok || !isNoPair(got) {
			t.Error(p, "is mended:", got, ok)
		}
	}
}

// readAll are the values that a pair of so many lines reads; false when one
// is not read.
func readAll(p impl.Pair, lines int) ([]int64, bool) {
	var values []int64
	for line := range lines {
		value, ok := impl.PairRead(p, int64(line))
		if !ok {
			return nil, false
		}
		values = append(values, value)
	}
	return values, true
}

// checkReads: a pair with a side that is up has all that it ought to have,
// and nothing behind it.
func checkReads(t *testing.T, p impl.Pair, values []int64) {
	t.Helper()
	if got, ok := readAll(p, len(values)); !impl.PairOk(p) || !ok || !slices.Equal(got, values) {
		t.Fatal(p, "reads", got, ok, "not", values)
	}
	checkNoRead(t, p, -1)
	checkNoRead(t, p, int64(len(values)))
}

// checkLost is the first half of promise 13: whichever one side is lost all
// is read as it was, and mended it is there twice.
func checkLost(t *testing.T, p impl.Pair, values []int64) {
	t.Helper()
	for _, left := range []bool{true, false} {
		one, ok := impl.PairFail(p, left)
		if !ok || one.LeftUp == left || one.RightUp != left {
			t.Fatal(p, left, "is", one, ok)
		}
		checkReads(t, one, values)
		mended, ok := impl.PairMend(one)
		if !ok || !samePair(mended, bothUp(values...)) {
			t.Fatal(one, "mended is", mended, ok)
		}
		again, ok := impl.PairMend(mended)
		if !ok || !samePair(again, mended) {
			t.Fatal(mended, "mended again is", again, ok)
		}
		none, ok := impl.PairFail(one, !left)
		if !ok || !isNoPair(none) {
			t.Fatal(one, "without the other side is", none, ok)
		}
	}
}

func TestOneMirrorIsLost(t *testing.T) {
	for _, p := range rightPairs() {
		if p.LeftUp && p.RightUp {
			checkLost(t, p, p.Left)
		}
	}
}

// Promise 13: writes, sides that are lost and sides that are mended, in a
// drawn order; never is the last side lost.
func TestMirrorsThroughLosses(t *testing.T) {
	d := draw{state: 131}
	done := map[string]int{}
	for range 400 {
		lines := 1 + d.upTo(4)
		p, ok := impl.PairNew(lines)
		values := make([]int64, lines)
		for range 40 {
			name := "mend"
			switch d.upTo(4) {
			case 0:
				name = fmt.Sprint("fail with both up ", p.LeftUp && p.RightUp)
				left := d.oneIn(2)
				if next, ok := impl.PairFail(p, left); ok && (next.LeftUp || next.RightUp) {
					p = next
				}
			case 1:
				p, ok = impl.PairMend(p)
				if !ok || !samePair(p, bothUp(values...)) {
					t.Fatal("mended:", p, ok)
				}
			default:
				name = fmt.Sprint("write with ", p.LeftUp, p.RightUp)
				line, value := d.upTo(lines), d.upTo(impl.MaxValue+1)
				values[line] = value
				p, ok = impl.PairWrite(p, line, value)
				if !ok {
					t.Fatal("not written:", p)
				}
			}
			done[name]++
			checkReads(t, p, values)
			if p.LeftUp && p.RightUp {
				checkLost(t, p, values)
			}
		}
	}
	for _, name := range []string{"mend", "fail with both up true", "fail with both up false", "write with true true", "write with true false", "write with false true"} {
		if done[name] < 100 {
			t.Error("drawn too seldom:", done)
		}
	}
}

// sideLists are lists of both sides, right or not.
func sideLists() [][]int64 {
	return [][]int64{
		nil, {}, {0}, {1}, {1000000}, {-1}, {1000001}, {0, 0}, {0, 1}, {1, 0}, {0, -1}, {1000001, 0},
		{0, 0, 0}, {1, 2, 3}, {1, 2, 4}, {0, 0, 0, 0}, {1, 2, 3, 4}, {1, 2, 3, 1000000}, {1, 2, 3, 1000001}, {0, 0, 0, 0, 0}, {1, 2, 3, 4, 5},
	}
}

// pairBy says in the document's words whether a pair is right.
func pairBy(p impl.Pair) bool {
	hasValues := func(values []int64) bool {
		return len(values) >= 1 && len(values) <= 4 && slices.Min(values) >= 0 && slices.Max(values) <= 1000000
	}
	switch {
	case p.LeftUp && p.RightUp:
		return hasValues(p.Left) && hasValues(p.Right) && slices.Equal(p.Left, p.Right)
	case p.LeftUp:
		return hasValues(p.Left) && len(p.Right) == 0
	case p.RightUp:
		return len(p.Left) == 0 && hasValues(p.Right)
	}
	return len(p.Left)+len(p.Right) == 0
}

// valuesBy are the values of a right pair; none when no side is up.
func valuesBy(p impl.Pair) []int64 {
	if p.LeftUp {
		return p.Left
	}
	return p.Right
}

// pairOf has these values at each side that is up.
func pairOf(values []int64, leftUp bool, rightUp bool) impl.Pair {
	p := impl.Pair{LeftUp: leftUp, RightUp: rightUp}
	if leftUp {
		p.Left = slices.Clone(values)
	}
	if rightUp {
		p.Right = slices.Clone(values)
	}
	return p
}

// checkPair holds all that a pair does against the document's words.
func checkPair(t *testing.T, p impl.Pair) {
	t.Helper()
	right := pairBy(p)
	if impl.PairOk(p) != right {
		t.Fatal(p, "is right:", !right)
	}
	isUp := right && (p.LeftUp || p.RightUp)
	for line := int64(-1); line <= 5; line++ {
		has := isUp && line >= 0 && line < int64(len(valuesBy(p)))
		if value, ok := impl.PairRead(p, line); ok != has || has && value != valuesBy(p)[line] || !has && value != 0 {
			t.Fatal(p, line, "reads", value, ok)
		}
		for _, value := range []int64{-1, 0, 5, 1000000, 1000001} {
			var want impl.Pair
			wantOk := has && value >= 0 && value <= 1000000
			if wantOk {
				values := slices.Clone(valuesBy(p))
				values[line] = value
				want = pairOf(values, p.LeftUp, p.RightUp)
			}
			if got, ok := impl.PairWrite(p, line, value); ok != wantOk || !samePair(got, want) {
				t.Fatal(p, line, value, "is", got, ok)
			}
		}
	}
	checkFailAndMend(t, p, right)
}

func checkFailAndMend(t *testing.T, p impl.Pair, right bool) {
	t.Helper()
	var noLeft, noRight, mended impl.Pair
	if right && p.LeftUp {
		noLeft = pairOf(valuesBy(p), false, p.RightUp)
	}
	if right && p.RightUp {
		noRight = pairOf(valuesBy(p), p.LeftUp, false)
	}
	isUp := right && (p.LeftUp || p.RightUp)
	if isUp {
		mended = pairOf(valuesBy(p), true, true)
	}
	if got, ok := impl.PairFail(p, true); ok != (right && p.LeftUp) || !samePair(got, noLeft) {
		t.Fatal(p, "without the left side is", got, ok)
	}
	if got, ok := impl.PairFail(p, false); ok != (right && p.RightUp) || !samePair(got, noRight) {
		t.Fatal(p, "without the right side is", got, ok)
	}
	if got, ok := impl.PairMend(p); ok != isUp || !samePair(got, mended) {
		t.Fatal(p, "mended is", got, ok)
	}
}

func TestAllPairsOfSomeSides(t *testing.T) {
	right := 0
	for _, left := range sideLists() {
		for _, other := range sideLists() {
			for up := range 4 {
				p := impl.Pair{Left: left, Right: other, LeftUp: up&1 == 1, RightUp: up&2 == 2}
				checkPair(t, p)
				if impl.PairOk(p) {
					right++
				}
			}
		}
	}
	// 12 right lists: at both sides, at the left or the right one beside none
	// (nil or empty), and four ways to have none at all.
	if right != 12+2*12*2+4 {
		t.Error("right are", right)
	}
}

func roomyPair(p impl.Pair) impl.Pair {
	p.Left, p.Right = roomy(p.Left, spareMark), roomy(p.Right, spareMark)
	return p
}

// sharedPair has one memory for both of its sides.
func sharedPair(p impl.Pair) impl.Pair {
	p = roomyPair(p)
	if slices.Equal(p.Left, p.Right) {
		p.Right = p.Left
	}
	return p
}

func withPairRoom(p impl.Pair) impl.Pair {
	p.Left, p.Right = p.Left[:cap(p.Left)], p.Right[:cap(p.Right)]
	return p
}

// checkPairMemory calls f twice.
func checkPairMemory(t *testing.T, name any, given impl.Pair, f func(impl.Pair) (impl.Pair, any)) {
	t.Helper()
	before := copyPair(withPairRoom(given))
	got, said := f(given)
	kept := copyPair(got)
	again, saidToo := f(given)
	if !samePair(withPairRoom(given), before) {
		t.Error(name, "wrote into its argument:", withPairRoom(given))
	}
	if !samePair(got, kept) || !samePair(got, again) || said != saidToo {
		t.Error(name, given, "answers otherwise when asked again:", got, again, said, saidToo)
	}
	checkApart(t, name, []any{got.Left, got.Right, again.Left, again.Right}, []any{given.Left, given.Right})
}

func TestMirrorsMemory(t *testing.T) {
	for _, p := range append(rightPairs(), wrongPairs()...) {
		for _, given := range []impl.Pair{roomyPair(p), sharedPair(p)} {
			checkPairMemory(t, "PairOk", given, func(p impl.Pair) (impl.Pair, any) { return impl.Pair{}, impl.PairOk(p) })
			checkPairMemory(t, "PairMend", given, func(p impl.Pair) (impl.Pair, any) { return impl.PairMend(p) })
			for _, left := range []bool{true, false} {
				checkPairMemory(t, "PairFail", given, func(p impl.Pair) (impl.Pair, any) { return impl.PairFail(p, left) })
			}
			for line := int64(-1); line <= 5; line++ {
				checkPairMemory(t, "PairRead", given, func(p impl.Pair) (impl.Pair, any) {
					value, ok := impl.PairRead(p, line)
					return impl.Pair{}, fmt.Sprint(value, ok)
				})
				for _, value := range []int64{-1, 0, 6, 1000001} {
					checkPairMemory(t, "PairWrite", given, func(p impl.Pair) (impl.Pair, any) { return impl.PairWrite(p, line, value) })
				}
			}
		}
	}
}

// anewBy makes the homes anew in the document's words.
func anewBy(m impl.Machine) (impl.Machine, bool) {
	if !impl.MachineOk(m) || !quietBy(m) || !oneBy(m) {
		return impl.Machine{}, false
	}
	n := copyMachine(m)
	for line := range n.Lines {
		n.Lines[line] = impl.Line{Mem: m.Lines[line].Mem}
		for core := range n.Slots {
			switch n.Slots[core][line].State {
			case impl.StOwned:
				n.Lines[line].Owner = int64(core) + 1
			case impl.StShared:
				n.Lines[line].Sharers = append(n.Lines[line].Sharers, int64(core)+1)
			}
		}
	}
	return n, true
}

func checkRebuilt(t *testing.T, m impl.Machine) (impl.Machine, bool) {
	t.Helper()
	got, ok := impl.Rebuilt(m)
	want, wantOk := anewBy(m)
	if ok != wantOk || !sameMachine(got, want) {
		t.Fatal(m, "made anew is", got, ok, "not", want, wantOk)
	}
	return got, ok
}

func TestRebuiltOfNewMachines(t *testing.T) {
	for cores := 2; cores <= 5; cores++ {
		for lines := 1; lines <= 4; lines++ {
			m := blank(cores, lines)
			if got, ok := impl.Rebuilt(m); !ok || !sameMachine(got, m) {
				t.Error(m, "made anew is", got, ok)
			}
		}
	}
}

func TestRebuilt(t *testing.T) {
	has := func(state int64, data int64) impl.Slot { return impl.Slot{State: state, Data: data} }
	owns, shares := has(impl.StOwned, 8), has(impl.StShared, 8)
	for _, r := range []struct {
		name  string
		slots []impl.Slot
		home  impl.Line
		want  impl.Line
	}{
		{"nobody has it", []impl.Slot{{}, {}, {}}, impl.Line{Mem: 8}, impl.Line{Mem: 8}},
		{"the first owns it", []impl.Slot{owns, {}, {}}, impl.Line{Mem: 5, Owner: 1}, impl.Line{Mem: 5, Owner: 1}},
		{"the last owns it", []impl.Slot{{}, {}, owns}, impl.Line{Mem: 5, Owner: 3}, impl.Line{Mem: 5, Owner: 3}},
		{"two share it", []impl.Slot{shares, {}, shares}, impl.Line{Mem: 8, Sharers: []int64{1, 3}}, impl.Line{Mem: 8, Sharers: []int64{1, 3}}},
		{"all share it", []impl.Slot{shares, shares, shares}, impl.Line{Mem: 8, Sharers: []int64{1, 2, 3}}, impl.Line{Mem: 8, Sharers: []int64{1, 2, 3}}},
		{"one who shared it has left", []impl.Slot{{}, shares, {}}, impl.Line{Mem: 8, Sharers: []int64{1, 2}}, impl.Line{Mem: 8, Sharers: []int64{2}}},
		{"all who shared it have left", []impl.Slot{{}, {}, {}}, impl.Line{Mem: 8, Sharers: []int64{1, 2, 3}}, impl.Line{Mem: 8}},
		{"the home names an owner that has nothing", []impl.Slot{{}, {}, shares}, impl.Line{Mem: 8, Owner: 1, Sharers: []int64{3}}, impl.Line{Mem: 8, Sharers: []int64{3}}},
		{"the home names another owner", []impl.Slot{{}, owns, {}}, impl.Line{Mem: 8, Owner: 1, Sharers: []int64{2, 3}}, impl.Line{Mem: 8, Owner: 2}},
		{"the home knows nobody", []impl.Slot{shares, shares, {}}, impl.Line{Mem: 6}, impl.Line{Mem: 6, Sharers: []int64{1, 2}}},
		{"the greatest values", []impl.Slot{has(impl.StOwned, 1000000), {}, {}}, impl.Line{Mem: 1000000}, impl.Line{Mem: 1000000, Owner: 1}},
	} {
		for line := range 4 {
			m := blank(3, 4)
			// What is made anew at one line hangs on no other one.
			m.Slots[1] = slices.Repeat([]impl.Slot{owns}, 4)
			for other := range m.Lines {
				m.Lines[other] = impl.Line{Mem: 3, Owner: 2}
			}
			for core, s := range r.slots {
				m.Slots[core][line] = s
			}
			m.Lines[line] = r.home
			want := with(m, func(m *impl.Machine) { m.Lines[line] = r.want })
			if got, ok := impl.Rebuilt(m); !ok || !sameMachine(got, want) {
				t.Error(r.name, "at line", line, ":", got, ok)
			}
		}
	}
}

func TestRebuiltRefusals(t *testing.T) {
	quiet := blank(3, 2)
	quiet.Slots[0] = []impl.Slot{slotOwned, slotShared}
	quiet.Slots[2] = []impl.Slot{slotNone, slotShared}
	quiet.Lines = []impl.Line{{Owner: 1}, {Mem: slotShared.Data, Sharers: []int64{1, 2, 3}}}
	if _, ok := impl.Rebuilt(quiet); !ok {
		t.Fatal(quiet, "is not made anew")
	}
	refuse := func(name string, change func(m *impl.Machine)) {
		m := with(quiet, change)
		if got, ok := impl.Rebuilt(m); ok || !isNoMachine(got) {
			t.Error(name, ":", got, ok)
		}
	}
	for _, text := range []string{"read 2 0", "write 2 0", "put 1 0 4", "inv 2 1", "fetch 1 0 1", "ack 2 1", "data 1 0 3", "grant 2 1 1 7", "done 2 0"} {
		refuse(text, func(m *impl.Machine) { m.Mail = mailOf(t, text) })
	}
	for line := range 2 {
		for _, s := range []impl.Slot{slotNoneReads, slotNoneWrites, slotSharedWrites, slotLeaving} {
			for core := range 3 {
				refuse(fmt.Sprint("a slot", core, line, s), func(m *impl.Machine) { m.Slots[core][line] = s })
			}
		}
		for _, want := range []int64{impl.WtRead, impl.WtWrite} {
			refuse("busy", func(m *impl.Machine) {
				m.Lines[line].Busy, m.Lines[line].Want, m.Lines[line].Acks = 2, want, 1
			})
		}
	}
	refuse("two own it", func(m *impl.Machine) { m.Slots[2][0] = slotOwned })
	refuse("all own it", func(m *impl.Machine) { m.Slots[1][0], m.Slots[2][0] = slotOwned, slotOwned })
	refuse("another one shares it", func(m *impl.Machine) { m.Slots[1][0] = slotShared })
	refuse("another one owns it", func(m *impl.Machine) { m.Slots[1][1] = slotOwned })
	for _, m := range wrongMachines(t) {
		if got, ok := impl.Rebuilt(m); ok || !isNoMachine(got) {
			t.Error(m, "made anew is", got, ok)
		}
	}
}

// Nothing is under way in these machines, but one thing is not right.
func TestRebuiltOfWrongQuietMachines(t *testing.T) {
	list := []impl.Machine{{}, blank(1, 1), blank(6, 1), blank(2, 5), blank(2, 0)}
	base := blank(3, 2)
	for _, change := range []func(m *impl.Machine){
		func(m *impl.Machine) { m.Slots[1] = m.Slots[1][:1] },
		func(m *impl.Machine) { m.Slots[2] = append(m.Slots[2], impl.Slot{}) },
		func(m *impl.Machine) { m.Slots[0][0].Data = 1 },
		func(m *impl.Machine) { m.Slots[0][1] = impl.Slot{State: impl.StShared, Data: 1000001} },
		func(m *impl.Machine) { m.Slots[2][1].State = 4 },
		func(m *impl.Machine) { m.Slots[2][1].Value = 1 },
		func(m *impl.Machine) { m.Lines[0].Mem = -1 },
		func(m *impl.Machine) { m.Lines[1].Mem = 1000001 },
		func(m *impl.Machine) { m.Lines[1].Owner = 4 },
		func(m *impl.Machine) { m.Lines[1].Sharers = []int64{2, 1} },
		func(m *impl.Machine) { m.Lines[0].Sharers = []int64{1, 4} },
		func(m *impl.Machine) { m.Lines[0].Want = impl.WtRead },
		func(m *impl.Machine) { m.Lines[1].Acks = 1 },
		func(m *impl.Machine) { m.Lines[1].Queue = []impl.Req{reads(1)} },
	} {
		list = append(list, with(base, change))
	}
	for _, m := range list {
		if got, ok := impl.Rebuilt(m); ok || !isNoMachine(got) {
			t.Error(m, "made anew is", got, ok)
		}
	}
}

// A home still names a core that has left; made anew it does not, and asks
// one less when the next one writes.
func TestRebuiltForgetsWhoLeft(t *testing.T) {
	m, _ := impl.MachineNew(3, 1)
	m, _ = impl.MachinePlay(m, []impl.Act{readAct(1, 0), readAct(2, 0)})
	m, _, _ = impl.Calmed(m)
	m, _, _ = impl.MachineDo(m, leaveAct(1, 0))
	if l := m.Lines[0]; !slices.Equal(l.Sharers, []int64{1, 2}) {
		t.Fatal("the home knows", l.Sharers)
	}
	anew, ok := impl.Rebuilt(m)
	if !ok || !slices.Equal(anew.Lines[0].Sharers, []int64{2}) {
		t.Fatal("the home made anew knows", anew.Lines)
	}
	for _, r := range []struct {
		m    impl.Machine
		mail string
	}{
		{m, "inv 1 0;inv 2 0"},
		{anew, "inv 2 0"},
	} {
		got, codes := impl.MachinePlay(r.m, []impl.Act{writeAct(3, 0, 9), deliverAct(0)})
		if !slices.Equal(got.Mail, mailOf(t, r.mail)) {
			t.Error(got.Mail, codes, "not", r.mail)
		}
		calm, _, ok := impl.Calmed(got)
		if newest, _ := impl.NewestOf(calm, 0); !ok || newest != 9 || !slices.Equal(impl.OwnersOf(calm, 0), []int64{3}) {
			t.Error(calm, ok)
		}
	}
}

func TestRebuiltOfDrawnMachines(t *testing.T) {
	d := draw{state: 133}
	made, refused := 0, 0
	for round := range 20000 {
		m := d.machine()
		if round%4 != 0 {
			m = d.still(m)
		}
		if _, ok := checkRebuilt(t, m); ok {
			made++
		} else {
			refused++
		}
	}
	if made < 1000 || refused < 1000 {
		t.Error("drawn too seldom:", made, refused)
	}
}

// still is the machine without mail, wishes and busy lines, but for one here
// and there; who owns and who shares is drawn anew, mostly with one writer.
func (d *draw) still(m impl.Machine) impl.Machine {
	m.Mail = nil
	for line := range m.Lines {
		if l := &m.Lines[line]; !d.oneIn(20) {
			l.Busy, l.Want, l.Acks, l.Queue = 0, 0, 0, nil
		}
		owned := d.oneIn(2)
		for core := range m.Slots {
			s := impl.Slot{}
			if owned && d.oneIn(4) {
				s = impl.Slot{State: impl.StOwned, Data: d.upTo(9)}
				owned = false
			} else if !owned && d.oneIn(3) {
				s = impl.Slot{State: impl.StShared, Data: d.upTo(9)}
			}
			if d.oneIn(40) {
				s = slotKinds[d.upTo(int64(len(slotKinds)))]
			}
			m.Slots[core][line] = s
		}
	}
	return m
}

// checkAnew is the second half of promise 13: a home that is made anew knows
// each owner and just those who share.
func checkAnew(t *testing.T, m impl.Machine, last lastOf) impl.Machine {
	t.Helper()
	anew, ok := checkRebuilt(t, m)
	if !ok {
		t.Fatal(m, "is calm, but not made anew")
	}
	if !slices.EqualFunc(anew.Slots, m.Slots, sameSlots) {
		t.Fatal(anew.Slots, "are not the slots", m.Slots)
	}
	for line, l := range anew.Lines {
		var owners []int64
		if l.Owner != 0 {
			owners = []int64{l.Owner}
		}
		if !slices.Equal(owners, coresBy(m, int64(line), impl.StOwned)) || !slices.Equal(l.Sharers, coresBy(m, int64(line), impl.StShared)) {
			t.Fatal(m, line, "has the home", l)
		}
		if l.Mem != m.Lines[line].Mem {
			t.Fatal(m, line, "has the home", l)
		}
	}
	checkBetween(t, anew, last)
	if again, ok := impl.Rebuilt(anew); !ok || !sameMachine(again, anew) {
		t.Fatal(anew, "made anew again is", again, ok)
	}
	return anew
}

// Promise 13: all goes on behind homes that are made anew, again and again:
// each read has what was written last, and nothing is refused.
func TestAllGoesOnBehindHomesMadeAnew(t *testing.T) {
	d := draw{state: 135}
	changed := 0
	for range 250 {
		m, _ := impl.MachineNew(2+d.upTo(4), 1+d.upTo(4))
		var last lastOf
		for range 12 {
			for range d.upTo(20) {
				a := d.act(m)
				n, code, value := impl.MachineDo(m, a)
				if code == impl.McForm {
					continue
				}
				last = last.after(t, m, a, code, value)
				m = n
				checkBetween(t, m, last)
				if len(m.Mail) > 0 {
					if got, ok := impl.Rebuilt(m); ok || !isNoMachine(got) {
						t.Fatal(m, "has mail, but is made anew")
					}
				}
			}
			for len(m.Mail) > 0 {
				n, code, value := impl.MachineDo(m, deliverAct(0))
				last = last.after(t, m, deliverAct(0), code, value)
				m = n
			}
			for range d.upTo(3) {
				m, _, _ = impl.MachineDo(m, leaveAct(d.core(int64(len(m.Slots))), 0))
			}
			m, _, _ = impl.Calmed(m)
			anew := checkAnew(t, m, last)
			if !sameMachine(anew, m) {
				changed++
			}
			m = anew
		}
	}
	if changed < 100 {
		t.Error("homes were made anew as they were, but", changed, "times")
	}
}

// All machines of two cores and one line to which acts lead, and homes made
// anew whenever that may be.
func TestHomesMadeAnewEverywhere(t *testing.T) {
	type place struct {
		m    impl.Machine
		last lastOf
	}
	first, _ := impl.MachineNew(2, 1)
	work := []place{{m: first}}
	seen := map[string]bool{fmt.Sprint(work[0]): true}
	made := 0
	visit := func(next place) {
		if name := fmt.Sprint(next); !seen[name] {
			seen[name] = true
			work = append(work, next)
		}
	}
	for len(work) > 0 {
		now := work[0]
		work = work[1:]
		checkBetween(t, now.m, now.last)
		if quietBy(now.m) {
			made++
			visit(place{checkAnew(t, now.m, now.last), now.last})
		} else {
			checkRebuilt(t, now.m)
		}
		for _, a := range everyAct(now.m, []int64{1, 2}) {
			m, code, value := impl.MachineDo(now.m, a)
			last := now.last.after(t, now.m, a, code, value)
			if code == impl.McDone || code == impl.McWait {
				visit(place{m, last})
			}
		}
	}
	if made < 30 || len(seen) < 2000 {
		t.Error("acts lead to no more than", len(seen), "machines,", made, "of them quiet")
	}
}

func TestRebuiltMemory(t *testing.T) {
	d := draw{state: 137}
	list := d.allKinds(t, 300)
	for range 600 {
		list = append(list, d.still(d.machine()))
	}
	made := 0
	for _, m := range list {
		checkMachineMemory(t, "Rebuilt", m, func(m impl.Machine) (impl.Machine, []int64) {
			n, ok := impl.Rebuilt(m)
			if ok {
				made++
				return n, []int64{1}
			}
			return n, nil
		})
	}
	if made < 200 {
		t.Error("made anew:", made)
	}
}
