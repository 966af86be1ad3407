package tests

import (
	"math"
	"slices"
	"testing"

	"loop.example/g00384/impl"
)

// rightLists are all lists of cores that rise.
func rightLists() [][]int64 {
	var lists [][]int64
	for set := range 1 << impl.MaxCores {
		var l []int64
		for id := int64(1); id <= impl.MaxCores; id++ {
			if set>>(id-1)&1 == 1 {
				l = append(l, id)
			}
		}
		lists = append(lists, l)
	}
	return lists
}

var wrongLists = [][]int64{
	{2, 1},
	{1, 2, 4, 3},
	{5, 4, 3, 2, 1},
	{1, 1},
	{1, 3, 3},
	{2, 1, 2},
	{0},
	{0, 1},
	{-1, 2},
	{6},
	{1, 6},
	{1, 2, 3, 4, 5, 6},
	{1, 2, 3, 4, 5, 5},
	{64},
	{65},
	{1, 66},
	{math.MinInt64},
	{math.MaxInt64},
	{1, math.MinInt64, 2},
}

var noCores = []int64{0, -1, impl.MaxCores + 1, 63, 64, 65, math.MinInt64, math.MaxInt64}

func TestIdsOkRightLists(t *testing.T) {
	for _, l := range rightLists() {
		if !impl.IdsOk(l) {
			t.Error(l)
		}
	}
	if !impl.IdsOk(nil) || !impl.IdsOk([]int64{}) {
		t.Error("an empty list")
	}
}

func TestIdsOkWrongLists(t *testing.T) {
	for _, l := range wrongLists {
		if impl.IdsOk(l) {
			t.Error(l)
		}
	}
}

// Every list of up to three numbers around the limits, held against the
// document's words: cores, and each greater than the one ahead of it.
func TestIdsOkAllShortLists(t *testing.T) {
	lists := [][]int64{nil}
	for from := 0; from < len(lists); from++ {
		l := lists[from]
		want := true
		for i, id := range l {
			want = want && id >= 1 && id <= impl.MaxCores && (i == 0 || l[i-1] < id)
		}
		if impl.IdsOk(l) != want {
			t.Error(l, "want", want)
		}
		if len(l) == 3 {
			continue
		}
		for id := int64(-1); id <= impl.MaxCores+2; id++ {
			lists = append(lists, append(slices.Clone(l), id))
		}
	}
}

func TestIdsInPlaces(t *testing.T) {
	for _, c := range []struct {
		list          []int64
		id            int64
		with, without []int64
	}{
		{nil, 3, []int64{3}, nil},
		{[]int64{}, 1, []int64{1}, nil},
		{[]int64{2, 4}, 1, []int64{1, 2, 4}, []int64{2, 4}},
		{[]int64{2, 4}, 3, []int64{2, 3, 4}, []int64{2, 4}},
		{[]int64{2, 4}, 5, []int64{2, 4, 5}, []int64{2, 4}},
		{[]int64{2, 4}, 2, []int64{2, 4}, []int64{4}},
		{[]int64{2, 4}, 4, []int64{2, 4}, []int64{2}},
		{[]int64{5}, 5, []int64{5}, nil},
		{[]int64{1, 2, 3, 4, 5}, 3, []int64{1, 2, 3, 4, 5}, []int64{1, 2, 4, 5}},
		{[]int64{1, 2, 3, 4}, 5, []int64{1, 2, 3, 4, 5}, []int64{1, 2, 3, 4}},
	} {
		if got := impl.WithId(c.list, c.id); !slices.Equal(got, c.with) {
			t.Error(c.list, "with", c.id, "is", got)
		}
		if got := impl.WithoutId(c.list, c.id); !slices.Equal(got, c.without) {
			t.Error(c.list, "without", c.id, "is", got)
		}
	}
}

// Promise 1, over every right list and every core.
func TestPutInTakenOutAllElseStays(t *testing.T) {
	for _, l := range rightLists() {
		for id := int64(1); id <= impl.MaxCores; id++ {
			with, without := impl.WithId(l, id), impl.WithoutId(l, id)
			if !impl.IdsOk(with) || !impl.IdsOk(without) {
				t.Error(l, id, "not right:", with, without)
			}
			for other := int64(1); other <= impl.MaxCores; other++ {
				was := slices.Contains(l, other)
				if slices.Contains(with, other) != (was || other == id) {
					t.Error(l, "with", id, "is", with)
				}
				if slices.Contains(without, other) != (was && other != id) {
					t.Error(l, "without", id, "is", without)
				}
			}
		}
	}
}

func TestNoneOfWrongLists(t *testing.T) {
	for _, l := range wrongLists {
		for id := int64(0); id <= impl.MaxCores+1; id++ {
			if got := impl.WithId(l, id); len(got) != 0 {
				t.Error(l, "with", id, "is", got)
			}
			if got := impl.WithoutId(l, id); len(got) != 0 {
				t.Error(l, "without", id, "is", got)
			}
		}
	}
}

func TestNoneOfWrongIds(t *testing.T) {
	for _, l := range rightLists() {
		for _, id := range noCores {
			if got := impl.WithId(l, id); len(got) != 0 {
				t.Error(l, "with", id, "is", got)
			}
			if got := impl.WithoutId(l, id); len(got) != 0 {
				t.Error(l, "without", id, "is", got)
			}
		}
	}
}

const spareMark = 77

// withRoom answers the list with marked spare room behind it, and all of that
// memory as one list.
func withRoom(l []int64) ([]int64, []int64) {
	all := slices.Clone(l)
	for range 3 {
		all = append(all, spareMark)
	}
	return all[:len(l)], all
}

// checkMemory calls f, and looks whether it wrote into its argument or the
// room behind it, and whether the answer and the argument share memory.
func checkMemory(t *testing.T, name string, l []int64, f func([]int64) []int64) {
	t.Helper()
	given, all := withRoom(l)
	before := slices.Clone(all)
	got := f(given)
	if !slices.Equal(all, before) {
		t.Error(name, l, "wrote into its argument:", all)
	}
	answer := slices.Clone(got)
	for i := range all {
		all[i] = -spareMark
	}
	if !slices.Equal(got, answer) {
		t.Error(name, l, "answers memory of its argument")
	}
	copy(all, before)
	got = got[:cap(got)]
	for i := range got {
		got[i] = -spareMark
	}
	if !slices.Equal(all, before) {
		t.Error(name, l, "answers memory of its argument, or of the room behind it")
	}
	if again := f(given); !slices.Equal(again, answer) {
		t.Error(name, l, "answers otherwise when asked again:", again)
	}
}

func TestListsMemory(t *testing.T) {
	ids := append([]int64{1, 2, 3, 4, 5}, noCores...)
	for _, l := range append(rightLists(), wrongLists...) {
		checkMemory(t, "IdsOk", l, func(given []int64) []int64 {
			impl.IdsOk(given)
			return nil
		})
		for _, id := range ids {
			checkMemory(t, "WithId", l, func(given []int64) []int64 { return impl.WithId(given, id) })
			checkMemory(t, "WithoutId", l, func(given []int64) []int64 { return impl.WithoutId(given, id) })
		}
	}
}
