package tests

import (
	"fmt"
	"math"
	"slices"
	"testing"

	"loop.example/g00384/impl"
)

func TestNumbersOfCaches(t *testing.T) {
	got := []int64{impl.WayCount, impl.SetCount, impl.MaxAddr}
	if want := []int64{4, 2, 1000}; !slices.Equal(got, want) {
		t.Error(got, "not", want)
	}
}

// plruTable has, at the place of the bits, what they are when each way was
// touched, and the victim.
var plruTable = []struct {
	touched [4]int64
	victim  int64
}{
	{[4]int64{3, 1, 4, 0}, 0},
	{[4]int64{3, 1, 4, 0}, 2},
	{[4]int64{3, 1, 6, 2}, 1},
	{[4]int64{3, 1, 6, 2}, 2},
	{[4]int64{7, 5, 4, 0}, 0},
	{[4]int64{7, 5, 4, 0}, 3},
	{[4]int64{7, 5, 6, 2}, 1},
	{[4]int64{7, 5, 6, 2}, 3},
}

var (
	noPlru  = []int64{-1, 8, 9, -8, 15, 16, math.MinInt64, math.MaxInt64}
	noWays  = []int64{-1, 4, 5, -4, 7, 63, 64, math.MinInt64, math.MaxInt64}
	noAddrs = []int64{-1, 1001, -2, 1002, -1000, 2000, math.MinInt64, math.MaxInt64}
)

func TestPlruOfAllBits(t *testing.T) {
	for bits, row := range plruTable {
		for way, want := range row.touched {
			if got := impl.PlruTouched(int64(bits), int64(way)); got != want {
				t.Error("bits", bits, "touched by", way, "are", got, "not", want)
			}
		}
		if got := impl.PlruVictim(int64(bits)); got != row.victim {
			t.Error("the victim of", bits, "is", got, "not", row.victim)
		}
	}
}

func TestPlruOfNothing(t *testing.T) {
	check := func(bits int64, way int64) {
		t.Helper()
		if got := impl.PlruTouched(bits, way); got != -1 {
			t.Error("bits", bits, "touched by", way, "are", got)
		}
	}
	for _, bits := range noPlru {
		for way := range int64(4) {
			check(bits, way)
		}
		for _, way := range noWays {
			check(bits, way)
		}
		if got := impl.PlruVictim(bits); got != -1 {
			t.Error("the victim of", bits, "is", got)
		}
	}
	for bits := range int64(8) {
		for _, way := range noWays {
			check(bits, way)
		}
	}
}

// Promise 9, of the bits: the victim is not even of the half of the way that
// was touched last. To touch again changes nothing, and the way that the other
// half's bit tells stays told.
func TestVictimIsNotWhatWasTouched(t *testing.T) {
	for bits := range int64(8) {
		for way := range int64(4) {
			touched := impl.PlruTouched(bits, way)
			if victim := impl.PlruVictim(touched); victim < 0 || victim > 3 || victim/2 == way/2 {
				t.Error("the victim of", bits, "touched by", way, "is", victim)
			}
			if again := impl.PlruTouched(touched, way); again != touched {
				t.Error(bits, "touched by", way, "is", touched, "and then", again)
			}
			other := int64(4)
			if way >= 2 {
				other = 2
			}
			if touched&other != bits&other {
				t.Error(bits, "touched by", way, "is", touched, ": the other half's bit is turned")
			}
		}
	}
}

// Four ways touched one behind the other, each of which was the victim, are
// four ways: none is forgotten.
func TestVictimsOfAllWays(t *testing.T) {
	for start := range int64(8) {
		bits := start
		var victims []int64
		for range 4 {
			victim := impl.PlruVictim(bits)
			victims = append(victims, victim)
			bits = impl.PlruTouched(bits, victim)
		}
		slices.Sort(victims)
		if !slices.Equal(victims, []int64{0, 1, 2, 3}) || bits != start {
			t.Error("from", start, "on the victims are", victims, "and then the bits", bits)
		}
	}
}

// setWith is a set with these addresses; a way with -1 is not used.
func setWith(bits int64, addrs ...int64) impl.CSet {
	s := impl.CSet{Bits: bits}
	for _, addr := range addrs {
		if addr == -1 {
			s.Ways = append(s.Ways, impl.Way{})
		} else {
			s.Ways = append(s.Ways, impl.Way{Used: true, Addr: addr})
		}
	}
	return s
}

func cacheWith(sets ...impl.CSet) impl.Cache { return impl.Cache{Sets: sets} }

func noneUsed() impl.CSet { return setWith(0, -1, -1, -1, -1) }

func evenFull() impl.CSet { return setWith(0, 2, 4, 6, 1000) }

func oddFull() impl.CSet { return setWith(7, 1, 3, 5, 999) }

func sameSet(a impl.CSet, b impl.CSet) bool {
	return a.Bits == b.Bits && slices.Equal(a.Ways, b.Ways)
}

func sameCache(a impl.Cache, b impl.Cache) bool { return slices.EqualFunc(a.Sets, b.Sets, sameSet) }

func isNoCache(c impl.Cache) bool { return len(c.Sets) == 0 }

func copyCache(c impl.Cache) impl.Cache {
	n := impl.Cache{Sets: slices.Clone(c.Sets)}
	for at := range n.Sets {
		n.Sets[at].Ways = slices.Clone(n.Sets[at].Ways)
	}
	return n
}

func TestCacheNew(t *testing.T) {
	got := impl.CacheNew()
	if !impl.CacheOk(got) || !sameCache(got, cacheWith(noneUsed(), noneUsed())) {
		t.Error("a new cache is", got)
	}
	for addr := int64(-1); addr <= 1001; addr++ {
		if impl.Holds(got, addr) {
			t.Error("a new cache holds", addr)
		}
	}
}

func rightCaches() []impl.Cache {
	list := []impl.Cache{
		impl.CacheNew(),
		cacheWith(evenFull(), oddFull()),
		cacheWith(setWith(7, 0, -1, -1, -1), setWith(0, -1, -1, -1, 1)),
		cacheWith(setWith(0, -1, 0, -1, -1), noneUsed()),
		cacheWith(setWith(3, -1, 1000, -1, 0), setWith(4, 999, -1, 1, -1)),
		cacheWith(setWith(1, 1000, 998, 996, 994), setWith(2, 993, 995, 997, 999)),
		cacheWith(setWith(5, 0, 2, 4, -1), setWith(6, -1, 1, 3, 5)),
	}
	for bits := range int64(8) {
		list = append(list, cacheWith(setWith(bits, 8, 6, 4, 2), setWith(7-bits, -1, 7, 5, 3)))
	}
	return list
}

func wrongCaches() []impl.Cache {
	even, odd, none := evenFull, oddFull, noneUsed
	unused := func(at int, addr int64) impl.CSet {
		s := noneUsed()
		s.Ways[at].Addr = addr
		return s
	}
	list := []impl.Cache{
		{},
		{Sets: []impl.CSet{}},
		cacheWith(even()),
		cacheWith(none()),
		cacheWith(even(), odd(), even()),
		cacheWith(none(), none(), none()),
		cacheWith(impl.CSet{}, impl.CSet{}),
		cacheWith(odd(), even()),
		cacheWith(even(), even()),
		cacheWith(odd(), odd()),
		cacheWith(setWith(0), none()),
		cacheWith(none(), setWith(0)),
		cacheWith(setWith(0, 2, 4, 6), none()),
		cacheWith(none(), setWith(0, 1, 3, 5)),
		cacheWith(setWith(0, 2, 4, 6, 8, 10), none()),
		cacheWith(none(), setWith(0, 1, 3, 5, 7, 9)),
		cacheWith(setWith(0, -1, -1, -1), none()),
		cacheWith(none(), setWith(0, -1, -1, -1, -1, -1)),
		cacheWith(setWith(0, 2, 4, 6), setWith(0, 1, 3, 5, 7, 9)),
		cacheWith(setWith(0, 1, -1, -1, -1), none()),
		cacheWith(setWith(0, 2, 4, 6, 999), none()),
		cacheWith(none(), setWith(0, 0, -1, -1, -1)),
		cacheWith(none(), setWith(0, 1, 3, 5, 1000)),
		cacheWith(setWith(0, 2, 4, 6, 1002), none()),
		cacheWith(setWith(0, 2, 4, 6, -2), none()),
		cacheWith(none(), setWith(0, 1, 3, 5, 1001)),
		cacheWith(none(), setWith(0, 1, 3, 5, -3)),
		cacheWith(setWith(0, 0, 0, -1, -1), none()),
		cacheWith(setWith(0, 0, -1, -1, 0), none()),
		cacheWith(setWith(0, 2, 4, 4, 6), none()),
		cacheWith(setWith(0, 2, 4, 6, 2), none()),
		cacheWith(none(), setWith(0, -1, 5, -1, 5)),
		cacheWith(none(), setWith(0, -1, -1, 999, 999)),
		cacheWith(setWith(0, math.MinInt64, -1, -1, -1), none()),
		cacheWith(none(), setWith(0, math.MaxInt64, -1, -1, -1)),
	}
	oddBelow := none()
	oddBelow.Ways[2] = impl.Way{Used: true, Addr: -1}
	list = append(list, cacheWith(none(), oddBelow), cacheWith(oddBelow, none()))
	for at := range 4 {
		for _, addr := range []int64{1, 2, -1, -2, 1000, 1001, math.MinInt64, math.MaxInt64} {
			list = append(list, cacheWith(unused(at, addr), none()), cacheWith(none(), unused(at, addr)))
		}
	}
	for _, bits := range noPlru {
		list = append(list, cacheWith(setWith(bits, -1, -1, -1, -1), none()), cacheWith(even(), setWith(bits, 1, 3, 5, 7)))
	}
	return list
}

func TestRightCaches(t *testing.T) {
	for _, c := range rightCaches() {
		if !impl.CacheOk(c) {
			t.Error("not right:", c)
		}
	}
}

func TestWrongCaches(t *testing.T) {
	for _, c := range wrongCaches() {
		if impl.CacheOk(c) {
			t.Error("right:", c)
		}
		for _, addr := range append([]int64{0, 1, 2, 3, 4, 5, 6, 999, 1000}, noAddrs...) {
			if impl.Holds(c, addr) {
				t.Error(c, "holds", addr)
			}
			if got, had, gone := impl.Looked(c, addr); !isNoCache(got) || had || gone != -1 {
				t.Error(addr, "looked up in", c, "is", got, had, gone)
			}
			if got, which := impl.LookedAll(c, []int64{addr}); !isNoCache(got) || len(which) != 0 {
				t.Error(addr, "looked up in", c, "is", got, which)
			}
		}
		if got, which := impl.LookedAll(c, nil); !isNoCache(got) || len(which) != 0 {
			t.Error("nothing looked up in", c, "is", got, which)
		}
	}
}

func cacheRightBy(c impl.Cache) bool {
	if len(c.Sets) != 2 {
		return false
	}
	for number, s := range c.Sets {
		if s.Bits < 0 || s.Bits > 7 || len(s.Ways) != 4 {
			return false
		}
		count := map[int64]int{}
		for _, w := range s.Ways {
			if !w.Used && w.Addr != 0 {
				return false
			}
			if w.Used {
				count[w.Addr]++
			}
		}
		for addr, ways := range count {
			if ways > 1 || addr < 0 || addr > 1000 || (addr-int64(number))%2 != 0 {
				return false
			}
		}
	}
	return true
}

// cache is right.
func (d *draw) cache() impl.Cache {
	var c impl.Cache
	for number := range int64(2) {
		s := noneUsed()
		s.Bits = d.upTo(8)
		full := d.oneIn(2)
		for at := range s.Ways {
			// Each way has addresses of its own, so that no two are alike.
			if full || d.oneIn(2) {
				s.Ways[at] = impl.Way{Used: true, Addr: number + 2*((int64(at)+d.upTo(4))%4) + 8*d.upTo(124)}
			}
		}
		c.Sets = append(c.Sets, s)
	}
	if !cacheRightBy(c) {
		return d.cache()
	}
	return c
}

// Caches that are near to right ones.
func TestCacheOkOfSpoiltCaches(t *testing.T) {
	d := draw{state: 91}
	var right, wrong int
	for range 40000 {
		c := d.cache()
		s := &c.Sets[d.upTo(2)]
		at, other := d.upTo(4), d.upTo(4)
		switch d.upTo(7) {
		case 0:
			s.Bits += d.upTo(5) - 2
		case 1:
			s.Ways[at].Addr += d.upTo(5) - 2
		case 2:
			s.Ways[at] = s.Ways[other]
		case 3:
			s.Ways[at].Used = d.oneIn(2)
		case 4:
			s.Ways[at] = impl.Way{Used: true, Addr: []int64{-2, -1, 0, 1, 999, 1000, 1001, 1002}[d.upTo(8)]}
		case 5:
			s.Ways = append(s.Ways, impl.Way{})[:3+d.upTo(3)]
		case 6:
			c.Sets = append(c.Sets, noneUsed())[:1+d.upTo(3)]
		}
		want := cacheRightBy(c)
		if impl.CacheOk(c) != want {
			t.Fatal(c, "is right:", !want)
		}
		if want {
			right++
		} else {
			wrong++
		}
	}
	if right < 5000 || wrong < 5000 {
		t.Error("too few:", right, wrong)
	}
}

func holdsBy(c impl.Cache, addr int64) bool {
	for _, s := range c.Sets {
		if slices.Contains(s.Ways, impl.Way{Used: true, Addr: addr}) {
			return true
		}
	}
	return false
}

func TestHolds(t *testing.T) {
	for _, c := range rightCaches() {
		for addr := range int64(1001) {
			if got := impl.Holds(c, addr); got != holdsBy(c, addr) {
				t.Error(c, "holds", addr, ":", got)
			}
		}
		for _, addr := range noAddrs {
			if impl.Holds(c, addr) {
				t.Error(c, "holds", addr)
			}
		}
	}
}

// A way that is not Used has Addr 0, but that is not there.
func TestHoldsNothingWhereNothingIsUsed(t *testing.T) {
	c := cacheWith(setWith(0, 2, -1, 4, -1), noneUsed())
	if impl.Holds(c, 0) {
		t.Error(c, "holds 0")
	}
	got, had, gone := impl.Looked(c, 0)
	if want := cacheWith(setWith(1, 2, 0, 4, -1), noneUsed()); had || gone != -1 || !sameCache(got, want) {
		t.Error(got, had, gone, "not", want)
	}
	if again, had, gone := impl.Looked(got, 0); !had || gone != -1 || !sameCache(again, got) {
		t.Error(again, had, gone)
	}
}

type lookCase struct {
	name string
	set  impl.CSet
	addr int64
	next impl.CSet
	had  bool
	gone int64
}

var lookCases = []lookCase{
	{"the first of all", setWith(0, -1, -1, -1, -1), 0, setWith(3, 0, -1, -1, -1), false, -1},
	{"the last address", setWith(0, -1, -1, -1, -1), 1000, setWith(3, 1000, -1, -1, -1), false, -1},
	{"there, first way", setWith(4, 2, 4, 6, 8), 2, setWith(7, 2, 4, 6, 8), true, -1},
	{"there, second way", setWith(4, 2, 4, 6, 8), 4, setWith(5, 2, 4, 6, 8), true, -1},
	{"there, third way", setWith(3, 2, 4, 6, 8), 6, setWith(6, 2, 4, 6, 8), true, -1},
	{"there, fourth way", setWith(7, 2, 4, 6, 8), 8, setWith(2, 2, 4, 6, 8), true, -1},
	{"there, behind a free one", setWith(0, -1, -1, -1, 8), 8, setWith(0, -1, -1, -1, 8), true, -1},
	{"there, ahead of a free one", setWith(0, 8, -1, 6, 4), 8, setWith(3, 8, -1, 6, 4), true, -1},
	{"the first is free", setWith(4, -1, 4, 6, 8), 10, setWith(7, 10, 4, 6, 8), false, -1},
	{"the second is free", setWith(2, 2, -1, 6, 8), 10, setWith(1, 2, 10, 6, 8), false, -1},
	{"the third is free", setWith(1, 2, 4, -1, 8), 10, setWith(4, 2, 4, 10, 8), false, -1},
	{"the fourth is free", setWith(5, 2, 4, 6, -1), 10, setWith(0, 2, 4, 6, 10), false, -1},
	{"two are free", setWith(0, 2, -1, 6, -1), 10, setWith(1, 2, 10, 6, -1), false, -1},
	{"the last two are free", setWith(0, 2, 4, -1, -1), 10, setWith(4, 2, 4, 10, -1), false, -1},
	{"three are free", setWith(7, -1, -1, 6, -1), 10, setWith(7, 10, -1, 6, -1), false, -1},
	{"one is free, but not the victim", setWith(3, 2, -1, 4, 6), 10, setWith(1, 2, 10, 4, 6), false, -1},
	{"the first makes room", setWith(0, 2, 4, 6, 8), 10, setWith(3, 10, 4, 6, 8), false, 2},
	{"the first makes room, with another bit", setWith(4, 2, 4, 6, 8), 10, setWith(7, 10, 4, 6, 8), false, 2},
	{"the second makes room", setWith(2, 2, 4, 6, 8), 10, setWith(1, 2, 10, 6, 8), false, 4},
	{"the second makes room, with another bit", setWith(6, 2, 4, 6, 8), 10, setWith(5, 2, 10, 6, 8), false, 4},
	{"the third makes room", setWith(1, 2, 4, 6, 8), 10, setWith(4, 2, 4, 10, 8), false, 6},
	{"the third makes room, with another bit", setWith(3, 2, 4, 6, 8), 10, setWith(6, 2, 4, 10, 8), false, 6},
	{"the fourth makes room", setWith(5, 2, 4, 6, 8), 10, setWith(0, 2, 4, 6, 10), false, 8},
	{"the fourth makes room, with another bit", setWith(7, 2, 4, 6, 8), 10, setWith(2, 2, 4, 6, 10), false, 8},
	{"0 makes room", setWith(0, 0, 2, 4, 6), 8, setWith(3, 8, 2, 4, 6), false, 0},
	{"1000 makes room for 0", setWith(0, 1000, 2, 4, 6), 0, setWith(3, 0, 2, 4, 6), false, 1000},
}

// raised is the same set with each address one more, or one less where it is
// the last one: a set of the other number.
func raised(s impl.CSet) impl.CSet {
	n := impl.CSet{Bits: s.Bits}
	for _, w := range s.Ways {
		if w.Used {
			w.Addr = raisedAddr(w.Addr)
		}
		n.Ways = append(n.Ways, w)
	}
	return n
}

func raisedAddr(addr int64) int64 {
	switch addr {
	case -1:
		return -1
	case 1000:
		return 999
	}
	return addr + 1
}

func TestLooked(t *testing.T) {
	check := func(name string, c impl.Cache, addr int64, want impl.Cache, had bool, gone int64) {
		t.Helper()
		got, gotHad, gotGone := impl.Looked(c, addr)
		if !sameCache(got, want) || gotHad != had || gotGone != gone {
			t.Error(name, ":", got, gotHad, gotGone, "not", want, had, gone)
		}
	}
	for _, r := range lookCases {
		for _, odd := range []impl.CSet{noneUsed(), oddFull()} {
			check(r.name, cacheWith(r.set, odd), r.addr, cacheWith(r.next, odd), r.had, r.gone)
		}
		for _, even := range []impl.CSet{noneUsed(), evenFull()} {
			check(r.name+", odd", cacheWith(even, raised(r.set)), raisedAddr(r.addr), cacheWith(even, raised(r.next)), r.had, raisedAddr(r.gone))
		}
	}
}

func TestLookedOfNoAddress(t *testing.T) {
	for _, c := range rightCaches() {
		for _, addr := range noAddrs {
			if got, had, gone := impl.Looked(c, addr); !isNoCache(got) || had || gone != -1 {
				t.Error(addr, "looked up in", c, "is", got, had, gone)
			}
			if got, which := impl.LookedAll(c, []int64{addr}); !isNoCache(got) || len(which) != 0 {
				t.Error(addr, "looked up in", c, "is", got, which)
			}
		}
	}
}

// lookBy goes by the tables of this file and by what the document says.
func lookBy(c impl.Cache, addr int64) (impl.Cache, bool, int64) {
	n := copyCache(c)
	s := &n.Sets[addr%2]
	used := impl.Way{Used: true, Addr: addr}
	gone := int64(-1)
	had := slices.Contains(s.Ways, used)
	way := slices.Index(s.Ways, used)
	if !had {
		way = slices.IndexFunc(s.Ways, func(w impl.Way) bool { return !w.Used })
	}
	if way < 0 {
		way = int(plruTable[s.Bits].victim)
		gone = s.Ways[way].Addr
	}
	s.Ways[way] = used
	s.Bits = plruTable[s.Bits].touched[way]
	return n, had, gone
}

// checkLook: promise 9, and that it is just what the document says.
func checkLook(t *testing.T, c impl.Cache, addr int64) (impl.Cache, bool, int64) {
	t.Helper()
	got, had, gone := impl.Looked(c, addr)
	if want, wantHad, wantGone := lookBy(c, addr); !sameCache(got, want) || had != wantHad || gone != wantGone {
		t.Fatal(addr, "looked up in", c, "is", got, had, gone, "not", want, wantHad, wantGone)
	}
	if !impl.CacheOk(got) || !impl.Holds(got, addr) || had != impl.Holds(c, addr) {
		t.Fatal(addr, "looked up in", c, "is", got, had)
	}
	if gone != -1 && (!impl.Holds(c, gone) || impl.Holds(got, gone) || gone%2 != addr%2 || had) {
		t.Fatal(addr, "looked up in", c, "is", got, "where room was made by", gone)
	}
	if !sameSet(got.Sets[1-addr%2], c.Sets[1-addr%2]) {
		t.Fatal(addr, "looked up in", c, "changes the other set:", got)
	}
	for at, was := range c.Sets[addr%2].Ways {
		now := got.Sets[addr%2].Ways[at]
		if now != was && (now.Addr != addr || had || was.Used && was.Addr != gone) {
			t.Fatal(addr, "looked up in", c, "changes way", at, ":", got)
		}
	}
	victim := got.Sets[addr%2].Ways[impl.PlruVictim(got.Sets[addr%2].Bits)]
	if victim.Used && victim.Addr == addr {
		t.Fatal(addr, "looked up in", c, "is the victim then:", got)
	}
	return got, had, gone
}

// Promise 9, at all sets of some addresses.
func TestLookedEverywhere(t *testing.T) {
	some := []int64{-1, 0, 2, 4, 6, 1000}
	var kinds [3]int
	for code := range 6 * 6 * 6 * 6 {
		for bits := range int64(8) {
			s := setWith(bits, some[code%6], some[code/6%6], some[code/36%6], some[code/216])
			c := cacheWith(s, oddFull())
			if !cacheRightBy(c) {
				continue
			}
			for _, addr := range []int64{0, 2, 4, 6, 8, 998, 1000, 1, 7} {
				_, had, gone := checkLook(t, c, addr)
				switch {
				case had:
					kinds[0]++
				case gone == -1:
					kinds[1]++
				default:
					kinds[2]++
				}
			}
		}
	}
	for kind, count := range kinds {
		if count < 1000 {
			t.Error("kind", kind, "was seen too seldom:", count)
		}
	}
}

// Promise 9, with drawn addresses from a new cache on: what is held is what
// was looked up and has not made room since.
func TestWhatWasLookedUpIsThere(t *testing.T) {
	d := draw{state: 92}
	for round := range 60 {
		c := impl.CacheNew()
		held := map[int64]int{}
		span := int64(6 + round)
		last := int64(-1)
		for range 300 {
			addr := d.upTo(span)
			next, had, gone := checkLook(t, c, addr)
			if had != (held[addr] == 1) {
				t.Fatal(addr, "was there:", had, "in", c)
			}
			if gone == last && gone != -1 {
				t.Fatal("what was looked up last makes room:", gone)
			}
			held[addr] = 1
			delete(held, gone)
			c, last = next, addr
			for other := range span {
				if impl.Holds(c, other) != (held[other] == 1) {
					t.Fatal(c, "holds", other, ":", impl.Holds(c, other))
				}
			}
		}
	}
}

func TestDrawnAddressesInDrawnCaches(t *testing.T) {
	d := draw{state: 93}
	for range 30000 {
		c := d.cache()
		addr := d.upTo(1001)
		if w := c.Sets[d.upTo(2)].Ways[d.upTo(4)]; d.oneIn(2) && w.Used {
			addr = w.Addr
		}
		checkLook(t, c, addr)
	}
}

// oneByOne is what LookedAll is, by Looked.
func oneByOne(c impl.Cache, l []int64) (impl.Cache, []bool) {
	var which []bool
	for _, addr := range l {
		next, had, _ := impl.Looked(c, addr)
		c, which = next, append(which, had)
	}
	return c, which
}

func checkLookedAll(t *testing.T, c impl.Cache, l []int64) {
	t.Helper()
	got, which := impl.LookedAll(c, l)
	want, wantWhich := oneByOne(c, l)
	if !sameCache(got, want) || !slices.Equal(which, wantWhich) {
		t.Fatal(l, "looked up in", c, "is", got, which, "not", want, wantWhich)
	}
}

func TestLookedAll(t *testing.T) {
	got, which := impl.LookedAll(impl.CacheNew(), []int64{1, 2, 1, 4, 6, 8, 10, 2, 1, 0})
	want := cacheWith(setWith(5, 10, 0, 2, 8), setWith(3, 1, -1, -1, -1))
	wantWhich := []bool{false, false, true, false, false, false, false, false, true, false}
	if !sameCache(got, want) || !slices.Equal(which, wantWhich) {
		t.Error(got, which, "not", want, wantWhich)
	}
	for _, c := range rightCaches() {
		for _, none := range [][]int64{nil, {}} {
			if got, which := impl.LookedAll(c, none); !sameCache(got, c) || len(which) != 0 {
				t.Error("nothing looked up in", c, "is", got, which)
			}
		}
		checkLookedAll(t, c, []int64{0})
		checkLookedAll(t, c, []int64{1000})
		checkLookedAll(t, c, []int64{0, 0, 1000, 999, 1, 1000})
	}
}

func (d *draw) addrs(count int64, span int64) []int64 {
	var l []int64
	for range count {
		l = append(l, d.upTo(span))
	}
	return l
}

func TestLookedAllLimits(t *testing.T) {
	d := draw{state: 94}
	l := d.addrs(101, 14)
	for _, c := range rightCaches() {
		checkLookedAll(t, c, l[:99])
		checkLookedAll(t, c, l[:100])
		if _, which := impl.LookedAll(c, l[:100]); len(which) != 100 {
			t.Error(len(which), "are told of 100")
		}
		for _, many := range [][]int64{l, append(slices.Clone(l), l...), append(slices.Clone(l[:100]), -1)} {
			if got, which := impl.LookedAll(c, many); !isNoCache(got) || len(which) != 0 {
				t.Error(len(many), "looked up are", got, which)
			}
		}
		for _, addr := range noAddrs {
			for _, at := range []int{0, 1, 50, 99} {
				wrong := slices.Clone(l[:100])
				wrong[at] = addr
				if got, which := impl.LookedAll(c, wrong); !isNoCache(got) || len(which) != 0 {
					t.Error(addr, "at", at, "is", got, which)
				}
			}
		}
	}
}

// What is looked up in two pieces is what is looked up in one.
func TestLookedAllInTwoPieces(t *testing.T) {
	d := draw{state: 95}
	for range 500 {
		c := d.cache()
		l := d.addrs(d.upTo(101), 4+d.upTo(30))
		checkLookedAll(t, c, l)
		got, which := impl.LookedAll(c, l)
		cut := d.upTo(int64(len(l)) + 1)
		half, first := impl.LookedAll(c, l[:cut])
		whole, second := impl.LookedAll(half, l[cut:])
		if !sameCache(whole, got) || !slices.Equal(append(first, second...), which) {
			t.Fatal(l, "cut at", cut, "in", c, "is", whole, first, second, "not", got, which)
		}
	}
}

func cacheLists(c impl.Cache) []any {
	lists := []any{c.Sets}
	for _, s := range c.Sets {
		lists = append(lists, s.Ways)
	}
	return lists
}

func roomyCache(c impl.Cache) impl.Cache {
	var n impl.Cache
	for _, s := range c.Sets {
		n.Sets = append(n.Sets, impl.CSet{Bits: s.Bits, Ways: roomy(s.Ways, impl.Way{Addr: spareMark})})
	}
	n.Sets = roomy(n.Sets, setWith(spareMark, spareMark))
	return n
}

func withCacheRoom(c impl.Cache) impl.Cache {
	var n impl.Cache
	for _, s := range c.Sets[:cap(c.Sets)] {
		n.Sets = append(n.Sets, impl.CSet{Bits: s.Bits, Ways: s.Ways[:cap(s.Ways)]})
	}
	return n
}

// checkCacheMemory calls f twice; it answers a cache, and what else it answers.
func checkCacheMemory(t *testing.T, name string, c impl.Cache, f func(impl.Cache) (impl.Cache, []bool)) {
	t.Helper()
	given := roomyCache(c)
	before := copyCache(withCacheRoom(given))
	got, which := f(given)
	if !sameCache(withCacheRoom(given), before) {
		t.Error(name, "wrote into its argument", c, ":", withCacheRoom(given))
	}
	checkApart(t, name, append(cacheLists(got), which), cacheLists(given))
	kept := copyCache(got)
	again, againWhich := f(given)
	if !sameCache(again, kept) || !slices.Equal(againWhich, which) {
		t.Error(name, "of", c, "answers otherwise when asked again:", again, againWhich)
	}
	checkApart(t, name, append(append(cacheLists(got), cacheLists(again)...), which, againWhich), nil)
	if !sameCache(got, kept) {
		t.Error(name, "of", c, "changed an answer of its own")
	}
}

func TestCachesMemory(t *testing.T) {
	d := draw{state: 96}
	caches := append(rightCaches(), wrongCaches()...)
	for range 200 {
		caches = append(caches, d.cache())
	}
	for _, c := range caches {
		checkCacheMemory(t, "CacheOk", c, func(c impl.Cache) (impl.Cache, []bool) {
			return impl.Cache{}, []bool{impl.CacheOk(c)}
		})
		for _, addr := range []int64{0, 1, 2, 4, 10, 999, 1000, -1, 1001} {
			checkCacheMemory(t, fmt.Sprint("Holds ", addr), c, func(c impl.Cache) (impl.Cache, []bool) {
				return impl.Cache{}, []bool{impl.Holds(c, addr)}
			})
			checkCacheMemory(t, fmt.Sprint("Looked ", addr), c, func(c impl.Cache) (impl.Cache, []bool) {
				n, had, _ := impl.Looked(c, addr)
				return n, []bool{had}
			})
		}
		for _, l := range [][]int64{nil, d.addrs(10, 12), {0, 1001}} {
			given := roomy(l, spareMark)
			before := slices.Clone(given[:cap(given)])
			checkCacheMemory(t, "LookedAll", c, func(c impl.Cache) (impl.Cache, []bool) { return impl.LookedAll(c, given) })
			if !slices.Equal(given[:cap(given)], before) {
				t.Error("LookedAll wrote into its addresses")
			}
		}
	}
	checkCacheMemory(t, "CacheNew", impl.Cache{}, func(impl.Cache) (impl.Cache, []bool) { return impl.CacheNew(), nil })
}

// Both sets of an argument may share one list; those of the answer do not.
func TestCacheWithOneListTwice(t *testing.T) {
	ways := make([]impl.Way, 4)
	c := cacheWith(impl.CSet{Ways: ways}, impl.CSet{Ways: ways})
	got, which := impl.LookedAll(c, []int64{2, 1, 4})
	want := cacheWith(setWith(1, 2, 4, -1, -1), setWith(3, 1, -1, -1, -1))
	if !sameCache(got, want) || !slices.Equal(which, []bool{false, false, false}) {
		t.Error(got, which, "not", want)
	}
	checkApart(t, "LookedAll", cacheLists(got), cacheLists(c))
	if !slices.Equal(ways, make([]impl.Way, 4)) {
		t.Error("written into the argument:", ways)
	}
}
