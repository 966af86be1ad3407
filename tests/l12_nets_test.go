package tests

import (
	"math"
	"slices"
	"testing"

	"loop.example/g00384/impl"
)

func TestNumbersOfNets(t *testing.T) {
	if impl.MaxNodes != 6 {
		t.Error(impl.MaxNodes, "not 6")
	}
}

type netLink = [2]int64

func netOf(nodes int64, links ...netLink) impl.Net { return impl.Net{Nodes: nodes, Links: links} }

func sameNet(a impl.Net, b impl.Net) bool {
	return a.Nodes == b.Nodes && slices.Equal(a.Links, b.Links)
}

func isNoNet(n impl.Net) bool { return sameNet(n, impl.Net{}) }

// everyLink joins each two of so many nodes.
func everyLink(nodes int64) []netLink {
	var links []netLink
	for a := range nodes {
		for b := a + 1; b < nodes; b++ {
			links = append(links, netLink{a, b})
		}
	}
	return links
}

// someLinks are those of all links whose bits are set.
func someLinks(nodes int64, bits int) impl.Net {
	n := impl.Net{Nodes: nodes}
	for at, link := range everyLink(nodes) {
		if bits>>at&1 == 1 {
			n.Links = append(n.Links, link)
		}
	}
	return n
}

// allNets are all right nets of so many nodes.
func allNets(nodes int64) []impl.Net {
	var nets []impl.Net
	for bits := range 1 << len(everyLink(nodes)) {
		nets = append(nets, someLinks(nodes, bits))
	}
	return nets
}

func wrongNets() []impl.Net {
	list := []impl.Net{
		{},
		netOf(0, netLink{0, 1}),
		netOf(-1),
		netOf(7),
		netOf(7, everyLink(6)...),
		netOf(7, everyLink(7)...),
		netOf(math.MinInt64),
		netOf(math.MaxInt64),
		netOf(math.MaxInt64, netLink{0, 1}),
		netOf(1, netLink{0, 0}),
		netOf(1, netLink{0, 1}),
		netOf(1, netLink{}),
		netOf(2, netLink{1, 0}),
		netOf(2, netLink{0, 0}),
		netOf(2, netLink{1, 1}),
		netOf(2, netLink{0, 2}),
		netOf(2, netLink{1, 2}),
		netOf(2, netLink{2, 3}),
		netOf(2, netLink{-1, 0}),
		netOf(2, netLink{-1, 1}),
		netOf(2, netLink{-2, -1}),
		netOf(2, netLink{0, -1}),
		netOf(2, netLink{0, 1}, netLink{0, 1}),
		netOf(2, netLink{0, 1}, netLink{1, 0}),
		netOf(3, netLink{0, 2}, netLink{0, 1}),
		netOf(3, netLink{1, 2}, netLink{0, 1}),
		netOf(3, netLink{1, 2}, netLink{0, 2}),
		netOf(3, netLink{0, 1}, netLink{1, 2}, netLink{1, 2}),
		netOf(3, netLink{0, 1}, netLink{1, 2}, netLink{0, 2}),
		netOf(3, netLink{0, 1}, netLink{0, 2}, netLink{2, 1}),
		netOf(4, netLink{0, 3}, netLink{1, 2}, netLink{1, 1}),
		netOf(4, netLink{0, 1}, netLink{0, 4}),
		netOf(5, everyLink(6)...),
		netOf(6, everyLink(7)...),
		netOf(6, netLink{0, 6}),
		netOf(6, netLink{5, 6}),
		netOf(6, append(everyLink(6), netLink{4, 5})...),
		netOf(6, append([]netLink{{0, 1}}, everyLink(6)...)...),
		netOf(6, make([]netLink, 1000)...),
		netOf(6, slices.Repeat(everyLink(6), 1000)...),
	}
	for _, far := range []int64{math.MinInt64, math.MaxInt64, 1 << 32, -64, 64} {
		list = append(list, netOf(3, netLink{0, far}), netOf(3, netLink{far, 1}), netOf(3, netLink{0, 1}, netLink{far, far}))
	}
	return list
}

func TestRightNets(t *testing.T) {
	for nodes := int64(1); nodes <= 5; nodes++ {
		for _, n := range allNets(nodes) {
			if !impl.NetOk(n) {
				t.Error("not right:", n)
			}
		}
	}
	for _, n := range []impl.Net{netOf(6), {Nodes: 6, Links: []netLink{}}, netOf(6, everyLink(6)...), netOf(6, netLink{4, 5}), netOf(6, everyLink(2)...)} {
		if !impl.NetOk(n) {
			t.Error("not right:", n)
		}
	}
}

func TestWrongNets(t *testing.T) {
	for _, n := range wrongNets() {
		if impl.NetOk(n) {
			t.Error("right:", n)
		}
		if impl.Whole(n) {
			t.Error("not right, but whole:", n)
		}
		for a := int64(-1); a <= 7; a++ {
			for b := int64(-1); b <= 7; b++ {
				checkNoWay(t, n, a, b)
				if got, ok := impl.WithoutLink(n, a, b); ok || !isNoNet(got) {
					t.Error(n, "is not right, but without", a, b, "is", got)
				}
			}
		}
	}
}

func checkNoWay(t *testing.T, n impl.Net, a int64, b int64) {
	t.Helper()
	if far, hop, path := impl.Dist(n, a, b), impl.NextHop(n, a, b), impl.PathBy(n, a, b); far != -1 || hop != -1 || len(path) != 0 {
		t.Error(n, "from", a, "to", b, "is", far, hop, path)
	}
}

func netRightBy(n impl.Net) bool {
	if n.Nodes < 1 || n.Nodes > 6 {
		return false
	}
	all := everyLink(n.Nodes)
	from := 0
	for _, link := range n.Links {
		at := slices.Index(all[from:], link)
		if at < 0 {
			return false
		}
		from += at + 1
	}
	return true
}

// Every list of up to three links whose nodes are around the limits.
func TestNetOkOfAllShortLists(t *testing.T) {
	var links []netLink
	for a := int64(-1); a <= 4; a++ {
		for b := int64(-1); b <= 4; b++ {
			links = append(links, netLink{a, b})
		}
	}
	var right, wrong int
	lists := [][]netLink{nil}
	for from := 0; from < len(lists); from++ {
		for nodes := int64(0); nodes <= 5; nodes++ {
			n := netOf(nodes, lists[from]...)
			want := netRightBy(n)
			if impl.NetOk(n) != want {
				t.Fatal(n, "is right:", !want)
			}
			if want {
				right++
			} else {
				wrong++
			}
		}
		if len(lists[from]) == 3 {
			continue
		}
		for _, link := range links {
			lists = append(lists, append(slices.Clone(lists[from]), link))
		}
	}
	if right < 200 || wrong < 100000 {
		t.Error("too few:", right, wrong)
	}
}

// noFar stands for a way that is not there in farBy.
const noFar = 1000

// farBy has how far each two nodes are, by ways over more and more nodes.
func farBy(n impl.Net) [6][6]int64 {
	var far [6][6]int64
	for a := range far {
		for b := range far {
			if a != b {
				far[a][b] = noFar
			}
		}
	}
	for _, link := range n.Links {
		far[link[0]][link[1]], far[link[1]][link[0]] = 1, 1
	}
	for over := range far {
		for a := range far {
			for b := range far {
				far[a][b] = min(far[a][b], far[a][over]+far[over][b])
			}
		}
	}
	return far
}

func areJoined(n impl.Net, a int64, b int64) bool {
	return slices.Contains(n.Links, netLink{a, b}) || slices.Contains(n.Links, netLink{b, a})
}

// checkNet: all ways through a right net; promise 12 is checked with them.
func checkNet(t *testing.T, n impl.Net) {
	t.Helper()
	far := farBy(n)
	whole := true
	for a := range n.Nodes {
		for b := range n.Nodes {
			if far[a][b] == noFar {
				checkNoWay(t, n, a, b)
				whole = false
				continue
			}
			if got := impl.Dist(n, a, b); got != far[a][b] {
				t.Fatal(n, "from", a, "to", b, "are", got, "not", far[a][b])
			}
			checkHop(t, n, far, a, b)
			checkPath(t, n, far, a, b)
		}
	}
	if impl.Whole(n) != whole {
		t.Fatal(n, "is whole:", !whole)
	}
}

func checkHop(t *testing.T, n impl.Net, far [6][6]int64, a int64, b int64) {
	t.Helper()
	want := int64(-1)
	for node := range n.Nodes {
		if areJoined(n, a, node) && far[node][b] == far[a][b]-1 {
			want = node
			break
		}
	}
	if got := impl.NextHop(n, a, b); got != want {
		t.Fatal(n, "from", a, "to", b, "goes over", got, "not", want)
	}
}

func checkPath(t *testing.T, n impl.Net, far [6][6]int64, a int64, b int64) {
	t.Helper()
	path := impl.PathBy(n, a, b)
	if int64(len(path)) != far[a][b]+1 || path[0] != a || path[len(path)-1] != b {
		t.Fatal(n, "from", a, "to", b, "is", path)
	}
	for at := 1; at < len(path); at++ {
		if !areJoined(n, path[at-1], path[at]) || path[at] != impl.NextHop(n, path[at-1], b) {
			t.Fatal(n, "from", a, "to", b, "is", path)
		}
	}
}

// checkWithout: each link taken away, and each that is not there; that nothing
// is nearer then is promise 12.
func checkWithout(t *testing.T, n impl.Net) {
	t.Helper()
	far := farBy(n)
	for a := int64(-1); a <= n.Nodes; a++ {
		for b := int64(-1); b <= n.Nodes; b++ {
			got, ok := impl.WithoutLink(n, a, b)
			at := slices.Index(n.Links, netLink{min(a, b), max(a, b)})
			if at < 0 {
				if ok || !isNoNet(got) {
					t.Fatal(n, "without", a, b, "is", got, ok)
				}
				continue
			}
			want := netOf(n.Nodes, slices.Delete(slices.Clone(n.Links), at, at+1)...)
			if !ok || !sameNet(got, want) || !impl.NetOk(got) {
				t.Fatal(n, "without", a, b, "is", got, ok, "not", want)
			}
			checkNotNearer(t, got, far)
		}
	}
}

func checkNotNearer(t *testing.T, n impl.Net, far [6][6]int64) {
	t.Helper()
	for a := range n.Nodes {
		for b := range n.Nodes {
			if got := impl.Dist(n, a, b); got != -1 && got < far[a][b] {
				t.Fatal(n, "from", a, "to", b, "are", got, ", once", far[a][b])
			}
		}
	}
}

// Promise 12, of all nets of up to five nodes.
func TestWaysThroughAllNets(t *testing.T) {
	for nodes := int64(1); nodes <= 5; nodes++ {
		for _, n := range allNets(nodes) {
			checkNet(t, n)
		}
	}
}

func TestAllNetsWithoutALink(t *testing.T) {
	for nodes := int64(1); nodes <= 5; nodes++ {
		for _, n := range allNets(nodes) {
			checkWithout(t, n)
		}
	}
}

// Promise 12, of some nets of six nodes, the ones with few links among them.
func TestWaysThroughNetsOfSix(t *testing.T) {
	d := draw{state: 121}
	for range 800 {
		bits := int(d.upTo(1 << 15))
		if d.oneIn(2) {
			bits &= int(d.upTo(1 << 15))
		}
		n := someLinks(6, bits)
		checkNet(t, n)
		checkWithout(t, n)
	}
	for _, n := range []impl.Net{netOf(6), netOf(6, everyLink(6)...), chain(6), ring(6)} {
		checkNet(t, n)
		checkWithout(t, n)
	}
}

func chain(nodes int64) impl.Net {
	n := impl.Net{Nodes: nodes}
	for a := int64(0); a+1 < nodes; a++ {
		n.Links = append(n.Links, netLink{a, a + 1})
	}
	return n
}

func ring(nodes int64) impl.Net {
	n := chain(nodes)
	n.Links = slices.Insert(n.Links, 1, netLink{0, nodes - 1})
	return n
}

// apart is two pieces, and a node that no link joins with another one.
func apart() impl.Net { return netOf(6, netLink{0, 3}, netLink{1, 4}, netLink{3, 5}) }

func TestDist(t *testing.T) {
	for _, r := range []struct {
		name string
		net  impl.Net
		a, b int64
		want int64
	}{
		{"to itself", netOf(1), 0, 0, 0},
		{"to itself, without links", netOf(6), 5, 5, 0},
		{"without links", netOf(2), 0, 1, -1},
		{"one link", chain(2), 0, 1, 1},
		{"against its direction", chain(2), 1, 0, 1},
		{"all of a chain", chain(6), 0, 5, 5},
		{"all of a chain, backwards", chain(6), 5, 0, 5},
		{"half a ring", ring(6), 0, 3, 3},
		{"the shorter way of a ring", ring(6), 0, 4, 2},
		{"the shorter way of a ring, backwards", ring(6), 4, 1, 3},
		{"in a piece", apart(), 0, 5, 2},
		{"in another piece", apart(), 4, 1, 1},
		{"from piece to piece", apart(), 0, 1, -1},
		{"to a node alone", apart(), 0, 2, -1},
		{"from a node alone", apart(), 2, 0, -1},
		{"a node alone to itself", apart(), 2, 2, 0},
		{"a way that goes down and up", netOf(4, netLink{0, 2}, netLink{0, 3}, netLink{1, 2}), 1, 3, 3},
		{"all joined", netOf(6, everyLink(6)...), 2, 5, 1},
	} {
		if got := impl.Dist(r.net, r.a, r.b); got != r.want {
			t.Error(r.name, ":", r.net, "from", r.a, "to", r.b, "are", got, "not", r.want)
		}
	}
}

func TestHopsAndPaths(t *testing.T) {
	for _, r := range []struct {
		name string
		net  impl.Net
		a, b int64
		hop  int64
		path []int64
	}{
		{"to itself", netOf(1), 0, 0, -1, []int64{0}},
		{"to itself, with links", ring(4), 3, 3, -1, []int64{3}},
		{"one link", chain(2), 1, 0, 0, []int64{1, 0}},
		{"a chain", chain(6), 0, 5, 1, []int64{0, 1, 2, 3, 4, 5}},
		{"a chain backwards", chain(6), 5, 0, 4, []int64{5, 4, 3, 2, 1, 0}},
		{"the least of two", ring(4), 0, 2, 1, []int64{0, 1, 2}},
		{"the least of two, backwards", ring(4), 2, 0, 1, []int64{2, 1, 0}},
		{"the least of two, that is last in the links", ring(4), 3, 1, 0, []int64{3, 0, 1}},
		{"not the least that is joined, but one that is nearer", netOf(4, netLink{0, 2}, netLink{1, 2}, netLink{2, 3}), 2, 3, 3, []int64{2, 3}},
		{"over the greater node", netOf(4, netLink{0, 1}, netLink{0, 3}, netLink{2, 3}), 0, 2, 3, []int64{0, 3, 2}},
		{"the least at each step", netOf(6, netLink{0, 2}, netLink{0, 3}, netLink{1, 4}, netLink{1, 5}, netLink{2, 4}, netLink{2, 5}, netLink{3, 4}), 0, 1, 2, []int64{0, 2, 4, 1}},
		{"the straight one of two", ring(3), 0, 2, 2, []int64{0, 2}},
		{"from piece to piece", apart(), 0, 4, -1, nil},
		{"to a node alone", apart(), 0, 2, -1, nil},
		{"from a node alone", apart(), 2, 5, -1, nil},
		{"a node alone to itself", apart(), 2, 2, -1, []int64{2}},
	} {
		if got := impl.NextHop(r.net, r.a, r.b); got != r.hop {
			t.Error(r.name, ":", r.net, "from", r.a, "to", r.b, "goes over", got, "not", r.hop)
		}
		if got := impl.PathBy(r.net, r.a, r.b); !slices.Equal(got, r.path) {
			t.Error(r.name, ":", r.net, "from", r.a, "to", r.b, "is", got, "not", r.path)
		}
	}
}

func TestNodesThatAreNotThere(t *testing.T) {
	for _, n := range []impl.Net{netOf(1), netOf(6), chain(2), chain(6), ring(4), apart(), netOf(5, everyLink(5)...)} {
		for _, none := range []int64{-1, n.Nodes, n.Nodes + 1, -n.Nodes, 64, math.MinInt64, math.MaxInt64} {
			for node := range n.Nodes {
				checkNoWay(t, n, node, none)
				checkNoWay(t, n, none, node)
			}
			checkNoWay(t, n, none, none)
			for node := int64(-1); node <= n.Nodes; node++ {
				for _, ends := range [][2]int64{{none, node}, {node, none}} {
					if got, ok := impl.WithoutLink(n, ends[0], ends[1]); ok || !isNoNet(got) {
						t.Error(n, "without", ends, "is", got, ok)
					}
				}
			}
		}
	}
}

func TestWithoutLink(t *testing.T) {
	four := ring(4)
	for _, r := range []struct {
		name string
		net  impl.Net
		a, b int64
		want impl.Net
		ok   bool
	}{
		{"the first", four, 0, 1, netOf(4, netLink{0, 3}, netLink{1, 2}, netLink{2, 3}), true},
		{"the first, the greater node first", four, 1, 0, netOf(4, netLink{0, 3}, netLink{1, 2}, netLink{2, 3}), true},
		{"one in the middle", four, 1, 2, netOf(4, netLink{0, 1}, netLink{0, 3}, netLink{2, 3}), true},
		{"the last", four, 3, 2, netOf(4, netLink{0, 1}, netLink{0, 3}, netLink{1, 2}), true},
		{"the one that there is", chain(2), 1, 0, netOf(2), true},
		{"one that is not there", four, 0, 2, impl.Net{}, false},
		{"of a node to itself", four, 0, 0, impl.Net{}, false},
		{"of no links", netOf(2), 0, 1, impl.Net{}, false},
		{"of one node", netOf(1), 0, 0, impl.Net{}, false},
	} {
		if got, ok := impl.WithoutLink(r.net, r.a, r.b); ok != r.ok || !sameNet(got, r.want) {
			t.Error(r.name, ":", r.net, "without", r.a, r.b, "is", got, ok, "not", r.want)
		}
	}
	// A link that is gone can't be taken away again.
	n, _ := impl.WithoutLink(four, 0, 1)
	if got, ok := impl.WithoutLink(n, 0, 1); ok || !isNoNet(got) {
		t.Error("taken away twice:", got, ok)
	}
}

func TestWhole(t *testing.T) {
	for _, n := range []impl.Net{netOf(1), chain(2), chain(6), ring(3), ring(6), netOf(6, everyLink(6)...), netOf(3, netLink{0, 2}, netLink{1, 2})} {
		if !impl.Whole(n) {
			t.Error("not whole:", n)
		}
	}
	for _, n := range []impl.Net{
		netOf(2), netOf(6), apart(),
		netOf(3, netLink{0, 1}), netOf(3, netLink{0, 2}), netOf(3, netLink{1, 2}),
		netOf(4, netLink{0, 1}, netLink{2, 3}), netOf(4, netLink{1, 2}, netLink{1, 3}, netLink{2, 3}),
		netOf(6, everyLink(5)...), netOf(6, netLink{0, 1}, netLink{0, 2}, netLink{1, 2}, netLink{3, 4}, netLink{3, 5}, netLink{4, 5}),
	} {
		if impl.Whole(n) {
			t.Error("whole:", n)
		}
	}
}

// A chain without any one link is in two pieces, a ring is whole.
func TestWholeWithoutALink(t *testing.T) {
	for nodes := int64(2); nodes <= 6; nodes++ {
		for _, link := range chain(nodes).Links {
			if n, ok := impl.WithoutLink(chain(nodes), link[1], link[0]); !ok || impl.Whole(n) {
				t.Error("a chain without", link, "is whole:", n, ok)
			}
		}
	}
	for nodes := int64(3); nodes <= 6; nodes++ {
		for _, link := range ring(nodes).Links {
			if n, ok := impl.WithoutLink(ring(nodes), link[0], link[1]); !ok || !impl.Whole(n) {
				t.Error("a ring without", link, "is not whole:", n, ok)
			}
		}
	}
}

func TestNetsMemory(t *testing.T) {
	nets := append([]impl.Net{netOf(6, everyLink(6)...), chain(6), ring(6), apart()}, allNets(4)...)
	for _, n := range append(nets, wrongNets()...) {
		// The room behind the links would join the nodes, if it were looked at.
		given := impl.Net{Nodes: n.Nodes, Links: roomy(n.Links, netLink{4, 5})}
		before := slices.Clone(given.Links[:cap(given.Links)])
		if impl.NetOk(given) != impl.NetOk(n) || impl.Whole(given) != impl.Whole(n) {
			t.Error(n, "hangs on the room behind it")
		}
		for a := int64(-1); a <= 6; a++ {
			for b := int64(-1); b <= 6; b++ {
				if impl.Dist(given, a, b) != impl.Dist(n, a, b) || impl.NextHop(given, a, b) != impl.NextHop(n, a, b) {
					t.Error(n, "from", a, "to", b, "hangs on the room behind it")
				}
				checkNetLists(t, given, a, b)
			}
		}
		if !slices.Equal(given.Links[:cap(given.Links)], before) {
			t.Error("written into the argument:", given.Links[:cap(given.Links)])
		}
	}
}

// checkNetLists calls twice what answers lists.
func checkNetLists(t *testing.T, n impl.Net, a int64, b int64) {
	t.Helper()
	path, again := impl.PathBy(n, a, b), impl.PathBy(n, a, b)
	without, ok := impl.WithoutLink(n, a, b)
	kept := slices.Clone(without.Links)
	second, okToo := impl.WithoutLink(n, a, b)
	if !slices.Equal(path, again) || ok != okToo || !sameNet(without, second) || !slices.Equal(without.Links, kept) {
		t.Error(n, a, b, "answers otherwise when asked again:", path, again, without, second)
	}
	checkApart(t, "nets", []any{path, again, without.Links, second.Links}, []any{n.Links})
}
