package tests

import (
	"math"
	"slices"
	"strings"
	"testing"

	"loop.example/g00384/impl"
)

func reads(core int64) impl.Req { return impl.Req{Core: core, Want: impl.WtRead} }

func writes(core int64) impl.Req { return impl.Req{Core: core, Want: impl.WtWrite} }

func msgOf(t *testing.T, text string) impl.Msg {
	t.Helper()
	m, ok := impl.ReadMsg(text)
	if !ok {
		t.Fatal("no message:", text)
	}
	return m
}

// sameLine: an empty list and nil are the same value.
func sameLine(a impl.Line, b impl.Line) bool {
	return a.Mem == b.Mem && a.Owner == b.Owner && slices.Equal(a.Sharers, b.Sharers) &&
		a.Busy == b.Busy && a.Want == b.Want && a.Acks == b.Acks && slices.Equal(a.Queue, b.Queue)
}

func copyOf(l impl.Line) impl.Line {
	l.Sharers, l.Queue = slices.Clone(l.Sharers), slices.Clone(l.Queue)
	return l
}

// checkHome holds an answer of a home against a line and the texts of its
// messages, parted by semicolons; "-" means that it is refused.
func checkHome(t *testing.T, name any, got impl.Line, told []impl.Msg, ok bool, want impl.Line, texts string) {
	t.Helper()
	if texts == "-" {
		if ok || len(told) != 0 || !sameLine(got, impl.Line{}) {
			t.Error(name, "is not refused, or with more than that:", got, told, ok)
		}
		return
	}
	if said := strings.Join(textsOf(told), ";"); !ok || said != texts {
		t.Errorf("%v: told %q, %v, not %q", name, said, ok, texts)
	}
	if !sameLine(got, want) {
		t.Errorf("%v: %v, not %v", name, got, want)
	}
}

var fiveCores = []int64{1, 2, 3, 4, 5}

// tenWait is a queue of MaxQueue: it is not said that no core is there twice.
func tenWait() []impl.Req {
	return []impl.Req{reads(1), reads(2), reads(3), reads(1), reads(2), reads(3), reads(1), reads(2), reads(3), reads(4)}
}

func TestLineOk(t *testing.T) {
	for _, l := range []impl.Line{
		{},
		{Mem: impl.MaxValue, Owner: impl.MaxCores, Sharers: fiveCores},
		{Owner: 1, Sharers: []int64{1}},
		{Busy: 1, Want: impl.WtRead, Acks: 1},
		{Busy: 5, Want: impl.WtWrite, Acks: impl.MaxCores},
		{Owner: 5, Busy: 5, Want: impl.WtRead, Acks: 1, Queue: []impl.Req{reads(5), writes(5), reads(5)}},
		{Busy: 5, Want: impl.WtWrite, Acks: 1, Queue: tenWait()},
		{Sharers: []int64{}, Queue: []impl.Req{}},
	} {
		if !impl.LineOk(l) {
			t.Error(l, "is not right")
		}
	}
	for _, l := range wrongLines() {
		if impl.LineOk(l) {
			t.Error(l, "is right")
		}
	}
}

// wrongLines have one thing that is not right each.
func wrongLines() []impl.Line {
	busy := impl.Line{Busy: 1, Want: impl.WtWrite, Acks: 1}
	lines := []impl.Line{
		{Want: impl.WtRead}, {Want: impl.WtWrite}, {Want: 3}, {Acks: 1}, {Acks: -1},
		{Queue: []impl.Req{reads(1)}},
		{Busy: 1}, {Busy: 1, Want: impl.WtRead}, {Busy: 1, Acks: 1}, {Want: impl.WtRead, Acks: 1},
	}
	add := func(change func(*impl.Line)) {
		free, at := impl.Line{}, busy
		change(&free)
		change(&at)
		lines = append(lines, free, at)
	}
	for _, mem := range []int64{-1, impl.MaxValue + 1, math.MinInt64, math.MaxInt64} {
		add(func(l *impl.Line) { l.Mem = mem })
	}
	for _, core := range []int64{-1, impl.MaxCores + 1, math.MinInt64, math.MaxInt64} {
		add(func(l *impl.Line) { l.Owner = core })
		add(func(l *impl.Line) { l.Busy = core })
		add(func(l *impl.Line) { l.Want = core })
	}
	for _, acks := range []int64{-1, impl.MaxCores + 1, math.MinInt64, math.MaxInt64} {
		add(func(l *impl.Line) { l.Acks = acks })
	}
	for _, list := range wrongLists {
		add(func(l *impl.Line) { l.Sharers = list })
	}
	for _, r := range []impl.Req{{}, {Core: 1}, {Want: impl.WtRead}, reads(6), writes(-1), {Core: 1, Want: 3}, {Core: 1, Want: -1}} {
		add(func(l *impl.Line) { l.Queue = []impl.Req{r} })
		add(func(l *impl.Line) { l.Queue = []impl.Req{reads(2), r, reads(3)} })
		add(func(l *impl.Line) { l.Queue = append(tenWait()[:9], r) })
	}
	add(func(l *impl.Line) { l.Queue = append(tenWait(), reads(5)) })
	return lines
}

func TestLineNew(t *testing.T) {
	for _, mem := range []int64{0, 1, 7, impl.MaxValue} {
		if l, ok := impl.LineNew(mem); !ok || !sameLine(l, impl.Line{Mem: mem}) {
			t.Error(mem, l, ok)
		}
	}
	for _, mem := range []int64{-1, impl.MaxValue + 1, math.MinInt64, math.MaxInt64} {
		if l, ok := impl.LineNew(mem); ok || !sameLine(l, impl.Line{}) {
			t.Error(mem, l, ok)
		}
	}
}

func TestBegun(t *testing.T) {
	for _, c := range []struct {
		name  string
		line  impl.Line
		at    int64
		req   impl.Req
		next  impl.Line
		texts string
	}{
		{"a read, nobody has it", impl.Line{Mem: 7}, 2, reads(5),
			impl.Line{Mem: 7, Sharers: []int64{5}}, "grant 5 2 1 7"},
		{"a write, nobody has it", impl.Line{Mem: impl.MaxValue}, 3, writes(1),
			impl.Line{Mem: impl.MaxValue, Owner: 1}, "grant 1 3 2 1000000"},
		{"a read among sharers", impl.Line{Mem: 7, Sharers: []int64{1, 4}}, 0, reads(3),
			impl.Line{Mem: 7, Sharers: []int64{1, 3, 4}}, "grant 3 0 1 7"},
		{"a read of one that shares", impl.Line{Mem: 7, Sharers: []int64{1, 4}}, 0, reads(4),
			impl.Line{Mem: 7, Sharers: []int64{1, 4}}, "grant 4 0 1 7"},
		{"a write, others share", impl.Line{Mem: 7, Sharers: []int64{1, 3, 5}}, 1, writes(2),
			impl.Line{Mem: 7, Sharers: []int64{1, 3, 5}, Busy: 2, Want: impl.WtWrite, Acks: 3}, "inv 1 1;inv 3 1;inv 5 1"},
		{"a write of one of the sharers", impl.Line{Mem: 7, Sharers: []int64{1, 3, 5}}, 1, writes(3),
			impl.Line{Mem: 7, Sharers: []int64{1, 3, 5}, Busy: 3, Want: impl.WtWrite, Acks: 2}, "inv 1 1;inv 5 1"},
		{"a write of one of all", impl.Line{Sharers: fiveCores}, 0, writes(1),
			impl.Line{Sharers: fiveCores, Busy: 1, Want: impl.WtWrite, Acks: 4}, "inv 2 0;inv 3 0;inv 4 0;inv 5 0"},
		{"a write of the only sharer", impl.Line{Mem: 7, Sharers: []int64{3}}, 0, writes(3),
			impl.Line{Mem: 7, Owner: 3}, "grant 3 0 2 7"},
		{"a read, another owns it", impl.Line{Mem: 7, Owner: 4}, 0, reads(1),
			impl.Line{Mem: 7, Owner: 4, Busy: 1, Want: impl.WtRead, Acks: 1}, "fetch 4 0 1"},
		{"a write, another owns it", impl.Line{Mem: 7, Owner: 4}, 0, writes(1),
			impl.Line{Mem: 7, Owner: 4, Busy: 1, Want: impl.WtWrite, Acks: 1}, "fetch 4 0 2"},
		{"an owner beside sharers is asked alone", impl.Line{Owner: 4, Sharers: []int64{2, 3}}, 0, writes(2),
			impl.Line{Owner: 4, Sharers: []int64{2, 3}, Busy: 2, Want: impl.WtWrite, Acks: 1}, "fetch 4 0 2"},
		{"a read of the owner", impl.Line{Owner: 4}, 0, reads(4), impl.Line{}, "-"},
		{"a write of the owner", impl.Line{Owner: 4}, 0, writes(4), impl.Line{}, "-"},
		{"busy", impl.Line{Busy: 1, Want: impl.WtWrite, Acks: 1}, 0, reads(2), impl.Line{}, "-"},
		{"no line", impl.Line{}, impl.MaxLines, reads(2), impl.Line{}, "-"},
		{"no line below", impl.Line{}, -1, reads(2), impl.Line{}, "-"},
		{"no core", impl.Line{}, 0, reads(0), impl.Line{}, "-"},
		{"no core above", impl.Line{}, 0, reads(impl.MaxCores + 1), impl.Line{}, "-"},
		{"no want", impl.Line{}, 0, impl.Req{Core: 1}, impl.Line{}, "-"},
		{"no want above", impl.Line{}, 0, impl.Req{Core: 1, Want: 3}, impl.Line{}, "-"},
	} {
		got, told, ok := impl.Begun(c.line, c.at, c.req)
		checkHome(t, c.name, got, told, ok, c.next, c.texts)
	}
	for _, l := range wrongLines() {
		got, told, ok := impl.Begun(l, 0, reads(5))
		checkHome(t, l, got, told, ok, impl.Line{}, "-")
	}
}

// homeCases are lines, messages that come, and what is then.
var homeCases = []struct {
	line  impl.Line
	text  string
	next  impl.Line
	texts string
}{
	// Requests at a line that is not busy.
	{impl.Line{Mem: 7}, "read 2 3", impl.Line{Mem: 7, Sharers: []int64{2}}, "grant 2 3 1 7"},
	{impl.Line{Mem: 7, Sharers: []int64{2}}, "write 2 3", impl.Line{Mem: 7, Owner: 2}, "grant 2 3 2 7"},
	{impl.Line{Sharers: []int64{2, 4}}, "write 1 3", impl.Line{Sharers: []int64{2, 4}, Busy: 1, Want: impl.WtWrite, Acks: 2}, "inv 2 3;inv 4 3"},
	{impl.Line{Owner: 4}, "read 1 3", impl.Line{Owner: 4, Busy: 1, Want: impl.WtRead, Acks: 1}, "fetch 4 3 1"},
	{impl.Line{Owner: 4}, "read 4 3", impl.Line{}, "-"},
	{impl.Line{Owner: 4}, "write 4 3", impl.Line{}, "-"},

	// Requests at a busy line: they wait, an owner's too.
	{impl.Line{Owner: 4, Busy: 1, Want: impl.WtRead, Acks: 1}, "read 2 0",
		impl.Line{Owner: 4, Busy: 1, Want: impl.WtRead, Acks: 1, Queue: []impl.Req{reads(2)}}, ""},
	{impl.Line{Owner: 4, Busy: 1, Want: impl.WtRead, Acks: 1, Queue: []impl.Req{reads(2)}}, "write 4 0",
		impl.Line{Owner: 4, Busy: 1, Want: impl.WtRead, Acks: 1, Queue: []impl.Req{reads(2), writes(4)}}, ""},
	{impl.Line{Busy: 1, Want: impl.WtWrite, Acks: 2, Sharers: []int64{2, 3}}, "write 2 0",
		impl.Line{Busy: 1, Want: impl.WtWrite, Acks: 2, Sharers: []int64{2, 3}, Queue: []impl.Req{writes(2)}}, ""},
	{impl.Line{Busy: 1, Want: impl.WtWrite, Acks: 2}, "read 1 0", impl.Line{}, "-"},
	{impl.Line{Busy: 1, Want: impl.WtWrite, Acks: 2}, "write 1 0", impl.Line{}, "-"},
	{impl.Line{Busy: 1, Want: impl.WtWrite, Acks: 2, Queue: []impl.Req{reads(2), writes(3)}}, "read 2 0", impl.Line{}, "-"},
	{impl.Line{Busy: 1, Want: impl.WtWrite, Acks: 2, Queue: []impl.Req{reads(2), writes(3)}}, "write 2 0", impl.Line{}, "-"},
	{impl.Line{Busy: 1, Want: impl.WtWrite, Acks: 2, Queue: []impl.Req{reads(2), writes(3)}}, "read 3 0", impl.Line{}, "-"},
	{impl.Line{Busy: 5, Want: impl.WtWrite, Acks: 2, Queue: tenWait()[:9]}, "read 4 0",
		impl.Line{Busy: 5, Want: impl.WtWrite, Acks: 2, Queue: tenWait()}, ""},
	{impl.Line{Busy: 1, Want: impl.WtWrite, Acks: 2, Queue: tenWait()}, "read 5 0", impl.Line{}, "-"},

	// A put is taken from an owner while the line is not busy, and always done.
	{impl.Line{Mem: 7, Owner: 2}, "put 2 1 30", impl.Line{Mem: 30}, "done 2 1"},
	{impl.Line{Mem: 7, Owner: 2, Sharers: []int64{2, 3}}, "put 2 1 0", impl.Line{Sharers: []int64{2, 3}}, "done 2 1"},
	{impl.Line{Mem: 7, Owner: 2}, "put 3 1 30", impl.Line{Mem: 7, Owner: 2}, "done 3 1"},
	{impl.Line{Mem: 7, Sharers: []int64{3}}, "put 3 1 30", impl.Line{Mem: 7, Sharers: []int64{3}}, "done 3 1"},
	{impl.Line{Mem: 7, Owner: 2, Busy: 1, Want: impl.WtRead, Acks: 1, Queue: []impl.Req{reads(3)}}, "put 2 1 30",
		impl.Line{Mem: 7, Owner: 2, Busy: 1, Want: impl.WtRead, Acks: 1, Queue: []impl.Req{reads(3)}}, "done 2 1"},
	{impl.Line{Mem: 7, Sharers: []int64{4}, Busy: 1, Want: impl.WtWrite, Acks: 1}, "put 2 1 30",
		impl.Line{Mem: 7, Sharers: []int64{4}, Busy: 1, Want: impl.WtWrite, Acks: 1}, "done 2 1"},

	// An ack.
	{impl.Line{Mem: 7}, "ack 2 0", impl.Line{}, "-"},
	{impl.Line{Mem: 7, Owner: 2}, "ack 2 0", impl.Line{}, "-"},
	{impl.Line{Mem: 7, Owner: 2, Busy: 1, Want: impl.WtWrite, Acks: 1}, "ack 2 0", impl.Line{}, "-"},
	{impl.Line{Mem: 7, Owner: 2, Busy: 1, Want: impl.WtRead, Acks: 1}, "ack 2 0", impl.Line{}, "-"},
	{impl.Line{Mem: 7, Busy: 1, Want: impl.WtRead, Acks: 1}, "ack 2 0", impl.Line{}, "-"},
	{impl.Line{Mem: 7, Sharers: fiveCores, Busy: 1, Want: impl.WtWrite, Acks: 5, Queue: []impl.Req{reads(3)}}, "ack 2 0",
		impl.Line{Mem: 7, Sharers: fiveCores, Busy: 1, Want: impl.WtWrite, Acks: 4, Queue: []impl.Req{reads(3)}}, ""},
	{impl.Line{Mem: 7, Sharers: []int64{2, 3}, Busy: 1, Want: impl.WtWrite, Acks: 2}, "ack 2 0",
		impl.Line{Mem: 7, Sharers: []int64{2, 3}, Busy: 1, Want: impl.WtWrite, Acks: 1}, ""},
	{impl.Line{Mem: 7, Sharers: []int64{2, 3}, Busy: 1, Want: impl.WtWrite, Acks: 1}, "ack 3 0", impl.Line{Mem: 7, Owner: 1}, "grant 1 0 2 7"},

	// Data.
	{impl.Line{Mem: 7}, "data 2 0 30", impl.Line{}, "-"},
	{impl.Line{Mem: 7, Owner: 2}, "data 2 0 30", impl.Line{}, "-"},
	{impl.Line{Mem: 7, Owner: 2, Busy: 1, Want: impl.WtRead, Acks: 1}, "data 3 0 30", impl.Line{}, "-"},
	{impl.Line{Mem: 7, Owner: 2, Busy: 1, Want: impl.WtRead, Acks: 1}, "data 1 0 30", impl.Line{}, "-"},
	{impl.Line{Mem: 7, Busy: 1, Want: impl.WtWrite, Acks: 1}, "data 2 0 30", impl.Line{}, "-"},
	{impl.Line{Mem: 7, Owner: 2, Busy: 1, Want: impl.WtRead, Acks: 1}, "data 2 0 30",
		impl.Line{Mem: 30, Sharers: []int64{1, 2}}, "grant 1 0 1 30"},
	{impl.Line{Mem: 7, Owner: 2, Busy: 1, Want: impl.WtWrite, Acks: 1}, "data 2 0 30",
		impl.Line{Mem: 30, Owner: 1}, "grant 1 0 2 30"},
	{impl.Line{Mem: 7, Owner: 2, Sharers: []int64{3, 4}, Busy: 5, Want: impl.WtRead, Acks: 1}, "data 2 0 0",
		impl.Line{Sharers: []int64{2, 5}}, "grant 5 0 1 0"},
	{impl.Line{Mem: 7, Owner: 2, Busy: 1, Want: impl.WtRead, Acks: 3}, "data 2 0 30",
		impl.Line{Mem: 30, Sharers: []int64{1, 2}}, "grant 1 0 1 30"},
	{impl.Line{Mem: 7, Owner: 2, Busy: 2, Want: impl.WtRead, Acks: 1}, "data 2 0 30",
		impl.Line{Mem: 30, Sharers: []int64{2}}, "grant 2 0 1 30"},

	// What waits is begun in its order behind a grant.
	{impl.Line{Mem: 7, Sharers: []int64{3}, Busy: 1, Want: impl.WtWrite, Acks: 1, Queue: []impl.Req{reads(4), writes(2), reads(5)}}, "ack 3 2",
		impl.Line{Mem: 7, Owner: 1, Busy: 4, Want: impl.WtRead, Acks: 1, Queue: []impl.Req{writes(2), reads(5)}}, "grant 1 2 2 7;fetch 1 2 1"},
	{impl.Line{Mem: 7, Owner: 2, Busy: 1, Want: impl.WtRead, Acks: 1, Queue: []impl.Req{reads(3), reads(5), writes(4), reads(1)}}, "data 2 0 30",
		impl.Line{Mem: 30, Sharers: []int64{1, 2, 3, 5}, Busy: 4, Want: impl.WtWrite, Acks: 4, Queue: []impl.Req{reads(1)}},
		"grant 1 0 1 30;grant 3 0 1 30;grant 5 0 1 30;inv 1 0;inv 2 0;inv 3 0;inv 5 0"},
	{impl.Line{Mem: 7, Owner: 2, Busy: 1, Want: impl.WtRead, Acks: 1, Queue: []impl.Req{reads(5), reads(4), reads(3), reads(2)}}, "data 2 0 30",
		impl.Line{Mem: 30, Sharers: fiveCores}, "grant 1 0 1 30;grant 5 0 1 30;grant 4 0 1 30;grant 3 0 1 30;grant 2 0 1 30"},
	{impl.Line{Mem: 7, Owner: 2, Busy: 1, Want: impl.WtRead, Acks: 1, Queue: []impl.Req{writes(2)}}, "data 2 0 30",
		impl.Line{Mem: 30, Sharers: []int64{1, 2}, Busy: 2, Want: impl.WtWrite, Acks: 1}, "grant 1 0 1 30;inv 1 0"},
	{impl.Line{Mem: 7, Owner: 2, Busy: 1, Want: impl.WtWrite, Acks: 1, Queue: []impl.Req{writes(3), writes(4)}}, "data 2 0 30",
		impl.Line{Mem: 30, Owner: 1, Busy: 3, Want: impl.WtWrite, Acks: 1, Queue: []impl.Req{writes(4)}}, "grant 1 0 2 30;fetch 1 0 2"},
	{impl.Line{Owner: 5, Busy: 5, Want: impl.WtRead, Acks: 1, Queue: tenWait()}, "data 5 0 1",
		impl.Line{Mem: 1, Sharers: fiveCores},
		"grant 5 0 1 1;grant 1 0 1 1;grant 2 0 1 1;grant 3 0 1 1;grant 1 0 1 1;grant 2 0 1 1;grant 3 0 1 1;grant 1 0 1 1;grant 2 0 1 1;grant 3 0 1 1;grant 4 0 1 1"},

	// What waits can't be begun: its core was just made the owner.
	{impl.Line{Busy: 1, Want: impl.WtWrite, Acks: 1, Queue: []impl.Req{reads(1)}}, "ack 2 0", impl.Line{}, "-"},
	{impl.Line{Owner: 2, Busy: 1, Want: impl.WtWrite, Acks: 1, Queue: []impl.Req{writes(1), reads(3)}}, "data 2 0 4", impl.Line{}, "-"},
	{impl.Line{Busy: 1, Want: impl.WtWrite, Acks: 2, Queue: []impl.Req{reads(1)}}, "ack 2 0",
		impl.Line{Busy: 1, Want: impl.WtWrite, Acks: 1, Queue: []impl.Req{reads(1)}}, ""},

	// What is from the home is none of its own.
	{impl.Line{Mem: 7}, "inv 1 0", impl.Line{}, "-"},
	{impl.Line{Mem: 7, Owner: 1}, "fetch 1 0 1", impl.Line{}, "-"},
	{impl.Line{Mem: 7, Busy: 1, Want: impl.WtWrite, Acks: 1}, "grant 1 0 2 7", impl.Line{}, "-"},
	{impl.Line{Mem: 7, Owner: 1}, "done 1 0", impl.Line{}, "-"},
}

func TestHomeGot(t *testing.T) {
	for _, c := range homeCases {
		got, told, ok := impl.HomeGot(c.line, msgOf(t, c.text))
		checkHome(t, [2]any{c.line, c.text}, got, told, ok, c.next, c.texts)
	}
}

func TestHomeGotWrongThings(t *testing.T) {
	for _, l := range wrongLines() {
		for _, text := range []string{"read 2 0", "write 2 0", "put 2 0 5", "ack 2 0", "data 2 0 5"} {
			got, told, ok := impl.HomeGot(l, msgOf(t, text))
			checkHome(t, [2]any{l, text}, got, told, ok, impl.Line{}, "-")
		}
	}
	right := 0
	lines := []impl.Line{{}, {Owner: 1, Busy: 2, Want: impl.WtRead, Acks: 1}, {Busy: 2, Want: impl.WtWrite, Acks: 1}}
	for _, m := range messagesAround() {
		for _, l := range lines {
			got, told, ok := impl.HomeGot(l, m)
			if rightBy(m) && m.From != impl.Home {
				right++
				continue
			}
			checkHome(t, [2]any{l, m}, got, told, ok, impl.Line{}, "-")
		}
	}
	if right == 0 {
		t.Error("no message is right")
	}
}

// beginBy says in the document's words what Begun answers of right things; a
// queue stays where it is.
func beginBy(l impl.Line, line int64, r impl.Req) (impl.Line, []impl.Msg, bool) {
	if l.Owner == r.Core {
		return impl.Line{}, nil, false
	}
	var told []impl.Msg
	if l.Owner > 0 {
		told = append(told, impl.Msg{Kind: impl.MsFetch, To: l.Owner, Line: line, Want: r.Want})
	} else if r.Want == impl.WtWrite {
		for _, id := range l.Sharers {
			if id != r.Core {
				told = append(told, impl.Msg{Kind: impl.MsInv, To: id, Line: line})
			}
		}
	}
	if len(told) == 0 {
		l, m := grantBy(l, line, r)
		return l, []impl.Msg{m}, true
	}
	l.Busy, l.Want, l.Acks = r.Core, r.Want, int64(len(told))
	return l, told, true
}

func grantBy(l impl.Line, line int64, r impl.Req) (impl.Line, impl.Msg) {
	if r.Want == impl.WtWrite {
		l.Owner, l.Sharers = r.Core, nil
	} else if !slices.Contains(l.Sharers, r.Core) {
		l.Sharers = append(slices.Clone(l.Sharers), r.Core)
		slices.Sort(l.Sharers)
	}
	l.Busy, l.Want, l.Acks = 0, 0, 0
	return l, impl.Msg{Kind: impl.MsGrant, To: r.Core, Line: line, Want: r.Want, Data: l.Mem}
}

// goOnBy grants what is busy and begins what waits behind it.
func goOnBy(l impl.Line, line int64) (impl.Line, []impl.Msg, bool) {
	l, m := grantBy(l, line, impl.Req{Core: l.Busy, Want: l.Want})
	told := []impl.Msg{m}
	for l.Busy == 0 && len(l.Queue) > 0 {
		first := l.Queue[0]
		l.Queue = slices.Clone(l.Queue[1:])
		next, more, ok := beginBy(l, line, first)
		if !ok {
			return impl.Line{}, nil, false
		}
		l, told = next, append(told, more...)
	}
	return l, told, true
}

// homeBy says in the document's words what HomeGot answers of right things.
func homeBy(l impl.Line, m impl.Msg) (impl.Line, []impl.Msg, bool) {
	busy := l.Busy != 0
	no := func() (impl.Line, []impl.Msg, bool) { return impl.Line{}, nil, false }
	switch m.Kind {
	case impl.MsRead, impl.MsWrite:
		r := reads(m.From)
		if m.Kind == impl.MsWrite {
			r = writes(m.From)
		}
		if !busy {
			return beginBy(l, m.Line, r)
		}
		for _, other := range l.Queue {
			if other.Core == m.From {
				return no()
			}
		}
		if l.Busy == m.From || len(l.Queue) == impl.MaxQueue {
			return no()
		}
		l.Queue = append(slices.Clone(l.Queue), r)
		return l, nil, true
	case impl.MsPut:
		if l.Owner == m.From && !busy {
			l.Mem, l.Owner = m.Data, 0
		}
		return l, []impl.Msg{{Kind: impl.MsDone, To: m.From, Line: m.Line}}, true
	case impl.MsAck:
		if !busy || l.Owner != 0 || l.Want == impl.WtRead {
			return no()
		}
		if l.Acks > 1 {
			l.Acks = l.Acks - 1
			return l, nil, true
		}
		return goOnBy(l, m.Line)
	case impl.MsData:
		if !busy || l.Owner != m.From {
			return no()
		}
		l.Mem, l.Owner, l.Sharers = m.Data, 0, nil
		if l.Want == impl.WtRead {
			l.Sharers = []int64{m.From}
		}
		return goOnBy(l, m.Line)
	}
	return no()
}

// someQueues: nobody, each request alone, pairs of them, and longer ones.
func someQueues() [][]impl.Req {
	all := []impl.Req{reads(1), writes(1), reads(2), writes(2), reads(5), writes(5)}
	queues := [][]impl.Req{nil}
	for _, a := range all {
		queues = append(queues, []impl.Req{a})
		for _, b := range all {
			queues = append(queues, []impl.Req{a, b})
		}
	}
	return append(queues,
		[]impl.Req{reads(3), reads(4), reads(5), writes(2), reads(1)},
		[]impl.Req{reads(4), reads(4), writes(4), writes(4)},
		tenWait()[:9],
		tenWait())
}

// someLines are right lines of all kinds, such too as no machine comes to.
func someLines() []impl.Line {
	var lines []impl.Line
	for owner := int64(0); owner <= impl.MaxCores; owner++ {
		for _, sharers := range rightLists() {
			lines = append(lines, impl.Line{Mem: 7, Owner: owner, Sharers: sharers})
		}
		for _, sharers := range [][]int64{nil, {2}, {1, 3, 4}, fiveCores} {
			for _, queue := range someQueues() {
				for _, acks := range []int64{1, 2, impl.MaxCores} {
					for _, busy := range []int64{1, 2, 5} {
						for _, want := range []int64{impl.WtRead, impl.WtWrite} {
							lines = append(lines, impl.Line{Mem: 7, Owner: owner, Sharers: sharers, Busy: busy, Want: want, Acks: acks, Queue: queue})
						}
					}
				}
			}
		}
	}
	return lines
}

func TestBegunOfAllLines(t *testing.T) {
	for _, l := range someLines() {
		for core := int64(1); core <= impl.MaxCores; core++ {
			for _, r := range []impl.Req{reads(core), writes(core)} {
				got, told, ok := impl.Begun(l, 3, r)
				if l.Busy != 0 {
					checkHome(t, l, got, told, ok, impl.Line{}, "-")
					continue
				}
				want, wantTold, wantOk := beginBy(copyOf(l), 3, r)
				if ok != wantOk || !slices.Equal(told, wantTold) || !sameLine(got, want) {
					t.Error(l, r, "is begun as", got, told, ok)
				}
				checkBegun(t, l, r, got, told, ok)
			}
		}
	}
}

// checkBegun is promise 4: one grant and nobody waits, or all who have to do
// something first are asked, each once, and the line waits for just them.
func checkBegun(t *testing.T, l impl.Line, r impl.Req, got impl.Line, told []impl.Msg, ok bool) {
	t.Helper()
	if !ok {
		if l.Owner != r.Core {
			t.Error(l, r, "is refused")
		}
		return
	}
	var first []int64
	if l.Owner != 0 {
		first = []int64{l.Owner}
	} else if r.Want == impl.WtWrite {
		first = impl.WithoutId(l.Sharers, r.Core)
	}
	if !impl.LineOk(got) {
		t.Error(l, r, "becomes a line that is not right:", got)
	}
	if len(first) == 0 {
		if got.Busy != 0 || len(told) != 1 || told[0].Kind != impl.MsGrant || told[0].To != r.Core {
			t.Error(l, r, "is not granted at once:", got, told)
		}
		return
	}
	var asked []int64
	for _, m := range told {
		asked = append(asked, m.To)
	}
	if !slices.Equal(asked, first) || got.Busy != r.Core || got.Want != r.Want || got.Acks != int64(len(first)) {
		t.Error(l, r, "asks", told, "and is", got)
	}
}

func TestHomeGotOfAllLines(t *testing.T) {
	kinds := []impl.Msg{{Kind: impl.MsRead}, {Kind: impl.MsWrite}, {Kind: impl.MsPut, Data: 30}, {Kind: impl.MsAck}, {Kind: impl.MsData, Data: 30}}
	for _, l := range someLines() {
		for core := int64(1); core <= impl.MaxCores; core++ {
			for _, m := range kinds {
				m.From, m.Line = core, 2
				got, told, ok := impl.HomeGot(l, m)
				want, wantTold, wantOk := homeBy(copyOf(l), m)
				if ok != wantOk || !slices.Equal(told, wantTold) || !sameLine(got, want) {
					t.Fatal(l, m, "is", got, told, ok, "not", want, wantTold, wantOk)
				}
				checkNobodyForgotten(t, l, m, got, told, ok)
			}
		}
	}
}

// checkNobodyForgotten is promise 4: whoever waited, and whoever asks now, is
// granted what it wanted or waits on, in the same order.
func checkNobodyForgotten(t *testing.T, l impl.Line, m impl.Msg, got impl.Line, told []impl.Msg, ok bool) {
	t.Helper()
	if !ok {
		if len(told) != 0 || !sameLine(got, impl.Line{}) {
			t.Error(l, m, "is refused, but", got, told)
		}
		return
	}
	if !impl.LineOk(got) {
		t.Error(l, m, "becomes a line that is not right:", got)
	}
	before := waitersOf(l)
	switch m.Kind {
	case impl.MsRead:
		before = append(before, reads(m.From))
	case impl.MsWrite:
		before = append(before, writes(m.From))
	}
	var after []impl.Req
	for _, m := range told {
		if m.Kind == impl.MsGrant {
			after = append(after, impl.Req{Core: m.To, Want: m.Want})
		}
	}
	after = append(after, waitersOf(got)...)
	if !slices.Equal(before, after) {
		t.Error(l, m, "waited:", before, "then granted or waiting:", after)
	}
}

func waitersOf(l impl.Line) []impl.Req {
	if l.Busy == 0 {
		return nil
	}
	return append([]impl.Req{{Core: l.Busy, Want: l.Want}}, l.Queue...)
}

// A put that crosses a fetch: the home is busy, the put is done without being
// taken, and the data comes by the fetch.
func TestPutCrossesFetch(t *testing.T) {
	l := impl.Line{Mem: 7, Owner: 2}
	for _, step := range []struct{ text, want string }{
		{"read 1 0", "fetch 2 0 1"},
		{"put 2 0 30", "done 2 0"},
		{"read 2 0", ""},
		{"data 2 0 30", "grant 1 0 1 30;grant 2 0 1 30"},
		{"put 2 0 99", "done 2 0"},
	} {
		next, told, ok := impl.HomeGot(l, msgOf(t, step.text))
		if got := strings.Join(textsOf(told), ";"); !ok || got != step.want {
			t.Fatal(l, step.text, got, ok)
		}
		l = next
	}
	if !sameLine(l, impl.Line{Mem: 30, Sharers: []int64{1, 2}}) {
		t.Error(l)
	}
}

// lineRoom is a line whose lists have marked room behind them.
type lineRoom struct {
	line    impl.Line
	sharers []int64
	queue   []impl.Req
}

func roomOf(l impl.Line) lineRoom {
	var room lineRoom
	room.line = l
	room.line.Sharers, room.sharers = withRoom(l.Sharers)
	room.queue = slices.Clone(l.Queue)
	for range 3 {
		room.queue = append(room.queue, impl.Req{Core: spareMark, Want: spareMark})
	}
	room.line.Queue = room.queue[:len(l.Queue)]
	return room
}

func (room lineRoom) same(l impl.Line) bool {
	fresh := roomOf(l)
	return sameLine(room.line, l) && slices.Equal(room.sharers, fresh.sharers) && slices.Equal(room.queue, fresh.queue)
}

// spoil writes over all memory that a line reaches.
func spoil(sharers []int64, queue []impl.Req) {
	sharers, queue = sharers[:cap(sharers)], queue[:cap(queue)]
	for i := range sharers {
		sharers[i] = -spareMark
	}
	for i := range queue {
		queue[i] = impl.Req{Core: -spareMark, Want: -spareMark}
	}
}

// checkLineMemory calls f, and looks whether it wrote into its argument or the
// room behind it, and whether the answer and the argument share memory.
func checkLineMemory(t *testing.T, name any, l impl.Line, f func(impl.Line) (impl.Line, []impl.Msg, bool)) {
	t.Helper()
	room := roomOf(l)
	got, told, ok := f(room.line)
	if !room.same(l) {
		t.Error(name, l, "wrote into its argument:", room)
	}
	answer, answerTold := copyOf(got), slices.Clone(told)
	spoil(room.sharers, room.queue)
	if !sameLine(got, answer) {
		t.Error(name, l, "answers memory of its argument:", got)
	}
	room = roomOf(l)
	got, told, _ = f(room.line)
	spoil(got.Sharers, got.Queue)
	for i := range told {
		told[i] = impl.Msg{}
	}
	if !room.same(l) {
		t.Error(name, l, "answers memory of its argument, or of the room behind it")
	}
	again, againTold, againOk := f(room.line)
	if againOk != ok || !sameLine(again, answer) || !slices.Equal(againTold, answerTold) {
		t.Error(name, l, "answers otherwise when asked again:", again, againTold, againOk)
	}
}

func TestHomesMemory(t *testing.T) {
	for _, c := range homeCases {
		m := msgOf(t, c.text)
		checkLineMemory(t, c.text, c.line, func(l impl.Line) (impl.Line, []impl.Msg, bool) { return impl.HomeGot(l, m) })
	}
	for i, l := range append(someLines(), wrongLines()...) {
		checkLineMemory(t, "LineOk", l, func(l impl.Line) (impl.Line, []impl.Msg, bool) { return impl.Line{}, nil, impl.LineOk(l) })
		core := int64(i%impl.MaxCores) + 1
		for _, r := range []impl.Req{reads(core), writes(core)} {
			checkLineMemory(t, r, l, func(l impl.Line) (impl.Line, []impl.Msg, bool) { return impl.Begun(l, 1, r) })
		}
		for _, m := range []impl.Msg{{Kind: impl.MsRead}, {Kind: impl.MsWrite}, {Kind: impl.MsPut, Data: 3}, {Kind: impl.MsAck}, {Kind: impl.MsData, Data: 3}} {
			for _, m.From = range []int64{core, l.Owner} {
				checkLineMemory(t, m, l, func(l impl.Line) (impl.Line, []impl.Msg, bool) { return impl.HomeGot(l, m) })
			}
		}
	}
}

func TestMaxQueue(t *testing.T) {
	if impl.MaxQueue != 10 || len(tenWait()) != impl.MaxQueue {
		t.Error(impl.MaxQueue)
	}
}
