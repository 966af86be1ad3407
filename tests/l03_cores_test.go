package tests

import (
	"math"
	"slices"
	"testing"

	"loop.example/g00384/impl"
)

// The seven kinds of right slots: each state with each Want that it may have.
var (
	slotNone         = impl.Slot{}
	slotNoneReads    = impl.Slot{Want: impl.WtRead}
	slotNoneWrites   = impl.Slot{Want: impl.WtWrite, Value: 30}
	slotShared       = impl.Slot{State: impl.StShared, Data: 9}
	slotSharedWrites = impl.Slot{State: impl.StShared, Data: 9, Want: impl.WtWrite, Value: 30}
	slotOwned        = impl.Slot{State: impl.StOwned, Data: 9}
	slotLeaving      = impl.Slot{State: impl.StLeaving, Data: 9}
)

var slotKinds = []impl.Slot{
	slotNone, slotNoneReads, slotNoneWrites, slotShared, slotSharedWrites, slotOwned, slotLeaving,
}

// textsOf are the texts of messages, which name all that a right one has.
func textsOf(list []impl.Msg) []string {
	var texts []string
	for _, m := range list {
		texts = append(texts, impl.MsgText(m))
	}
	return texts
}

// coreAnswer is an answer of chapter 3; value is told by Asked alone.
type coreAnswer struct {
	next  impl.Slot
	told  string
	code  int64
	value int64
}

// coreDo is an act of core 2 at line 1: asked, stored (of 44), left, or the
// text of a message that comes to it.
func coreDo(t *testing.T, s impl.Slot, act string) coreAnswer {
	t.Helper()
	var a coreAnswer
	var list []impl.Msg
	switch act {
	case "asked":
		a.next, list, a.code, a.value = impl.Asked(s, 2, 1)
	case "stored":
		a.next, list, a.code = impl.Stored(s, 2, 1, 44)
	case "left":
		a.next, list, a.code = impl.Left(s, 2, 1)
	default:
		m, ok := impl.ReadMsg(act)
		if !ok {
			t.Fatal("no act:", act)
		}
		a.next, list, a.code = impl.CoreGot(s, m)
	}
	if len(list) > 1 {
		t.Error(s, act, "tells more than once:", textsOf(list))
	}
	for _, text := range textsOf(list) {
		a.told = text
		if text == "" {
			t.Error(s, act, "tells a message that is not right:", list)
		}
	}
	return a
}

// coreTable has, for each act, the answers in the order of slotKinds.
var coreTable = []struct {
	act  string
	want [7]coreAnswer
}{
	{"asked", [7]coreAnswer{
		{slotNoneReads, "read 2 1", impl.CoWait, 0},
		{slotNoneReads, "", impl.CoNot, 0},
		{slotNoneWrites, "", impl.CoNot, 0},
		{slotShared, "", impl.CoDone, 9},
		{slotSharedWrites, "", impl.CoDone, 9},
		{slotOwned, "", impl.CoDone, 9},
		{slotLeaving, "", impl.CoNot, 0},
	}},
	{"stored", [7]coreAnswer{
		{impl.Slot{Want: impl.WtWrite, Value: 44}, "write 2 1", impl.CoWait, 0},
		{slotNoneReads, "", impl.CoNot, 0},
		{slotNoneWrites, "", impl.CoNot, 0},
		{impl.Slot{State: impl.StShared, Data: 9, Want: impl.WtWrite, Value: 44}, "write 2 1", impl.CoWait, 0},
		{slotSharedWrites, "", impl.CoNot, 0},
		{impl.Slot{State: impl.StOwned, Data: 44}, "", impl.CoDone, 0},
		{slotLeaving, "", impl.CoNot, 0},
	}},
	{"left", [7]coreAnswer{
		{slotNone, "", impl.CoNot, 0},
		{slotNoneReads, "", impl.CoNot, 0},
		{slotNoneWrites, "", impl.CoNot, 0},
		{slotNone, "", impl.CoDone, 0},
		{slotSharedWrites, "", impl.CoNot, 0},
		{slotLeaving, "put 2 1 9", impl.CoDone, 0},
		{slotLeaving, "", impl.CoNot, 0},
	}},
	{"inv 2 1", [7]coreAnswer{
		{slotNone, "ack 2 1", impl.CoDone, 0},
		{slotNoneReads, "ack 2 1", impl.CoDone, 0},
		{slotNoneWrites, "ack 2 1", impl.CoDone, 0},
		{slotNone, "ack 2 1", impl.CoDone, 0},
		{slotNoneWrites, "ack 2 1", impl.CoDone, 0},
		{slotOwned, "", impl.CoNot, 0},
		{slotLeaving, "ack 2 1", impl.CoDone, 0},
	}},
	{"fetch 2 1 1", [7]coreAnswer{
		{slotNone, "", impl.CoNot, 0},
		{slotNoneReads, "", impl.CoNot, 0},
		{slotNoneWrites, "", impl.CoNot, 0},
		{slotShared, "", impl.CoNot, 0},
		{slotSharedWrites, "", impl.CoNot, 0},
		{slotShared, "data 2 1 9", impl.CoDone, 0},
		{slotLeaving, "data 2 1 9", impl.CoDone, 0},
	}},
	{"fetch 2 1 2", [7]coreAnswer{
		{slotNone, "", impl.CoNot, 0},
		{slotNoneReads, "", impl.CoNot, 0},
		{slotNoneWrites, "", impl.CoNot, 0},
		{slotShared, "", impl.CoNot, 0},
		{slotSharedWrites, "", impl.CoNot, 0},
		{slotNone, "data 2 1 9", impl.CoDone, 0},
		{slotLeaving, "data 2 1 9", impl.CoDone, 0},
	}},
	{"grant 2 1 1 77", [7]coreAnswer{
		{slotNone, "", impl.CoNot, 0},
		{impl.Slot{State: impl.StShared, Data: 77}, "", impl.CoDone, 0},
		{slotNoneWrites, "", impl.CoNot, 0},
		{slotShared, "", impl.CoNot, 0},
		{slotSharedWrites, "", impl.CoNot, 0},
		{slotOwned, "", impl.CoNot, 0},
		{slotLeaving, "", impl.CoNot, 0},
	}},
	{"grant 2 1 2 77", [7]coreAnswer{
		{slotNone, "", impl.CoNot, 0},
		{slotNoneReads, "", impl.CoNot, 0},
		{impl.Slot{State: impl.StOwned, Data: 30}, "", impl.CoDone, 0},
		{slotShared, "", impl.CoNot, 0},
		{impl.Slot{State: impl.StOwned, Data: 30}, "", impl.CoDone, 0},
		{slotOwned, "", impl.CoNot, 0},
		{slotLeaving, "", impl.CoNot, 0},
	}},
	{"done 2 1", [7]coreAnswer{
		{slotNone, "", impl.CoNot, 0},
		{slotNoneReads, "", impl.CoNot, 0},
		{slotNoneWrites, "", impl.CoNot, 0},
		{slotShared, "", impl.CoNot, 0},
		{slotSharedWrites, "", impl.CoNot, 0},
		{slotOwned, "", impl.CoNot, 0},
		{slotNone, "", impl.CoDone, 0},
	}},
}

func TestEveryActInEveryState(t *testing.T) {
	for _, row := range coreTable {
		for i, s := range slotKinds {
			if got := coreDo(t, s, row.act); got != row.want[i] {
				t.Errorf("%v %s: %v, not %v", s, row.act, got, row.want[i])
			}
			if again := coreDo(t, s, row.act); again != row.want[i] {
				t.Errorf("%v %s: %v when asked again", s, row.act, again)
			}
		}
	}
}

// A line that is fetched while it leaves is given, and still leaves: it waits
// for the end of its put, whether that comes ahead of the fetch or behind it.
func TestFetchedWhileLeaving(t *testing.T) {
	for _, fetch := range []string{"fetch 2 1 1", "fetch 2 1 2"} {
		s := coreDo(t, slotOwned, "left").next
		for _, step := range []struct {
			act  string
			want coreAnswer
		}{
			{fetch, coreAnswer{slotLeaving, "data 2 1 9", impl.CoDone, 0}},
			{"asked", coreAnswer{slotLeaving, "", impl.CoNot, 0}},
			{"stored", coreAnswer{slotLeaving, "", impl.CoNot, 0}},
			{"left", coreAnswer{slotLeaving, "", impl.CoNot, 0}},
			{"inv 2 1", coreAnswer{slotLeaving, "ack 2 1", impl.CoDone, 0}},
			{"done 2 1", coreAnswer{slotNone, "", impl.CoDone, 0}},
			{fetch, coreAnswer{slotNone, "", impl.CoNot, 0}},
		} {
			got := coreDo(t, s, step.act)
			if got != step.want {
				t.Errorf("%v %s: %v, not %v", s, step.act, got, step.want)
			}
			s = got.next
		}
	}
}

// slotsAround are all slots with fields from one below what they may be to
// one above, and far out.
func slotsAround() []impl.Slot {
	values := []int64{math.MinInt64, -1, 0, 1, impl.MaxValue, impl.MaxValue + 1, math.MaxInt64}
	marks := []int64{math.MinInt64, -1, 0, 1, 2, 3, 4, 256, math.MaxInt64}
	var slots []impl.Slot
	for _, state := range marks {
		for _, data := range values {
			for _, want := range marks {
				for _, value := range values {
					slots = append(slots, impl.Slot{State: state, Data: data, Want: want, Value: value})
				}
			}
		}
	}
	return slots
}

func valueBy(v int64) bool { return 0 <= v && v <= 1000000 }

// slotRightBy says in the document's words whether a slot is right.
func slotRightBy(s impl.Slot) bool {
	var state, want, value bool
	switch s.State {
	case impl.StInvalid:
		state = s.Data == 0
	case impl.StShared, impl.StOwned, impl.StLeaving:
		state = valueBy(s.Data)
	}
	invalid, shared := s.State == impl.StInvalid, s.State == impl.StShared
	want = s.Want == impl.WtNone ||
		s.Want == impl.WtRead && invalid ||
		s.Want == impl.WtWrite && (invalid || shared)
	value = valueBy(s.Value) && (s.Value == 0 || s.Want == impl.WtWrite)
	return state && want && value
}

func TestSlotOk(t *testing.T) {
	for _, s := range slotKinds {
		if !impl.SlotOk(s) {
			t.Error(s, "is not right")
		}
	}
	for _, s := range []impl.Slot{
		{Data: 1},
		{Value: 1},
		{Want: impl.WtRead, Value: 1},
		{State: impl.StShared, Want: impl.WtRead},
		{State: impl.StOwned, Want: impl.WtRead},
		{State: impl.StOwned, Want: impl.WtWrite},
		{State: impl.StLeaving, Want: impl.WtRead},
		{State: impl.StLeaving, Want: impl.WtWrite},
		{State: impl.StShared, Data: impl.MaxValue + 1},
		{State: impl.StShared, Value: 1},
		{State: 4},
		{State: -1},
		{Want: 3},
		{Want: -1},
	} {
		if impl.SlotOk(s) {
			t.Error(s, "is right")
		}
	}
	right := 0
	for _, s := range slotsAround() {
		if impl.SlotOk(s) != slotRightBy(s) {
			t.Error(s, "should be right:", slotRightBy(s))
		}
		if slotRightBy(s) {
			right++
		}
	}
	if right == 0 {
		t.Error("no slot is right")
	}
}

// Cores, lines and values at their limits and past them.
var (
	coresAround  = []int64{math.MinInt64, -1, 0, 1, 2, impl.MaxCores, impl.MaxCores + 1, 64, math.MaxInt64}
	linesAround  = []int64{math.MinInt64, -1, 0, 1, impl.MaxLines - 1, impl.MaxLines, math.MaxInt64}
	valuesAround = []int64{math.MinInt64, -1, 0, 1, impl.MaxValue, impl.MaxValue + 1, math.MaxInt64}
)

// checkFirst holds an answer against the refusals that come ahead of all
// others, and answers whether one of them was due.
func checkFirst(t *testing.T, s impl.Slot, formOk bool, next impl.Slot, told []impl.Msg, code int64) bool {
	t.Helper()
	wantSlot, wantCode := s, int64(impl.CoForm)
	switch {
	case !slotRightBy(s):
		wantSlot, wantCode = impl.Slot{}, impl.CoWrong
	case formOk:
		if code == impl.CoWrong || code == impl.CoForm {
			t.Error(s, "is refused with", code)
		}
		if code == impl.CoNot && (next != s || len(told) != 0) {
			t.Error(s, "is refused, but", next, told)
		}
		if !impl.SlotOk(next) {
			t.Error(s, "becomes a slot that is not right:", next)
		}
		return false
	}
	if next != wantSlot || len(told) != 0 || code != wantCode {
		t.Error(s, "form", formOk, "is answered with", next, told, code)
	}
	return true
}

// Each slot, right or not, with each core, line and value, there or not: the
// slot is looked at first, then the numbers, and only then the state.
func TestRefusalsOfActsInTheirOrder(t *testing.T) {
	for _, s := range append(slotsAround(), slotKinds...) {
		for _, core := range coresAround {
			for _, line := range linesAround {
				formOk := core >= 1 && core <= 5 && line >= 0 && line <= 3
				next, told, code, value := impl.Asked(s, core, line)
				first := checkFirst(t, s, formOk, next, told, code)
				if (first || code != impl.CoDone) && value != 0 {
					t.Error(s, core, line, "has the value", value)
				}
				next, told, code = impl.Left(s, core, line)
				checkFirst(t, s, formOk, next, told, code)
			}
		}
	}
	for _, s := range append(slotsAround(), slotKinds...) {
		for _, core := range coresAround {
			for _, value := range valuesAround {
				formOk := core >= 1 && core <= 5 && valueBy(value)
				next, told, code := impl.Stored(s, core, 3, value)
				checkFirst(t, s, formOk, next, told, code)
				next, told, code = impl.Stored(s, core, 4, value)
				checkFirst(t, s, false, next, told, code)
			}
		}
	}
}

// messagesAround are messages with all fields at their limits and past them.
func messagesAround() []impl.Msg {
	var list []impl.Msg
	ends := []int64{-1, 0, 1, impl.MaxCores, impl.MaxCores + 1}
	datas := []int64{-1, 0, 1, impl.MaxValue, impl.MaxValue + 1}
	for kind := int64(-1); kind <= impl.MsDone+1; kind++ {
		for _, from := range ends {
			for _, to := range ends {
				for _, line := range []int64{-1, 0, impl.MaxLines - 1, impl.MaxLines} {
					for want := int64(-1); want <= 3; want++ {
						for _, data := range datas {
							list = append(list, impl.Msg{Kind: kind, From: from, To: to, Line: line, Want: want, Data: data})
						}
					}
				}
			}
		}
	}
	return list
}

func TestRefusalsOfMessagesInTheirOrder(t *testing.T) {
	wrong := []impl.Slot{{State: 9}, {Data: 1}, {State: impl.StOwned, Want: impl.WtWrite}}
	for _, m := range messagesAround() {
		formOk := rightBy(m) && m.From == impl.Home
		for _, s := range append(wrong, slotKinds...) {
			next, told, code := impl.CoreGot(s, m)
			checkFirst(t, s, formOk, next, told, code)
		}
	}
	for _, s := range slotsAround() {
		for _, text := range []string{"inv 5 3", "fetch 1 0 1", "fetch 1 0 2", "grant 5 0 1 1000000", "grant 1 3 2 0", "done 1 0", "read 1 0", "data 5 3 1000000"} {
			m, _ := impl.ReadMsg(text)
			next, told, code := impl.CoreGot(s, m)
			checkFirst(t, s, m.From == impl.Home, next, told, code)
		}
	}
}

// rightSlots are right slots of all kinds, their numbers at the limits too.
func rightSlots() []impl.Slot {
	var slots []impl.Slot
	for _, s := range append(slotsAround(), slotKinds...) {
		if slotRightBy(s) {
			slots = append(slots, s)
		}
	}
	return slots
}

// Promise 3, of acts: who has a line reads it, who owns it writes it at once;
// who does not asks once.
func TestReadsAndWritesAtOnceOrAsksOnce(t *testing.T) {
	for _, s := range rightSlots() {
		for core := int64(1); core <= impl.MaxCores; core++ {
			for line := int64(0); line < impl.MaxLines; line++ {
				checkAsked(t, s, core, line)
				for _, value := range []int64{0, 1, impl.MaxValue} {
					checkStored(t, s, core, line, value)
				}
			}
		}
	}
}

func checkAsked(t *testing.T, s impl.Slot, core int64, line int64) {
	t.Helper()
	next, told, code, value := impl.Asked(s, core, line)
	switch {
	case s.State == impl.StShared || s.State == impl.StOwned:
		if next != s || len(told) != 0 || code != impl.CoDone || value != s.Data {
			t.Error(s, "is not read at once:", next, told, code, value)
		}
	case code == impl.CoWait:
		want := impl.Msg{Kind: impl.MsRead, From: core, Line: line}
		if s != slotNone || next != slotNoneReads || !slices.Equal(told, []impl.Msg{want}) || value != 0 {
			t.Error(s, "asks wrongly:", next, told, value)
		}
		checkAsksNoMore(t, next, core, line)
	default:
		if s == slotNone || code != impl.CoNot {
			t.Error(s, "does not ask:", code)
		}
	}
}

func checkStored(t *testing.T, s impl.Slot, core int64, line int64, value int64) {
	t.Helper()
	next, told, code := impl.Stored(s, core, line, value)
	switch {
	case s.State == impl.StOwned:
		if next != (impl.Slot{State: impl.StOwned, Data: value}) || len(told) != 0 || code != impl.CoDone {
			t.Error(s, "is not written at once:", next, told, code)
		}
		if _, _, code, read := impl.Asked(next, core, line); code != impl.CoDone || read != value {
			t.Error(s, "reads", read, "not", value)
		}
	case code == impl.CoWait:
		want := impl.Msg{Kind: impl.MsWrite, From: core, Line: line}
		wish := impl.Slot{State: s.State, Data: s.Data, Want: impl.WtWrite, Value: value}
		if s.Want != impl.WtNone || next != wish || !slices.Equal(told, []impl.Msg{want}) {
			t.Error(s, "asks wrongly:", next, told)
		}
		checkAsksNoMore(t, next, core, line)
	default:
		if code != impl.CoNot || s.Want == impl.WtNone && s.State != impl.StLeaving {
			t.Error(s, "does not ask:", code)
		}
	}
}

// checkAsksNoMore: a core that waits tells the home nothing more of itself.
func checkAsksNoMore(t *testing.T, s impl.Slot, core int64, line int64) {
	t.Helper()
	if next, told, code, _ := impl.Asked(s, core, line); next != s || len(told) != 0 || code == impl.CoWait {
		t.Error(s, "asks again to read:", next, told, code)
	}
	if next, told, code := impl.Stored(s, core, line, 3); next != s || len(told) != 0 || code != impl.CoNot {
		t.Error(s, "asks again to write:", next, told, code)
	}
	if next, told, code := impl.Left(s, core, line); next != s || len(told) != 0 || code != impl.CoNot {
		t.Error(s, "leaves while it waits:", next, told, code)
	}
}

// Promise 3, of messages: an invalidation is told to be done whoever gets it,
// but an owner; what is fetched from who has it is given.
func TestDoneIsToldAndFetchedIsGiven(t *testing.T) {
	for _, s := range rightSlots() {
		for core := int64(1); core <= impl.MaxCores; core++ {
			for line := int64(0); line < impl.MaxLines; line++ {
				inv := impl.Msg{Kind: impl.MsInv, To: core, Line: line}
				next, told, code := impl.CoreGot(s, inv)
				ack := impl.Msg{Kind: impl.MsAck, From: core, Line: line}
				if s.State != impl.StOwned && (code != impl.CoDone || !slices.Equal(told, []impl.Msg{ack}) || next.State == impl.StShared || next.Want != s.Want || next.Value != s.Value) {
					t.Error(s, "invalidated is", next, told, code)
				}
				for _, want := range []int64{impl.WtRead, impl.WtWrite} {
					checkFetched(t, s, impl.Msg{Kind: impl.MsFetch, To: core, Line: line, Want: want})
				}
			}
		}
	}
}

func checkFetched(t *testing.T, s impl.Slot, m impl.Msg) {
	t.Helper()
	next, told, code := impl.CoreGot(s, m)
	if s.State != impl.StOwned && s.State != impl.StLeaving {
		if code != impl.CoNot {
			t.Error(s, "has nothing to give, and gives", told, code)
		}
		return
	}
	data := impl.Msg{Kind: impl.MsData, From: m.To, Line: m.Line, Data: s.Data}
	if code != impl.CoDone || !slices.Equal(told, []impl.Msg{data}) {
		t.Error(s, "fetched gives", told, code)
	}
	want := impl.Slot{}
	if s.State == impl.StLeaving {
		want = s
	} else if m.Want == impl.WtRead {
		want = impl.Slot{State: impl.StShared, Data: s.Data}
	}
	if next != want {
		t.Error(s, "fetched is", next, "not", want)
	}
}

// What is granted is had: a read has the data that came, a write its own value.
func TestGrantedAtTheLimits(t *testing.T) {
	for _, data := range []int64{0, 1, impl.MaxValue} {
		read := impl.Msg{Kind: impl.MsGrant, To: 5, Line: 3, Want: impl.WtRead, Data: data}
		if next, told, code := impl.CoreGot(slotNoneReads, read); next != (impl.Slot{State: impl.StShared, Data: data}) || len(told) != 0 || code != impl.CoDone {
			t.Error(data, "is granted as", next, told, code)
		}
		for _, value := range []int64{0, 1, impl.MaxValue} {
			for _, s := range []impl.Slot{{}, {State: impl.StShared, Data: 4}} {
				s.Want, s.Value = impl.WtWrite, value
				write := impl.Msg{Kind: impl.MsGrant, To: 1, Want: impl.WtWrite, Data: data}
				if next, told, code := impl.CoreGot(s, write); next != (impl.Slot{State: impl.StOwned, Data: value}) || len(told) != 0 || code != impl.CoDone {
					t.Error(s, "is granted as", next, told, code)
				}
			}
		}
	}
}

// The messages of one answer are no memory of another one.
func TestCoresAnswerNewMemory(t *testing.T) {
	asks := []func() []impl.Msg{
		func() []impl.Msg { _, told, _, _ := impl.Asked(slotNone, 2, 1); return told },
		func() []impl.Msg { _, told, _ := impl.Stored(slotShared, 2, 1, 44); return told },
		func() []impl.Msg { _, told, _ := impl.Left(slotOwned, 2, 1); return told },
		func() []impl.Msg {
			_, told, _ := impl.CoreGot(slotLeaving, impl.Msg{Kind: impl.MsFetch, To: 2, Line: 1, Want: impl.WtRead})
			return told
		},
	}
	for i, ask := range asks {
		first, second := ask(), ask()
		if len(first) != 1 || !slices.Equal(first, second) {
			t.Fatal(i, first, second)
		}
		kept := slices.Clone(second)
		first[0] = impl.Msg{}
		if !slices.Equal(second, kept) || !slices.Equal(ask(), kept) {
			t.Error(i, "two answers share memory")
		}
	}
}

// The numbers that the document gives to states, wants and codes.
func TestNumbersOfCores(t *testing.T) {
	for i, list := range [][]int64{
		{impl.StInvalid, impl.StShared, impl.StOwned, impl.StLeaving},
		{impl.WtNone, impl.WtRead, impl.WtWrite},
		{impl.CoDone, impl.CoWrong, impl.CoForm, impl.CoWait, impl.CoNot},
	} {
		for number, got := range list {
			if got != int64(number) {
				t.Error(i, list)
			}
		}
	}
}
