package tests

import (
	"math"
	"reflect"
	"runtime"
	"slices"
	"strings"
	"testing"

	"loop.example/g00384/impl"
)

func readAct(core int64, line int64) impl.Act {
	return impl.Act{Kind: impl.AcRead, Core: core, Line: line}
}

func writeAct(core int64, line int64, value int64) impl.Act {
	return impl.Act{Kind: impl.AcWrite, Core: core, Line: line, Value: value}
}

func leaveAct(core int64, line int64) impl.Act {
	return impl.Act{Kind: impl.AcLeave, Core: core, Line: line}
}

func deliverAct(at int64) impl.Act { return impl.Act{Kind: impl.AcDeliver, At: at} }

// mailOf reads messages from their texts, parted by semicolons.
func mailOf(t *testing.T, texts string) []impl.Msg {
	t.Helper()
	var mail []impl.Msg
	for text := range strings.SplitSeq(texts, ";") {
		mail = append(mail, msgOf(t, text))
	}
	return mail
}

// blank is a machine of that size made by hand.
func blank(cores int, lines int) impl.Machine {
	m := impl.Machine{Lines: make([]impl.Line, lines)}
	for range cores {
		m.Slots = append(m.Slots, make([]impl.Slot, lines))
	}
	return m
}

func copyMachine(m impl.Machine) impl.Machine {
	n := impl.Machine{Mail: slices.Clone(m.Mail)}
	for _, slots := range m.Slots {
		n.Slots = append(n.Slots, slices.Clone(slots))
	}
	for _, l := range m.Lines {
		n.Lines = append(n.Lines, copyOf(l))
	}
	return n
}

func sameSlots(a []impl.Slot, b []impl.Slot) bool { return slices.Equal(a, b) }

func sameMachine(a impl.Machine, b impl.Machine) bool {
	return slices.EqualFunc(a.Slots, b.Slots, sameSlots) &&
		slices.EqualFunc(a.Lines, b.Lines, sameLine) && slices.Equal(a.Mail, b.Mail)
}

func isNoMachine(m impl.Machine) bool { return sameMachine(m, impl.Machine{}) }

// with is a copy of a machine that is changed then.
func with(m impl.Machine, change func(*impl.Machine)) impl.Machine {
	n := copyMachine(m)
	change(&n)
	return n
}

// manyMsgs are so many right messages, none of them of line 0.
func manyMsgs(count int) []impl.Msg {
	return slices.Repeat([]impl.Msg{{Kind: impl.MsInv, To: 2, Line: 1}}, count)
}

// threeByTwo has three cores and two lines, all of whose parts say something.
func threeByTwo(t *testing.T) impl.Machine {
	return impl.Machine{
		Slots: [][]impl.Slot{{slotOwned, slotNone}, {slotNoneReads, slotShared}, {slotNone, slotSharedWrites}},
		Lines: []impl.Line{
			{Mem: 7, Owner: 1, Busy: 2, Want: impl.WtRead, Acks: 1, Queue: []impl.Req{writes(3)}},
			{Mem: 9, Sharers: []int64{2, 3}},
		},
		Mail: mailOf(t, "fetch 1 0 1;write 3 1"),
	}
}

func TestNumbersOfMachines(t *testing.T) {
	for at, got := range []int64{impl.McDone, impl.McWrong, impl.McForm, impl.McWait, impl.McNot, impl.McNone, impl.McOrder, impl.McFull} {
		if got != int64(at) {
			t.Error("code", at, "is", got)
		}
	}
	for at, got := range []int64{impl.AcRead, impl.AcWrite, impl.AcLeave, impl.AcDeliver} {
		if got != int64(at)+1 {
			t.Error("act", at, "is", got)
		}
	}
	if impl.MaxMail != 60 {
		t.Error(impl.MaxMail)
	}
}

func rightMachines(t *testing.T) []impl.Machine {
	var list []impl.Machine
	for cores := 2; cores <= impl.MaxCores; cores++ {
		for lines := 1; lines <= impl.MaxLines; lines++ {
			list = append(list, blank(cores, lines))
		}
	}
	most := blank(impl.MaxCores, impl.MaxLines)
	for core := range most.Slots {
		for line := range most.Slots[core] {
			most.Slots[core][line] = impl.Slot{State: impl.StOwned, Data: impl.MaxValue}
		}
	}
	most.Lines[3] = impl.Line{Mem: impl.MaxValue, Owner: 5, Sharers: fiveCores, Busy: 5, Want: impl.WtWrite, Acks: 5, Queue: append(tenWait()[:9], writes(5))}
	most.Mail = slices.Repeat(mailOf(t, "data 5 3 1000000;grant 5 3 2 1000000"), impl.MaxMail/2)
	two := blank(2, 1)
	two.Lines[0] = impl.Line{Owner: 2, Sharers: []int64{1, 2}, Busy: 2, Want: impl.WtRead, Acks: impl.MaxCores, Queue: []impl.Req{reads(2), writes(2)}}
	two.Mail = mailOf(t, "ack 2 0;inv 2 0")
	return append(list, most, two, threeByTwo(t))
}

// wrongMachines have one thing that is not right each.
func wrongMachines(t *testing.T) []impl.Machine {
	list := []impl.Machine{{}, blank(1, 1), blank(6, 1), blank(2, 0), blank(2, 5), blank(0, 2), blank(1, 4), blank(6, 5)}
	base := threeByTwo(t)
	add := func(change func(*impl.Machine)) { list = append(list, with(base, change)) }
	for core := range 3 {
		add(func(m *impl.Machine) { m.Slots[core] = nil })
		add(func(m *impl.Machine) { m.Slots[core] = m.Slots[core][:1] })
		add(func(m *impl.Machine) { m.Slots[core] = append(m.Slots[core], impl.Slot{}) })
		for line := range 2 {
			for _, s := range []impl.Slot{{Data: 1}, {State: 4}, {State: impl.StOwned, Data: impl.MaxValue + 1}, {State: impl.StShared, Want: impl.WtRead}} {
				add(func(m *impl.Machine) { m.Slots[core][line] = s })
			}
		}
	}
	add(func(m *impl.Machine) { m.Lines = append(m.Lines, impl.Line{}) })
	add(func(m *impl.Machine) { m.Lines = m.Lines[:1] })
	add(func(m *impl.Machine) { m.Lines = nil })
	for line := range 2 {
		for _, l := range append(wrongLines(), linesOfFour()...) {
			add(func(m *impl.Machine) { m.Lines[line] = l })
		}
	}
	add(func(m *impl.Machine) { m.Mail = manyMsgs(impl.MaxMail + 1) })
	for _, wrong := range []impl.Msg{
		{}, {Kind: impl.MsInv}, {Kind: impl.MsRead, From: 1, Data: 1}, {Kind: impl.MsFetch, To: 1},
		msgOf(t, "read 4 0"), msgOf(t, "inv 4 0"), msgOf(t, "grant 5 0 1 0"), msgOf(t, "data 5 1 0"),
		msgOf(t, "read 1 2"), msgOf(t, "inv 1 2"), msgOf(t, "put 3 3 0"),
		{Kind: impl.MsRead, From: 1, Line: -1}, {Kind: impl.MsInv, To: -1}, {Kind: impl.MsInv, From: -1, To: 1},
	} {
		for at := range 3 {
			add(func(m *impl.Machine) { m.Mail = slices.Insert(m.Mail, at, wrong) })
		}
	}
	return list
}

// linesOfFour are right lines that are none of a machine of three cores.
func linesOfFour() []impl.Line {
	busy := impl.Line{Busy: 1, Want: impl.WtWrite, Acks: 1}
	asked, early, late := busy, busy, busy
	asked.Busy = 4
	early.Queue = []impl.Req{reads(4), reads(2)}
	late.Queue = []impl.Req{reads(2), writes(5)}
	return []impl.Line{{Owner: 4}, {Owner: 5}, {Sharers: []int64{4}}, {Sharers: []int64{1, 2, 3, 5}}, asked, early, late}
}

func TestMachineOk(t *testing.T) {
	for _, m := range rightMachines(t) {
		if !impl.MachineOk(m) {
			t.Error(m, "is not right")
		}
	}
	for _, m := range wrongMachines(t) {
		if impl.MachineOk(m) {
			t.Error(m, "is right")
		}
	}
}

func TestMachineNew(t *testing.T) {
	around := []int64{math.MinInt64, -1, 0, 1, 2, 3, 4, 5, 6, 256, math.MaxInt64}
	for _, cores := range around {
		for _, lines := range around {
			m, ok := impl.MachineNew(cores, lines)
			if cores < 2 || cores > 5 || lines < 1 || lines > 4 {
				if ok || !isNoMachine(m) {
					t.Error(cores, lines, m, ok)
				}
				continue
			}
			if !ok || !sameMachine(m, blank(int(cores), int(lines))) {
				t.Error(cores, lines, m, ok)
			}
			checkApart(t, [2]int64{cores, lines}, listsOf(m), nil)
		}
	}
}

// actCase is an act at a machine, and what comes of it; a machine without a
// change stays as it was.
type actCase struct {
	name   string
	m      impl.Machine
	act    impl.Act
	code   int64
	value  int64
	change func(n *impl.Machine)
}

func checkActs(t *testing.T, list []actCase) {
	t.Helper()
	for _, c := range list {
		want := copyMachine(c.m)
		if c.change != nil {
			c.change(&want)
		}
		got, code, value := impl.MachineDo(c.m, c.act)
		if code != c.code || value != c.value {
			t.Error(c.name, "tells", code, value, "not", c.code, c.value)
		}
		if !sameMachine(got, want) {
			t.Error(c.name, "is", got, "not", want)
		}
	}
}

// atSlot has that slot of core 2 of line 1, and some mail.
func atSlot(t *testing.T, s impl.Slot) impl.Machine {
	m := blank(3, 2)
	m.Slots[1][1] = s
	m.Mail = mailOf(t, "inv 2 1;read 3 0")
	return m
}

func TestOwnActs(t *testing.T) {
	becomes := func(s impl.Slot, texts string) func(*impl.Machine) {
		return func(n *impl.Machine) {
			n.Slots[1][1] = s
			if texts != "" {
				n.Mail = append(n.Mail, mailOf(t, texts)...)
			}
		}
	}
	noneWrites := impl.Slot{Want: impl.WtWrite, Value: 44}
	sharedWrites := impl.Slot{State: impl.StShared, Data: 9, Want: impl.WtWrite, Value: 44}
	read, write, leave := readAct(2, 1), writeAct(2, 1, 44), leaveAct(2, 1)
	checkActs(t, []actCase{
		{"read, has it not", atSlot(t, slotNone), read, impl.McWait, 0, becomes(slotNoneReads, "read 2 1")},
		{"read, waits to read", atSlot(t, slotNoneReads), read, impl.McNot, 0, nil},
		{"read, waits to write", atSlot(t, slotNoneWrites), read, impl.McNot, 0, nil},
		{"read, shares", atSlot(t, slotShared), read, impl.McDone, 9, nil},
		{"read, shares and waits", atSlot(t, slotSharedWrites), read, impl.McDone, 9, nil},
		{"read, owns", atSlot(t, slotOwned), read, impl.McDone, 9, nil},
		{"read, leaves", atSlot(t, slotLeaving), read, impl.McNot, 0, nil},
		{"write, has it not", atSlot(t, slotNone), write, impl.McWait, 0, becomes(noneWrites, "write 2 1")},
		{"write, waits to read", atSlot(t, slotNoneReads), write, impl.McNot, 0, nil},
		{"write, waits to write", atSlot(t, slotNoneWrites), write, impl.McNot, 0, nil},
		{"write, shares", atSlot(t, slotShared), write, impl.McWait, 0, becomes(sharedWrites, "write 2 1")},
		{"write, shares and waits", atSlot(t, slotSharedWrites), write, impl.McNot, 0, nil},
		{"write, owns", atSlot(t, slotOwned), write, impl.McDone, 0, becomes(impl.Slot{State: impl.StOwned, Data: 44}, "")},
		{"write, leaves", atSlot(t, slotLeaving), write, impl.McNot, 0, nil},
		{"leave, has it not", atSlot(t, slotNone), leave, impl.McNot, 0, nil},
		{"leave, waits", atSlot(t, slotNoneReads), leave, impl.McNot, 0, nil},
		{"leave, shares", atSlot(t, slotShared), leave, impl.McDone, 0, becomes(slotNone, "")},
		{"leave, shares and waits", atSlot(t, slotSharedWrites), leave, impl.McNot, 0, nil},
		{"leave, owns", atSlot(t, slotOwned), leave, impl.McDone, 0, becomes(slotLeaving, "put 2 1 9")},
		{"leave, leaves", atSlot(t, slotLeaving), leave, impl.McNot, 0, nil},
	})
}

func TestDeliveries(t *testing.T) {
	home := blank(3, 2)
	home.Lines[1] = impl.Line{Mem: 7, Sharers: []int64{1, 2}}
	home.Mail = mailOf(t, "inv 3 0;write 3 1;ack 1 0;data 2 1 5;put 1 1 8;read 1 1")
	core := impl.Machine{
		Slots: [][]impl.Slot{{slotNoneReads, slotOwned}, {slotNoneWrites, slotShared}, {slotLeaving, slotSharedWrites}},
		Lines: make([]impl.Line, 2),
		Mail:  mailOf(t, "grant 1 0 1 77;grant 2 0 2 77;done 3 0;fetch 1 1 1;inv 2 1;grant 3 1 2 0;fetch 2 1 2;grant 1 1 1 5;inv 3 0"),
	}
	taken := func(at int, change func(n *impl.Machine), texts string) func(*impl.Machine) {
		return func(n *impl.Machine) {
			change(n)
			n.Mail = slices.Delete(n.Mail, at, at+1)
			if texts != "" {
				n.Mail = append(n.Mail, mailOf(t, texts)...)
			}
		}
	}
	slot := func(core int, line int, s impl.Slot) func(*impl.Machine) {
		return func(n *impl.Machine) { n.Slots[core-1][line] = s }
	}
	line := func(l impl.Line) func(*impl.Machine) { return func(n *impl.Machine) { n.Lines[1] = l } }
	busy := impl.Line{Mem: 7, Sharers: []int64{1, 2}, Busy: 3, Want: impl.WtWrite, Acks: 2}
	checkActs(t, []actCase{
		{"a write comes home", home, deliverAct(1), impl.McDone, 0, taken(1, line(busy), "inv 1 1;inv 2 1")},
		{"an ack that nobody asked for", home, deliverAct(2), impl.McNot, 0, nil},
		{"data that nobody asked for", home, deliverAct(3), impl.McNot, 0, nil},
		{"a put of one that does not own", home, deliverAct(4), impl.McDone, 0, taken(4, line(home.Lines[1]), "done 1 1")},
		{"a read behind a put", home, deliverAct(5), impl.McOrder, 0, nil},
		{"behind all", home, deliverAct(6), impl.McNone, 0, nil},
		{"ahead of all", home, deliverAct(-1), impl.McNone, 0, nil},
		{"far out", home, deliverAct(math.MaxInt64), impl.McNone, 0, nil},
		{"far below", home, deliverAct(math.MinInt64), impl.McNone, 0, nil},
		{"at 0 without mail", blank(2, 1), deliverAct(0), impl.McNone, 0, nil},
		{"a read is granted", core, deliverAct(0), impl.McDone, 77, taken(0, slot(1, 0, impl.Slot{State: impl.StShared, Data: 77}), "")},
		{"a write is granted", core, deliverAct(1), impl.McDone, 30, taken(1, slot(2, 0, impl.Slot{State: impl.StOwned, Data: 30}), "")},
		{"a put is done", core, deliverAct(2), impl.McDone, 0, taken(2, slot(3, 0, slotNone), "")},
		{"a fetch", core, deliverAct(3), impl.McDone, 0, taken(3, slot(1, 1, slotShared), "data 1 1 9")},
		{"an invalidation", core, deliverAct(4), impl.McDone, 0, taken(4, slot(2, 1, slotNone), "ack 2 1")},
		{"a write of a sharer is granted", core, deliverAct(5), impl.McDone, 30, taken(5, slot(3, 1, impl.Slot{State: impl.StOwned, Data: 30}), "")},
		{"a fetch behind an invalidation", core, deliverAct(6), impl.McOrder, 0, nil},
		{"a grant behind a fetch", core, deliverAct(7), impl.McOrder, 0, nil},
		{"an invalidation behind what is done", core, deliverAct(8), impl.McOrder, 0, nil},
	})
	alone := with(core, func(m *impl.Machine) { m.Mail = m.Mail[6:] })
	checkActs(t, []actCase{
		{"a fetch from one that shares", alone, deliverAct(0), impl.McNot, 0, nil},
		{"a grant that nobody waits for", alone, deliverAct(1), impl.McNot, 0, nil},
		{"an invalidation while it leaves", alone, deliverAct(2), impl.McDone, 0, taken(2, slot(3, 0, slotLeaving), "ack 3 0")},
	})
}

// Only From, To and Line make a way: what differs in one of these does not
// stand in front of a message.
func TestOrderIsOfOneWay(t *testing.T) {
	for _, c := range []struct {
		ahead string
		code  int64
	}{
		{"inv 2 1", impl.McOrder},
		{"grant 2 1 2 5", impl.McOrder},
		{"ack 2 1", impl.McDone},
		{"inv 1 1", impl.McDone},
		{"inv 3 1", impl.McDone},
		{"inv 2 0", impl.McDone},
	} {
		for between := range 3 {
			m := blank(3, 2)
			m.Mail = mailOf(t, c.ahead)
			m.Mail = append(m.Mail, mailOf(t, "read 1 0;inv 3 0")[:between]...)
			m.Mail = append(m.Mail, msgOf(t, "inv 2 1"))
			if _, code, _ := impl.MachineDo(m, deliverAct(int64(between)+1)); code != c.code {
				t.Error(c.ahead, between, "tells", code)
			}
		}
	}
}

// formActs are acts that are none, at a machine of three cores and two lines.
func formActs() []impl.Act {
	acts := []impl.Act{
		{}, {Kind: -1}, {Kind: 5}, {Kind: 5, Core: 1}, {Kind: 0, Core: 1, Line: 1}, {Kind: math.MinInt64, Core: 1}, {Kind: math.MaxInt64},
		{Kind: impl.AcDeliver, Core: 1}, {Kind: impl.AcDeliver, Core: -1}, {Kind: impl.AcDeliver, Line: 1}, {Kind: impl.AcDeliver, Value: 1},
		{Kind: impl.AcDeliver, Value: -1, At: 99},
		{Kind: impl.AcRead, Core: 1, Value: 1}, {Kind: impl.AcRead, Core: 1, Value: -1}, {Kind: impl.AcRead, Core: 1, At: 1}, {Kind: impl.AcRead, Core: 1, At: -1},
		{Kind: impl.AcLeave, Core: 1, Value: 1}, {Kind: impl.AcLeave, Core: 1, Value: -1}, {Kind: impl.AcLeave, Core: 1, At: 1}, {Kind: impl.AcLeave, Core: 1, At: -1},
		{Kind: impl.AcWrite, Core: 1, Value: 1, At: 1}, {Kind: impl.AcWrite, Core: 1, Value: 1, At: -1},
		{Kind: impl.AcWrite, Core: 1, Value: -1}, {Kind: impl.AcWrite, Core: 1, Value: impl.MaxValue + 1}, {Kind: impl.AcWrite, Core: 1, Value: math.MaxInt64},
	}
	for _, kind := range []int64{impl.AcRead, impl.AcWrite, impl.AcLeave} {
		for _, core := range []int64{math.MinInt64, -1, 0, 4, 5, 6, math.MaxInt64} {
			acts = append(acts, impl.Act{Kind: kind, Core: core}, impl.Act{Kind: kind, Core: core, Line: 1})
		}
		for _, line := range []int64{math.MinInt64, -1, 2, 3, 4, math.MaxInt64} {
			acts = append(acts, impl.Act{Kind: kind, Core: 1, Line: line}, impl.Act{Kind: kind, Core: 3, Line: line})
		}
	}
	return acts
}

// A wrong machine is told ahead of a wrong act, that ahead of all else.
func TestFirstRefusals(t *testing.T) {
	right := append(rightMachines(t), threeByTwo(t))
	for _, m := range wrongMachines(t) {
		for _, a := range append(formActs(), readAct(1, 0), writeAct(2, 0, 3), leaveAct(1, 0), deliverAct(0), deliverAct(99)) {
			if got, code, value := impl.MachineDo(m, a); code != impl.McWrong || value != 0 || !isNoMachine(got) {
				t.Error(m, a, "tells", code, value, got)
			}
		}
	}
	for _, m := range right {
		if len(m.Slots) != 3 || len(m.Lines) != 2 {
			continue
		}
		for _, a := range formActs() {
			if got, code, value := impl.MachineDo(m, a); code != impl.McForm || value != 0 || !sameMachine(got, m) {
				t.Error(m, a, "tells", code, value, got)
			}
		}
	}
	for _, m := range right {
		cores, lines := int64(len(m.Slots)), int64(len(m.Lines))
		for _, a := range []impl.Act{readAct(cores+1, 0), leaveAct(1, lines), writeAct(cores, lines, 1), readAct(0, 0), leaveAct(cores, -1)} {
			if got, code, value := impl.MachineDo(m, a); code != impl.McForm || value != 0 || !sameMachine(got, m) {
				t.Error(m, a, "tells", code, value, got)
			}
		}
		if _, code, _ := impl.MachineDo(m, readAct(cores, lines-1)); code == impl.McForm {
			t.Error(m, "has not its last slot")
		}
	}
}

// fullAt has so many messages, that one first; the slot is core 1's of line 0.
func fullAt(t *testing.T, count int, text string, s impl.Slot) impl.Machine {
	m := blank(5, 2)
	m.Slots[0][0] = s
	m.Lines[0] = impl.Line{Sharers: []int64{2, 3, 4, 5}}
	m.Mail = append(mailOf(t, text), manyMsgs(count-1)...)
	return m
}

// When there is no room for what would be told, all stays as it was; what
// tells nothing, or is refused for another reason, needs no room.
func TestRoomForMail(t *testing.T) {
	const most = impl.MaxMail
	for _, c := range []struct {
		count int
		text  string
		slot  impl.Slot
		act   impl.Act
		code  int64
		value int64
		left  int
	}{
		{most - 1, "inv 2 0", slotNone, readAct(1, 0), impl.McWait, 0, most},
		{most, "inv 2 0", slotNone, readAct(1, 0), impl.McFull, 0, most},
		{most - 1, "inv 2 0", slotShared, writeAct(1, 0, 5), impl.McWait, 0, most},
		{most, "inv 2 0", slotShared, writeAct(1, 0, 5), impl.McFull, 0, most},
		{most, "inv 2 0", slotNone, writeAct(1, 0, 5), impl.McFull, 0, most},
		{most - 1, "inv 2 0", slotOwned, leaveAct(1, 0), impl.McDone, 0, most},
		{most, "inv 2 0", slotOwned, leaveAct(1, 0), impl.McFull, 0, most},
		{most, "inv 2 0", slotShared, readAct(1, 0), impl.McDone, 9, most},
		{most, "inv 2 0", slotOwned, writeAct(1, 0, 5), impl.McDone, 0, most},
		{most, "inv 2 0", slotShared, leaveAct(1, 0), impl.McDone, 0, most},
		{most, "inv 2 0", slotNoneReads, readAct(1, 0), impl.McNot, 0, most},
		{most, "inv 2 0", slotLeaving, leaveAct(1, 0), impl.McNot, 0, most},
		{most, "inv 2 0", slotNone, readAct(6, 0), impl.McForm, 0, most},
		{most, "write 1 0", slotNoneWrites, deliverAct(most), impl.McNone, 0, most},
		{most, "write 1 0", slotNoneWrites, deliverAct(most - 1), impl.McOrder, 0, most},
		{most - 3, "write 1 0", slotNoneWrites, deliverAct(0), impl.McDone, 0, most},
		{most - 2, "write 1 0", slotNoneWrites, deliverAct(0), impl.McFull, 0, most - 2},
		{most, "write 1 0", slotNoneWrites, deliverAct(0), impl.McFull, 0, most},
		{most, "read 1 0", slotNoneReads, deliverAct(0), impl.McDone, 0, most},
		{most, "put 1 0 5", slotLeaving, deliverAct(0), impl.McDone, 0, most},
		{most, "ack 1 0", slotNone, deliverAct(0), impl.McNot, 0, most},
		{most, "data 1 0 5", slotNone, deliverAct(0), impl.McNot, 0, most},
		{most, "inv 1 0", slotShared, deliverAct(0), impl.McDone, 0, most},
		{most, "fetch 1 0 2", slotOwned, deliverAct(0), impl.McDone, 0, most},
		{most, "fetch 1 0 2", slotShared, deliverAct(0), impl.McNot, 0, most},
		{most, "grant 1 0 2 5", slotNoneWrites, deliverAct(0), impl.McDone, 30, most - 1},
	} {
		m := fullAt(t, c.count, c.text, c.slot)
		got, code, value := impl.MachineDo(m, c.act)
		if code != c.code || value != c.value || len(got.Mail) != c.left {
			t.Error(c.count, c.text, c.slot, c.act, "tells", code, value, "with", len(got.Mail))
		}
		if code > impl.McForm && code != impl.McWait && !sameMachine(got, m) {
			t.Error(c.count, c.text, c.slot, c.act, "is refused, and not as it was:", got)
		}
		if want, _, _ := doBy(m, c.act); !sameMachine(got, want) {
			t.Error(c.count, c.text, c.slot, c.act, "is", got, "not", want)
		}
	}
}

// doBy says in the document's words what an act makes of a right machine.
func doBy(m impl.Machine, a impl.Act) (impl.Machine, int64, int64) {
	n := copyMachine(m)
	var told []impl.Msg
	var code, value int64
	if a.Kind == impl.AcDeliver {
		told, code, value = deliverBy(&n, a)
	} else {
		told, code, value = actBy(&n, a)
	}
	if code != impl.McDone && code != impl.McWait {
		return m, code, 0
	}
	n.Mail = append(n.Mail, told...)
	if len(n.Mail) > 60 {
		return m, impl.McFull, 0
	}
	return n, code, value
}

func actBy(n *impl.Machine, a impl.Act) ([]impl.Msg, int64, int64) {
	if a.Core < 1 || a.Core > int64(len(n.Slots)) || a.Line < 0 || a.Line >= int64(len(n.Lines)) || a.At != 0 {
		return nil, impl.McForm, 0
	}
	slot := &n.Slots[a.Core-1][a.Line]
	var told []impl.Msg
	var code, value int64
	switch {
	case a.Kind == impl.AcRead && a.Value == 0:
		*slot, told, code, value = impl.Asked(*slot, a.Core, a.Line)
	case a.Kind == impl.AcWrite && valueBy(a.Value):
		*slot, told, code = impl.Stored(*slot, a.Core, a.Line, a.Value)
	case a.Kind == impl.AcLeave && a.Value == 0:
		*slot, told, code = impl.Left(*slot, a.Core, a.Line)
	default:
		return nil, impl.McForm, 0
	}
	codes := map[int64]int64{impl.CoDone: impl.McDone, impl.CoWait: impl.McWait, impl.CoNot: impl.McNot}
	return told, codes[code], value
}

func deliverBy(n *impl.Machine, a impl.Act) ([]impl.Msg, int64, int64) {
	if a.Core != 0 || a.Line != 0 || a.Value != 0 {
		return nil, impl.McForm, 0
	}
	if a.At < 0 || a.At >= int64(len(n.Mail)) {
		return nil, impl.McNone, 0
	}
	got := n.Mail[a.At]
	for _, ahead := range n.Mail[:a.At] {
		if [3]int64{ahead.From, ahead.To, ahead.Line} == [3]int64{got.From, got.To, got.Line} {
			return nil, impl.McOrder, 0
		}
	}
	n.Mail = slices.Delete(n.Mail, int(a.At), int(a.At)+1)
	if got.To == impl.Home {
		next, told, ok := impl.HomeGot(n.Lines[got.Line], got)
		n.Lines[got.Line] = next
		if !ok {
			return nil, impl.McNot, 0
		}
		return told, impl.McDone, 0
	}
	slot := &n.Slots[got.To-1][got.Line]
	next, told, code := impl.CoreGot(*slot, got)
	*slot = next
	if code != impl.CoDone {
		return nil, impl.McNot, 0
	}
	if got.Kind == impl.MsGrant {
		return told, impl.McDone, next.Data
	}
	return told, impl.McDone, 0
}

// draw draws numbers, the same ones from the same start on.
type draw struct{ state uint64 }

// upTo draws a number from 0 on that is less than n.
func (d *draw) upTo(n int64) int64 {
	d.state += 0x9e3779b97f4a7c15
	x := d.state
	x = (x ^ x>>30) * 0xbf58476d1ce4e5b9
	x = (x ^ x>>27) * 0x94d049bb133111eb
	return int64((x ^ x>>31) % uint64(n))
}

func (d *draw) oneIn(n int64) bool { return d.upTo(n) == 0 }

func (d *draw) core(cores int64) int64 { return 1 + d.upTo(cores) }

func (d *draw) req(cores int64) impl.Req {
	return impl.Req{Core: d.core(cores), Want: 1 + d.upTo(2)}
}

func (d *draw) line(cores int64) impl.Line {
	l := impl.Line{Mem: d.upTo(5), Owner: d.upTo(cores + 1)}
	for core := int64(1); core <= cores; core++ {
		if d.oneIn(2) {
			l.Sharers = append(l.Sharers, core)
		}
	}
	if d.oneIn(2) {
		return l
	}
	if d.oneIn(2) {
		l.Owner = 0
	}
	r := d.req(cores)
	l.Busy, l.Want, l.Acks = r.Core, r.Want, 1+d.upTo(2)
	for range d.upTo(impl.MaxQueue + 1) {
		l.Queue = append(l.Queue, d.req(cores))
	}
	return l
}

func (d *draw) msg(cores int64, lines int64) impl.Msg {
	row := kindRows[d.upTo(int64(len(kindRows)))]
	m := impl.Msg{Kind: row.kind, To: d.core(cores), Line: d.upTo(lines)}
	if row.toHome {
		m.From, m.To = m.To, impl.Home
	}
	if row.hasWant {
		m.Want = 1 + d.upTo(2)
	}
	if row.hasData {
		m.Data = d.upTo(5)
	}
	return m
}

// machine is right, but mostly none to which acts lead.
func (d *draw) machine() impl.Machine {
	cores, lines := 2+d.upTo(4), 1+d.upTo(4)
	m := blank(int(cores), int(lines))
	for core := range m.Slots {
		for line := range m.Slots[core] {
			m.Slots[core][line] = slotKinds[d.upTo(int64(len(slotKinds)))]
		}
	}
	for line := range m.Lines {
		m.Lines[line] = d.line(cores)
	}
	count := d.upTo(12)
	if d.oneIn(2) {
		count = impl.MaxMail - d.upTo(6)
	}
	for range count {
		m.Mail = append(m.Mail, d.msg(cores, lines))
	}
	return m
}

// allKinds are machines that are right or not, and so many drawn ones.
func (d *draw) allKinds(t *testing.T, count int) []impl.Machine {
	list := append(rightMachines(t), wrongMachines(t)...)
	for range count {
		list = append(list, d.machine())
	}
	return list
}

// act is one that such a machine may do, but for a field here and there.
func (d *draw) act(m impl.Machine) impl.Act {
	var a impl.Act
	core, line := d.core(int64(len(m.Slots))), d.upTo(int64(len(m.Lines)))
	switch 1 + d.upTo(6) {
	case impl.AcRead:
		a = readAct(core, line)
	case impl.AcWrite:
		a = writeAct(core, line, d.upTo(impl.MaxValue+1))
	case impl.AcLeave:
		a = leaveAct(core, line)
	default:
		a = deliverAct(d.upTo(int64(len(m.Mail)) + 1))
	}
	if d.oneIn(8) {
		fields := []*int64{&a.Kind, &a.Core, &a.Line, &a.Value, &a.At}
		*fields[d.upTo(5)] += d.upTo(4) - 2
	}
	return a
}

// Promise 5: an act leaves a right machine; and it is just what the document
// says, whatever the machine was.
func TestDrawnActsAtDrawnMachines(t *testing.T) {
	d := draw{state: 5}
	codes := map[int64]int{}
	for range 40000 {
		m := d.machine()
		if !impl.MachineOk(m) {
			t.Fatal("drawn, but not right:", m)
		}
		a := d.act(m)
		got, code, value := impl.MachineDo(m, a)
		want, wantCode, wantValue := doBy(m, a)
		if code != wantCode || value != wantValue || !sameMachine(got, want) {
			t.Fatal(m, a, "is", got, code, value, "not", want, wantCode, wantValue)
		}
		if !impl.MachineOk(got) {
			t.Fatal(m, a, "leaves a machine that is not right:", got)
		}
		codes[code]++
	}
	for _, code := range []int64{impl.McDone, impl.McForm, impl.McWait, impl.McNot, impl.McNone, impl.McOrder, impl.McFull} {
		if codes[code] < 100 {
			t.Error("code", code, "was drawn too seldom:", codes)
		}
	}
}

// playBy plays act by act.
func playBy(m impl.Machine, l []impl.Act) (impl.Machine, []int64) {
	var codes []int64
	for _, a := range l {
		next, code, _ := impl.MachineDo(m, a)
		m, codes = next, append(codes, code)
	}
	return m, codes
}

// drawnPlay are acts of a machine that starts so, drawn with what it is then.
func (d *draw) drawnPlay(m impl.Machine, count int) []impl.Act {
	var acts []impl.Act
	for range count {
		a := d.act(m)
		m, _, _ = impl.MachineDo(m, a)
		acts = append(acts, a)
	}
	return acts
}

func TestMachinePlay(t *testing.T) {
	m := blank(3, 2)
	acts := []impl.Act{writeAct(1, 1, 7), readAct(2, 1), deliverAct(0), {}, deliverAct(0), deliverAct(1), deliverAct(0), readAct(1, 1), leaveAct(2, 1), deliverAct(9)}
	want := []int64{impl.McWait, impl.McWait, impl.McDone, impl.McForm, impl.McDone, impl.McOrder, impl.McDone, impl.McDone, impl.McNot, impl.McNone}
	got, codes := impl.MachinePlay(m, acts)
	if !slices.Equal(codes, want) {
		t.Error(codes, "not", want)
	}
	left := blank(3, 2)
	left.Slots[0][1] = impl.Slot{State: impl.StOwned, Data: 7}
	left.Slots[1][1] = slotNoneReads
	left.Lines[1] = impl.Line{Owner: 1, Busy: 2, Want: impl.WtRead, Acks: 1}
	left.Mail = mailOf(t, "fetch 1 1 1")
	if !sameMachine(got, left) {
		t.Error(got, "not", left)
	}
	for _, none := range [][]impl.Act{nil, {}} {
		if got, codes := impl.MachinePlay(left, none); len(codes) != 0 || !sameMachine(got, left) {
			t.Error(got, codes)
		}
	}
}

func TestMachinePlayLimits(t *testing.T) {
	m := blank(3, 2)
	m.Slots[0][0] = slotOwned
	acts := slices.Repeat([]impl.Act{readAct(1, 0)}, 201)
	acts[199] = writeAct(1, 0, 5)
	got, codes := impl.MachinePlay(m, acts[:200])
	if len(codes) != 200 || slices.Max(codes) != impl.McDone || got.Slots[0][0].Data != 5 {
		t.Error(got, codes)
	}
	for _, list := range [][]impl.Act{acts, append(acts, acts...)} {
		if got, codes := impl.MachinePlay(m, list); len(codes) != 0 || !isNoMachine(got) {
			t.Error(len(list), "acts are", got, codes)
		}
	}
	for _, wrong := range wrongMachines(t) {
		for _, list := range [][]impl.Act{nil, acts[:1], acts} {
			if got, codes := impl.MachinePlay(wrong, list); len(codes) != 0 || !isNoMachine(got) {
				t.Error(wrong, "plays", got, codes)
			}
		}
	}
}

// Promise 5: acts in two pieces, or one by one, are the same acts.
func TestActsInTwoPieces(t *testing.T) {
	d := draw{state: 7}
	for round := range 60 {
		m := d.machine()
		if round%2 == 0 {
			m = blank(len(m.Slots), len(m.Lines))
		}
		acts := d.drawnPlay(m, 200)
		whole, codes := impl.MachinePlay(m, acts)
		if one, oneCodes := playBy(m, acts); !sameMachine(one, whole) || !slices.Equal(oneCodes, codes) {
			t.Fatal(m, acts, "one by one is", one, oneCodes, "not", whole, codes)
		}
		for _, cut := range []int64{0, 1, d.upTo(201), d.upTo(201), 199, 200} {
			half, first := impl.MachinePlay(m, acts[:cut])
			end, second := impl.MachinePlay(half, acts[cut:])
			if !sameMachine(end, whole) || !slices.Equal(append(first, second...), codes) {
				t.Fatal(m, acts, "cut at", cut, "is", end, first, second)
			}
		}
	}
}

// calmBy delivers the first message again and again.
func calmBy(m impl.Machine) (impl.Machine, int64, bool) {
	for steps := int64(0); steps < 1000; steps++ {
		if len(m.Mail) == 0 {
			return m, steps, true
		}
		next, code, _ := doBy(m, deliverAct(0))
		if code != impl.McDone {
			break
		}
		m = next
	}
	return impl.Machine{}, 0, false
}

func checkCalmed(t *testing.T, m impl.Machine) bool {
	t.Helper()
	got, steps, ok := impl.Calmed(m)
	want, wantSteps, wantOk := calmBy(m)
	if ok != wantOk || steps != wantSteps || !sameMachine(got, want) {
		t.Fatal(m, "calmed is", got, steps, ok, "not", want, wantSteps, wantOk)
	}
	return ok
}

func TestCalmed(t *testing.T) {
	m := blank(3, 2)
	m, _ = impl.MachinePlay(m, []impl.Act{readAct(1, 0), readAct(2, 0), writeAct(3, 0, 7), writeAct(3, 1, 8)})
	got, steps, ok := impl.Calmed(m)
	want := blank(3, 2)
	want.Slots[2] = []impl.Slot{{State: impl.StOwned, Data: 7}, {State: impl.StOwned, Data: 8}}
	want.Lines = []impl.Line{{Owner: 3}, {Owner: 3}}
	if !ok || steps != 12 || !sameMachine(got, want) {
		t.Error(got, steps, ok)
	}
	if got, steps, ok := impl.Calmed(want); !ok || steps != 0 || !sameMachine(got, want) {
		t.Error("without mail:", got, steps, ok)
	}
	for _, c := range []struct {
		name string
		m    impl.Machine
	}{
		{"a message is refused", with(m, func(m *impl.Machine) { m.Mail = append(m.Mail, msgOf(t, "ack 1 1")) })},
		{"the first is refused", with(m, func(m *impl.Machine) { m.Mail = slices.Insert(m.Mail, 0, msgOf(t, "done 1 1")) })},
		{"there is no room", fullAt(t, impl.MaxMail, "write 1 0", slotNoneWrites)},
	} {
		if got, steps, ok := impl.Calmed(c.m); ok || steps != 0 || !isNoMachine(got) {
			t.Error(c.name, got, steps, ok)
		}
	}
	for _, wrong := range wrongMachines(t) {
		if got, steps, ok := impl.Calmed(wrong); ok || steps != 0 || !isNoMachine(got) {
			t.Error(wrong, "calmed is", got, steps, ok)
		}
	}
}

// Messages that nothing comes of but an ack or what is done, as many as there
// may be: more than a hundred deliveries.
func TestCalmedTakesLong(t *testing.T) {
	m := blank(5, 4)
	for core := range m.Slots {
		for line := range m.Slots[core] {
			m.Slots[core][line] = slotLeaving
		}
	}
	for line := range int64(4) {
		for core := int64(1); core <= 5; core++ {
			m.Mail = append(m.Mail, impl.Msg{Kind: impl.MsPut, From: core, Line: line, Data: 9})
		}
	}
	m.Lines[2].Owner = 4
	got, steps, ok := impl.Calmed(m)
	want := blank(5, 4)
	want.Lines[2].Mem = 9
	if !ok || steps != 40 || !sameMachine(got, want) {
		t.Error(got, steps, ok)
	}
	m = blank(5, 1)
	m.Lines[0] = impl.Line{Sharers: []int64{2, 3, 4, 5}, Busy: 1, Want: impl.WtWrite, Acks: 5}
	m.Slots[0][0] = slotNoneWrites
	m.Slots[1][0] = impl.Slot{Want: impl.WtRead}
	m.Mail = mailOf(t, "inv 2 0;inv 2 0;inv 3 0;inv 4 0;inv 5 0;read 2 0")
	got, steps, ok = impl.Calmed(m)
	want = blank(5, 1)
	want.Slots[0][0] = impl.Slot{State: impl.StShared, Data: 30}
	want.Slots[1][0] = impl.Slot{State: impl.StShared, Data: 30}
	want.Lines[0] = impl.Line{Mem: 30, Sharers: []int64{1, 2}}
	if !ok || steps != 15 || !sameMachine(got, want) {
		t.Error(got, steps, ok)
	}
}

func TestCalmedOfDrawnMachines(t *testing.T) {
	d := draw{state: 11}
	calmed, refused := 0, 0
	for round := range 6000 {
		m := d.machine()
		if round%2 == 0 {
			m = blank(len(m.Slots), len(m.Lines))
			m, _ = impl.MachinePlay(m, d.drawnPlay(m, 20))
		}
		if checkCalmed(t, m) {
			calmed++
		} else {
			refused++
		}
	}
	if calmed < 100 || refused < 100 {
		t.Error("drawn too seldom:", calmed, refused)
	}
}

// listsOf are all lists of a machine, those within others too.
func listsOf(m impl.Machine) []any {
	lists := []any{m.Slots, m.Lines, m.Mail}
	for _, slots := range m.Slots {
		lists = append(lists, slots)
	}
	for _, l := range m.Lines {
		lists = append(lists, l.Sharers, l.Queue)
	}
	return lists
}

// span is the memory of a list, from its first place to behind its room.
type span struct{ from, to uintptr }

func spansOf(lists []any) []span {
	var spans []span
	for _, list := range lists {
		v := reflect.ValueOf(list)
		size := uintptr(v.Cap()) * v.Type().Elem().Size()
		if size > 0 {
			spans = append(spans, span{v.Pointer(), v.Pointer() + size})
		}
	}
	return spans
}

// checkApart: no two lists of an answer share memory, and none shares any
// with a list of the argument.
func checkApart(t *testing.T, name any, answer []any, argument []any) {
	t.Helper()
	spans, others := spansOf(answer), spansOf(argument)
	for at, a := range spans {
		for _, b := range append(slices.Clone(spans[:at]), others...) {
			if a.from < b.to && b.from < a.to {
				t.Error(name, "two lists share memory")
			}
		}
	}
}

// roomy is a list with marked room behind it.
func roomy[T any](list []T, mark T) []T {
	marked := append(slices.Clone(list), mark, mark, mark)
	return marked[:len(list)]
}

func roomyMachine(m impl.Machine) impl.Machine {
	n := impl.Machine{Mail: roomy(m.Mail, impl.Msg{Kind: spareMark})}
	for _, slots := range m.Slots {
		n.Slots = append(n.Slots, roomy(slots, impl.Slot{State: spareMark}))
	}
	n.Slots = roomy(n.Slots, []impl.Slot{{State: spareMark}})
	for _, l := range m.Lines {
		l.Sharers, l.Queue = roomy(l.Sharers, spareMark), roomy(l.Queue, impl.Req{Core: spareMark})
		n.Lines = append(n.Lines, l)
	}
	n.Lines = roomy(n.Lines, impl.Line{Mem: spareMark})
	return n
}

// withAllRoom is the machine and all that is behind its lists.
func withAllRoom(m impl.Machine) impl.Machine {
	n := impl.Machine{Mail: m.Mail[:cap(m.Mail)]}
	for _, slots := range m.Slots[:cap(m.Slots)] {
		n.Slots = append(n.Slots, slots[:cap(slots)])
	}
	for _, l := range m.Lines[:cap(m.Lines)] {
		l.Sharers, l.Queue = l.Sharers[:cap(l.Sharers)], l.Queue[:cap(l.Queue)]
		n.Lines = append(n.Lines, l)
	}
	return n
}

// checkMachineMemory calls f twice; it answers a machine, and what else it
// answers.
func checkMachineMemory(t *testing.T, name any, m impl.Machine, f func(impl.Machine) (impl.Machine, []int64)) {
	t.Helper()
	given := roomyMachine(m)
	before := copyMachine(withAllRoom(given))
	got, codes := f(given)
	if !sameMachine(withAllRoom(given), before) {
		t.Error(name, m, "wrote into its argument:", withAllRoom(given))
	}
	checkApart(t, name, append(listsOf(got), codes), listsOf(given))
	again, againCodes := f(given)
	if !sameMachine(again, got) || !slices.Equal(againCodes, codes) {
		t.Error(name, m, "answers otherwise when asked again:", again, againCodes)
	}
	checkApart(t, name, append(append(listsOf(got), listsOf(again)...), codes, againCodes), nil)
}

func TestMachinesMemory(t *testing.T) {
	d := draw{state: 13}
	for at, m := range d.allKinds(t, 1000) {
		right := impl.MachineOk(m)
		checkMachineMemory(t, "MachineOk", m, func(m impl.Machine) (impl.Machine, []int64) {
			impl.MachineOk(m)
			return impl.Machine{}, nil
		})
		acts := []impl.Act{readAct(1, 0), writeAct(2, 0, 4), leaveAct(1, 0), {}, deliverAct(0), deliverAct(1), deliverAct(int64(at % 60))}
		if right {
			acts = append(acts, d.act(m), d.act(m), d.act(m))
		}
		for _, a := range acts {
			checkMachineMemory(t, a, m, func(m impl.Machine) (impl.Machine, []int64) {
				n, code, value := impl.MachineDo(m, a)
				return n, []int64{code, value}
			})
		}
		checkMachineMemory(t, "MachinePlay", m, func(m impl.Machine) (impl.Machine, []int64) {
			kept := slices.Clone(acts)
			n, codes := impl.MachinePlay(m, acts)
			if !slices.Equal(acts, kept) {
				t.Error("MachinePlay wrote into its acts:", acts)
			}
			return n, codes
		})
		checkMachineMemory(t, "Calmed", m, func(m impl.Machine) (impl.Machine, []int64) {
			n, steps, _ := impl.Calmed(m)
			return n, []int64{steps}
		})
	}
}

// Cores at work end with the call. A goroutine that has said its last may
// still be counted for a moment, so others are let run ahead of the look.
func TestNoCoreIsLeftAtWork(t *testing.T) {
	before := runtime.NumGoroutine()
	for _, m := range append(rightMachines(t), wrongMachines(t)...) {
		impl.MachineDo(m, deliverAct(0))
		impl.MachineDo(m, impl.Act{})
		impl.MachinePlay(m, []impl.Act{readAct(1, 0), deliverAct(0)})
		impl.Calmed(m)
	}
	for range 100000 {
		if runtime.NumGoroutine() <= before {
			return
		}
		runtime.Gosched()
	}
	t.Error(runtime.NumGoroutine(), "goroutines are there, not", before)
}
