package tests

import (
	"fmt"
	"math"
	"slices"
	"testing"

	"loop.example/g00384/impl"
)

// coresBy are the cores whose slot of a line has that state.
func coresBy(m impl.Machine, line int64, state int64) []int64 {
	var cores []int64
	for at := range m.Slots {
		if m.Slots[at][line].State == state {
			cores = append(cores, int64(at)+1)
		}
	}
	return cores
}

// notThere are lines that a machine has not.
func notThere(m impl.Machine) []int64 {
	return []int64{math.MinInt64, -1, int64(len(m.Lines)), impl.MaxLines, math.MaxInt64}
}

func TestOwnersAndSharers(t *testing.T) {
	m := blank(5, 2)
	m.Slots[0] = []impl.Slot{slotOwned, slotShared}
	m.Slots[1] = []impl.Slot{slotLeaving, slotNone}
	m.Slots[2] = []impl.Slot{slotNoneWrites, slotSharedWrites}
	m.Slots[3] = []impl.Slot{slotNoneReads, slotOwned}
	m.Slots[4] = []impl.Slot{slotOwned, slotShared}
	for _, c := range []struct {
		line            int64
		owners, sharers []int64
	}{
		{0, []int64{1, 5}, nil},
		{1, []int64{4}, []int64{1, 3, 5}},
		{2, nil, nil},
		{-1, nil, nil},
	} {
		if got := impl.OwnersOf(m, c.line); !slices.Equal(got, c.owners) {
			t.Error("line", c.line, "is owned by", got)
		}
		if got := impl.SharersOf(m, c.line); !slices.Equal(got, c.sharers) {
			t.Error("line", c.line, "is shared by", got)
		}
	}
}

func TestChecksOfWrongMachines(t *testing.T) {
	for _, m := range wrongMachines(t) {
		for _, line := range []int64{-1, 0, 1, 4} {
			if owners, sharers := impl.OwnersOf(m, line), impl.SharersOf(m, line); len(owners) != 0 || len(sharers) != 0 {
				t.Error(m, line, "has", owners, sharers)
			}
			if newest, ok := impl.NewestOf(m, line); ok || newest != 0 {
				t.Error(m, line, "has", newest, ok)
			}
		}
		if impl.OneWriter(m) || impl.Quiet(m) {
			t.Error(m, "is not right, but", impl.OneWriter(m), impl.Quiet(m))
		}
	}
}

// Each case of NewestOf with all those that come behind it, in their order.
func TestNewestOf(t *testing.T) {
	slotWith := func(state int64, data int64) impl.Slot { return impl.Slot{State: state, Data: data} }
	m := blank(4, 2)
	m.Slots[0][1] = slotWith(impl.StLeaving, 10)
	m.Slots[1][1] = slotWith(impl.StOwned, 20)
	m.Slots[2][1] = slotWith(impl.StOwned, 30)
	m.Slots[3][1] = slotWith(impl.StLeaving, 40)
	m.Slots[0][0] = slotWith(impl.StOwned, 50)
	m.Lines = []impl.Line{{Mem: 60}, {Mem: 70, Owner: 4}}
	m.Mail = mailOf(t, "put 4 1 40;data 1 0 80;grant 2 1 2 85;data 3 1 90;data 2 1 95")
	for _, step := range []struct {
		name   string
		change func(m *impl.Machine)
		newest int64
	}{
		{"the first of two owners", func(*impl.Machine) {}, 20},
		{"the other owner", func(m *impl.Machine) { m.Slots[1][1] = slotShared }, 30},
		{"the first data", func(m *impl.Machine) { m.Slots[2][1] = slotNone }, 90},
		{"the other data", func(m *impl.Machine) { m.Mail = slices.Delete(m.Mail, 3, 4) }, 95},
		{"the owner that leaves", func(m *impl.Machine) { m.Mail = m.Mail[:3] }, 40},
		{"the owner does not leave", func(m *impl.Machine) { m.Lines[1].Owner = 2 }, 70},
		{"the owner has nothing", func(m *impl.Machine) { m.Lines[1].Owner = 3 }, 70},
		{"another owner that leaves", func(m *impl.Machine) { m.Lines[1].Owner = 1 }, 10},
		{"the home", func(m *impl.Machine) { m.Lines[1].Owner = 0 }, 70},
	} {
		step.change(&m)
		if got, ok := impl.NewestOf(m, 1); !ok || got != step.newest {
			t.Error(step.name, got, ok)
		}
		if got, ok := impl.NewestOf(m, 0); !ok || got != 50 {
			t.Error(step.name, "of the other line", got, ok)
		}
		for _, line := range notThere(m) {
			if got, ok := impl.NewestOf(m, line); ok || got != 0 {
				t.Error(step.name, "line", line, got, ok)
			}
		}
	}
	m.Slots[0][0] = slotNone
	if got, ok := impl.NewestOf(m, 0); !ok || got != 80 {
		t.Error("data of line 0:", got, ok)
	}
}

func TestOneWriter(t *testing.T) {
	for _, c := range []struct {
		slots []impl.Slot
		one   bool
	}{
		{[]impl.Slot{slotNone, slotNone, slotNone}, true},
		{[]impl.Slot{slotOwned, slotNone, slotNoneReads}, true},
		{[]impl.Slot{slotNoneWrites, slotLeaving, slotOwned}, true},
		{[]impl.Slot{slotShared, slotShared, slotSharedWrites}, true},
		{[]impl.Slot{slotLeaving, slotLeaving, slotShared}, true},
		{[]impl.Slot{slotOwned, slotOwned, slotNone}, false},
		{[]impl.Slot{slotOwned, slotNone, slotOwned}, false},
		{[]impl.Slot{slotOwned, slotOwned, slotOwned}, false},
		{[]impl.Slot{slotOwned, slotShared, slotNone}, false},
		{[]impl.Slot{slotShared, slotNone, slotOwned}, false},
		{[]impl.Slot{slotNone, slotSharedWrites, slotOwned}, false},
		{[]impl.Slot{slotShared, slotShared, slotOwned}, false},
	} {
		for line := range 4 {
			m := blank(3, 4)
			for core, s := range c.slots {
				m.Slots[core][line] = s
			}
			if impl.OneWriter(m) != c.one {
				t.Error(c.slots, "at line", line)
			}
		}
	}
	apart := blank(2, 2)
	apart.Slots[0] = []impl.Slot{slotOwned, slotShared}
	apart.Slots[1] = []impl.Slot{slotNone, slotShared}
	if !impl.OneWriter(apart) {
		t.Error("an owner of one line, sharers of another")
	}
}

// What is no mail, want, leaving slot or busy line leaves a machine quiet.
func TestQuiet(t *testing.T) {
	quiet := blank(3, 2)
	quiet.Slots[0] = []impl.Slot{slotOwned, slotShared}
	quiet.Slots[1] = []impl.Slot{slotShared, slotOwned}
	quiet.Lines[1] = impl.Line{Mem: 5, Owner: 3, Sharers: []int64{1, 2}}
	if !impl.Quiet(quiet) || !impl.Quiet(blank(2, 1)) || !impl.Quiet(blank(5, 4)) {
		t.Error("is not quiet")
	}
	add := func(name string, change func(m *impl.Machine)) {
		if m := with(quiet, change); impl.Quiet(m) || !impl.MachineOk(m) {
			t.Error(name, "is quiet, or not right")
		}
	}
	add("mail", func(m *impl.Machine) { m.Mail = manyMsgs(1) })
	for core := range 3 {
		for line := range 2 {
			for _, s := range []impl.Slot{slotNoneReads, slotNoneWrites, slotSharedWrites, slotLeaving} {
				add("a slot", func(m *impl.Machine) { m.Slots[core][line] = s })
			}
		}
	}
	for line := range 2 {
		for _, want := range []int64{impl.WtRead, impl.WtWrite} {
			add("a line", func(m *impl.Machine) { m.Lines[line] = impl.Line{Busy: 3, Want: want, Acks: 1} })
		}
	}
}

// newestBy, oneBy and quietBy say the checks in the document's words.
func newestBy(m impl.Machine, line int64) int64 {
	for at := range m.Slots {
		if s := m.Slots[at][line]; s.State == impl.StOwned {
			return s.Data
		}
	}
	for _, msg := range m.Mail {
		if msg.Kind == impl.MsData && msg.Line == line {
			return msg.Data
		}
	}
	for at := range m.Slots {
		if s := m.Slots[at][line]; s.State == impl.StLeaving && m.Lines[line].Owner == int64(at)+1 {
			return s.Data
		}
	}
	return m.Lines[line].Mem
}

func oneBy(m impl.Machine) bool {
	for line := range m.Lines {
		owners, sharers := coresBy(m, int64(line), impl.StOwned), coresBy(m, int64(line), impl.StShared)
		if len(owners) >= 2 || len(owners) == 1 && len(sharers) >= 1 {
			return false
		}
	}
	return true
}

func quietBy(m impl.Machine) bool {
	for _, slots := range m.Slots {
		for _, s := range slots {
			if s.Want != impl.WtNone || s.State == impl.StLeaving {
				return false
			}
		}
	}
	for _, l := range m.Lines {
		if l.Busy != 0 {
			return false
		}
	}
	return len(m.Mail) == 0
}

func TestChecksOfDrawnMachines(t *testing.T) {
	d := draw{state: 17}
	counts := map[string]int{}
	for round := range 5000 {
		m := d.machine()
		if round%3 == 0 {
			m.Mail = nil
		}
		if round%5 == 0 {
			m = blank(len(m.Slots), len(m.Lines))
			m, _ = impl.MachinePlay(m, d.drawnPlay(m, 30))
		}
		for line := range int64(len(m.Lines)) {
			if got, ok := impl.NewestOf(m, line); !ok || got != newestBy(m, line) {
				t.Fatal(m, line, "has newest", got, ok)
			}
			if got := impl.OwnersOf(m, line); !slices.Equal(got, coresBy(m, line, impl.StOwned)) {
				t.Fatal(m, line, "is owned by", got)
			}
			if got := impl.SharersOf(m, line); !slices.Equal(got, coresBy(m, line, impl.StShared)) {
				t.Fatal(m, line, "is shared by", got)
			}
		}
		if impl.OneWriter(m) != oneBy(m) || impl.Quiet(m) != quietBy(m) {
			t.Fatal(m, impl.OneWriter(m), impl.Quiet(m))
		}
		counts[fmt.Sprint("one writer ", oneBy(m))]++
		counts[fmt.Sprint("quiet ", quietBy(m))]++
	}
	for _, name := range []string{"one writer true", "one writer false", "quiet true", "quiet false"} {
		if counts[name] < 20 {
			t.Error("drawn too seldom:", counts)
		}
	}
}

// lastOf is what was written last of each line, by what acts told.
type lastOf [impl.MaxLines]int64

// after holds what an act told against promise 6, and answers what was
// written last then.
func (last lastOf) after(t *testing.T, m impl.Machine, a impl.Act, code int64, value int64) lastOf {
	t.Helper()
	switch a.Kind {
	case impl.AcRead:
		if code == impl.McDone && value != last[a.Line] {
			t.Fatal(m, a, "reads", value, "but", last[a.Line], "was written last")
		}
	case impl.AcWrite:
		if code == impl.McDone {
			last[a.Line] = a.Value
		}
	case impl.AcDeliver:
		if code != impl.McDone && code != impl.McOrder && code != impl.McFull && code != impl.McNone {
			t.Fatal(m, a, "is refused with", code)
		}
		if code == impl.McDone && m.Mail[a.At].Kind == impl.MsGrant {
			return last.granted(t, m, m.Mail[a.At], value)
		}
	}
	return last
}

func (last lastOf) granted(t *testing.T, m impl.Machine, grant impl.Msg, value int64) lastOf {
	t.Helper()
	if grant.Want == impl.WtWrite {
		if wanted := m.Slots[grant.To-1][grant.Line].Value; value != wanted {
			t.Fatal(m, grant, "writes", value, "not", wanted)
		}
		last[grant.Line] = value
	} else if value != last[grant.Line] {
		t.Fatal(m, grant, "reads", value, "but", last[grant.Line], "was written last")
	}
	return last
}

// checkBetween is promise 6 between two acts: one owner at most and nobody
// beside it, and whoever has a line has what was written last.
func checkBetween(t *testing.T, m impl.Machine, last lastOf) {
	t.Helper()
	if !impl.MachineOk(m) || !impl.OneWriter(m) || !oneBy(m) {
		t.Fatal(m, "is not right, or has two writers")
	}
	for line := range int64(len(m.Lines)) {
		if newest, ok := impl.NewestOf(m, line); !ok || newest != last[line] {
			t.Fatal(m, line, "has newest", newest, ok, "but", last[line], "was written last")
		}
		for _, slots := range m.Slots {
			if s := slots[line]; (s.State == impl.StShared || s.State == impl.StOwned) && s.Data != last[line] {
				t.Fatal(m, line, "is had as", s.Data, "but", last[line], "was written last")
			}
		}
	}
	if len(m.Mail) == 0 {
		checkStill(t, m, last)
	}
}

// checkStill is promise 6 when all mail is delivered.
func checkStill(t *testing.T, m impl.Machine, last lastOf) {
	t.Helper()
	if !impl.Quiet(m) || !quietBy(m) {
		t.Fatal(m, "has no mail, but somebody waits")
	}
	for line, l := range m.Lines {
		owners, sharers := impl.OwnersOf(m, int64(line)), impl.SharersOf(m, int64(line))
		if l.Owner == 0 && len(owners) != 0 || l.Owner != 0 && !slices.Equal(owners, []int64{l.Owner}) {
			t.Fatal(m, line, "is owned by", owners, "but the home knows", l.Owner)
		}
		for _, core := range sharers {
			if !slices.Contains(l.Sharers, core) {
				t.Fatal(m, line, "is shared by", core, "but the home knows", l.Sharers)
			}
		}
		if l.Owner == 0 && l.Mem != last[line] {
			t.Fatal(m, line, "is at home as", l.Mem, "but", last[line], "was written last")
		}
	}
}

// checkCalms delivers all mail, and nobody waits then.
func checkCalms(t *testing.T, m impl.Machine, last lastOf) {
	t.Helper()
	calm, steps, ok := impl.Calmed(m)
	if !ok || len(calm.Mail) != 0 || steps < int64(len(m.Mail)) {
		t.Fatal(m, "does not calm down:", calm, steps, ok)
	}
	for len(m.Mail) > 0 {
		n, code, value := impl.MachineDo(m, deliverAct(0))
		last = last.after(t, m, deliverAct(0), code, value)
		m = n
	}
	if !sameMachine(m, calm) {
		t.Fatal(calm, "is not", m)
	}
	checkBetween(t, calm, last)
}

// everyAct are all acts at one line that a machine may do; values are written.
func everyAct(m impl.Machine, values []int64) []impl.Act {
	var acts []impl.Act
	for core := int64(1); core <= int64(len(m.Slots)); core++ {
		acts = append(acts, readAct(core, 0), leaveAct(core, 0))
		for _, value := range values {
			acts = append(acts, writeAct(core, 0, value))
		}
	}
	for at := range m.Mail {
		acts = append(acts, deliverAct(int64(at)))
	}
	return acts
}

// checkEverywhere goes to all machines of one line to which acts lead from a
// new one on, whatever the order of the acts is.
func checkEverywhere(t *testing.T, cores int64, values []int64, least int) {
	t.Helper()
	type place struct {
		m    impl.Machine
		last lastOf
	}
	first, ok := impl.MachineNew(cores, 1)
	if !ok {
		t.Fatal(cores)
	}
	work := []place{{m: first}}
	seen := map[string]bool{fmt.Sprint(work[0]): true}
	for len(work) > 0 {
		now := work[0]
		work = work[1:]
		checkBetween(t, now.m, now.last)
		checkCalms(t, now.m, now.last)
		for _, a := range everyAct(now.m, values) {
			m, code, value := impl.MachineDo(now.m, a)
			next := place{m, now.last.after(t, now.m, a, code, value)}
			if code != impl.McDone && code != impl.McWait {
				continue
			}
			if name := fmt.Sprint(next); !seen[name] {
				seen[name] = true
				work = append(work, next)
			}
		}
	}
	if len(seen) < least {
		t.Error("acts lead to no more than", len(seen))
	}
}

func TestPromiseOfTwoCoresEverywhere(t *testing.T) {
	checkEverywhere(t, 2, []int64{1, 2}, 2000)
}

func TestPromiseOfThreeCoresEverywhere(t *testing.T) {
	if testing.Short() {
		t.Skip("all machines of three cores")
	}
	checkEverywhere(t, 3, []int64{1}, 30000)
}

// Machines of all sizes with drawn acts; few lines, or few deliveries, bring
// more of what crosses on its way.
func TestPromiseOfDrawnActs(t *testing.T) {
	d := draw{state: 19}
	for round := range 300 {
		m, ok := impl.MachineNew(2+d.upTo(4), 1+d.upTo(4))
		if !ok {
			t.Fatal("no machine")
		}
		var last lastOf
		deliveries := d.upTo(4)
		for step := range 200 {
			a := d.act(m)
			if d.upTo(4) < deliveries && len(m.Mail) > 0 {
				a = deliverAct(d.upTo(int64(len(m.Mail))))
			}
			n, code, value := impl.MachineDo(m, a)
			if code == impl.McForm {
				continue
			}
			last = last.after(t, m, a, code, value)
			m = n
			checkBetween(t, m, last)
			if step%20 == round%20 {
				checkCalms(t, m, last)
			}
		}
	}
}

func TestChecksMemory(t *testing.T) {
	d := draw{state: 23}
	for _, m := range d.allKinds(t, 500) {
		for _, line := range []int64{0, 1, 3, 4} {
			checkMachineMemory(t, "OwnersOf", m, func(m impl.Machine) (impl.Machine, []int64) {
				return impl.Machine{}, impl.OwnersOf(m, line)
			})
			checkMachineMemory(t, "SharersOf", m, func(m impl.Machine) (impl.Machine, []int64) {
				return impl.Machine{}, impl.SharersOf(m, line)
			})
			checkMachineMemory(t, "NewestOf", m, func(m impl.Machine) (impl.Machine, []int64) {
				newest, _ := impl.NewestOf(m, line)
				return impl.Machine{}, []int64{newest}
			})
		}
		checkMachineMemory(t, "OneWriter and Quiet", m, func(m impl.Machine) (impl.Machine, []int64) {
			var said []int64
			if impl.OneWriter(m) {
				said = append(said, 1)
			}
			if impl.Quiet(m) {
				said = append(said, 2)
			}
			return impl.Machine{}, said
		})
	}
}
