package tests

import (
	"math"
	"strings"
	"testing"

	"loop.example/g00384/impl"
)

// kindRow is what the document says of a kind of message.
type kindRow struct {
	kind             int64
	word             string
	toHome           bool
	hasWant, hasData bool
}

var kindRows = []kindRow{
	{impl.MsRead, "read", true, false, false},
	{impl.MsWrite, "write", true, false, false},
	{impl.MsPut, "put", true, false, true},
	{impl.MsInv, "inv", false, false, false},
	{impl.MsFetch, "fetch", false, true, false},
	{impl.MsAck, "ack", true, false, false},
	{impl.MsData, "data", true, false, true},
	{impl.MsGrant, "grant", false, true, true},
	{impl.MsDone, "done", false, false, false},
}

// edgeTexts are the messages of the nine kinds at the edges of what they have.
var edgeTexts = []struct {
	text string
	msg  impl.Msg
}{
	{"read 1 0", impl.Msg{Kind: 1, From: 1}},
	{"read 5 3", impl.Msg{Kind: 1, From: 5, Line: 3}},
	{"write 1 3", impl.Msg{Kind: 2, From: 1, Line: 3}},
	{"write 5 0", impl.Msg{Kind: 2, From: 5}},
	{"put 1 0 0", impl.Msg{Kind: 3, From: 1}},
	{"put 5 3 1000000", impl.Msg{Kind: 3, From: 5, Line: 3, Data: 1000000}},
	{"inv 1 0", impl.Msg{Kind: 4, To: 1}},
	{"inv 5 3", impl.Msg{Kind: 4, To: 5, Line: 3}},
	{"fetch 1 0 1", impl.Msg{Kind: 5, To: 1, Want: 1}},
	{"fetch 5 3 2", impl.Msg{Kind: 5, To: 5, Line: 3, Want: 2}},
	{"ack 1 0", impl.Msg{Kind: 6, From: 1}},
	{"ack 5 3", impl.Msg{Kind: 6, From: 5, Line: 3}},
	{"data 1 0 0", impl.Msg{Kind: 7, From: 1}},
	{"data 5 3 1000000", impl.Msg{Kind: 7, From: 5, Line: 3, Data: 1000000}},
	{"grant 1 0 1 0", impl.Msg{Kind: 8, To: 1, Want: 1}},
	{"grant 5 3 2 1000000", impl.Msg{Kind: 8, To: 5, Line: 3, Want: 2, Data: 1000000}},
	{"grant 2 1 2 10", impl.Msg{Kind: 8, To: 2, Line: 1, Want: 2, Data: 10}},
	{"done 1 0", impl.Msg{Kind: 9, To: 1}},
	{"done 5 3", impl.Msg{Kind: 9, To: 5, Line: 3}},
}

func TestMessagesThereAndBack(t *testing.T) {
	for _, c := range edgeTexts {
		if !impl.MsgOk(c.msg) {
			t.Error(c.text, "is not right")
		}
		if got := impl.MsgText(c.msg); got != c.text {
			t.Errorf("%v is %q, not %q", c.msg, got, c.text)
		}
		if got, ok := impl.ReadMsg(c.text); !ok || got != c.msg {
			t.Error(c.text, "is read as", got, ok)
		}
	}
}

// rightBy says in the document's words whether a message is right.
func rightBy(m impl.Msg) bool {
	for _, row := range kindRows {
		if row.kind != m.Kind {
			continue
		}
		core, home := m.To, m.From
		if row.toHome {
			core, home = m.From, m.To
		}
		want := m.Want == impl.WtNone
		if row.hasWant {
			want = m.Want == impl.WtRead || m.Want == impl.WtWrite
		}
		data := m.Data == 0
		if row.hasData {
			data = m.Data >= 0 && m.Data <= impl.MaxValue
		}
		return core >= 1 && core <= impl.MaxCores && home == impl.Home &&
			m.Line >= 0 && m.Line < impl.MaxLines && want && data
	}
	return false
}

// checkMsg holds one message against promise 2 and against what is said of
// one that is not right.
func checkMsg(t *testing.T, m impl.Msg) {
	t.Helper()
	right := rightBy(m)
	if impl.MsgOk(m) != right {
		t.Error(m, "is right:", !right)
	}
	text := impl.MsgText(m)
	if !right {
		if text != "" {
			t.Errorf("%v is not right, its text %q", m, text)
		}
		return
	}
	if got, ok := impl.ReadMsg(text); !ok || got != m {
		t.Errorf("%v comes back from %q as %v, %v", m, text, got, ok)
	}
}

// Every field goes from one below what it may be to one above.
func TestMessagesAroundAllLimits(t *testing.T) {
	datas := []int64{-1, 0, 1, 9, 10, impl.MaxValue - 1, impl.MaxValue, impl.MaxValue + 1}
	var m impl.Msg
	for m.Kind = -1; m.Kind <= impl.MsDone+1; m.Kind++ {
		for m.From = -1; m.From <= impl.MaxCores+1; m.From++ {
			for m.To = -1; m.To <= impl.MaxCores+1; m.To++ {
				for m.Line = -1; m.Line <= impl.MaxLines; m.Line++ {
					for m.Want = -1; m.Want <= impl.WtWrite+1; m.Want++ {
						for _, m.Data = range datas {
							checkMsg(t, m)
						}
					}
				}
			}
		}
	}
}

func TestMessagesFarOut(t *testing.T) {
	for _, c := range edgeTexts {
		for _, far := range []int64{math.MinInt64, math.MaxInt64, -1 << 32, 1 << 32, 256, 257} {
			for field := range 6 {
				m := c.msg
				*[]*int64{&m.Kind, &m.From, &m.To, &m.Line, &m.Want, &m.Data}[field] = far
				checkMsg(t, m)
			}
		}
	}
}

func TestFieldsThatAKindHasNot(t *testing.T) {
	for _, row := range kindRows {
		m := impl.Msg{Kind: row.kind}
		if row.toHome {
			m.From = 2
		} else {
			m.To = 2
		}
		if row.hasWant {
			m.Want = impl.WtRead
		}
		if !impl.MsgOk(m) {
			t.Error(m, "is not right")
		}
		var wrong []impl.Msg
		add := func(has bool, change func(*impl.Msg)) {
			if has {
				return
			}
			w := m
			change(&w)
			wrong = append(wrong, w)
		}
		add(row.hasWant, func(w *impl.Msg) { w.Want = impl.WtRead })
		add(row.hasWant, func(w *impl.Msg) { w.Want = impl.WtWrite })
		add(row.hasData, func(w *impl.Msg) { w.Data = 1 })
		add(false, func(w *impl.Msg) { w.From, w.To = 2, 2 })
		add(false, func(w *impl.Msg) { w.From, w.To = w.To, w.From })
		add(false, func(w *impl.Msg) { w.From, w.To = 0, 0 })
		for _, w := range wrong {
			if impl.MsgOk(w) || impl.MsgText(w) != "" {
				t.Error(w, "is right")
			}
		}
	}
}

func checkNoText(t *testing.T, s string) {
	t.Helper()
	if m, ok := impl.ReadMsg(s); ok || m != (impl.Msg{}) {
		t.Errorf("%q is read as %v, %v", s, m, ok)
	}
}

func TestTextsOfNoMessage(t *testing.T) {
	for _, s := range []string{
		"", " ", "  ", "0", "1 2", " 1 2",
		"read", "read 1", "put 1 0", "fetch 1 0", "data 1 0", "grant 1 0", "grant 1 0 1",
		"read 1 0 0", "inv 1 0 1", "ack 1 0 0", "done 1 0 0", "put 1 0 5 0", "fetch 1 0 1 0", "grant 1 0 1 5 0",
		"read 0 0", "read 6 0", "inv 0 0", "inv 6 0", "done 1 4", "read 1 4",
		"fetch 1 0 0", "fetch 1 0 3", "grant 1 0 0 5", "grant 1 0 3 5",
		"put 1 0 1000001", "data 1 0 1000001", "grant 1 0 2 1000001",
		"fly 1 0", "Read 1 0", "reads 1 0", "rea 1 0", "1 1 0", "read1 0", "READ 1 0",
		"read one 0", "read 1 x", "read 1 0x0", "put 1 0 1e3", "put 1 0 1_0", "put 1 0 1.0",
		"read\t1 0", "read 1\t0", "read 1 0\n", "read 1 0\x00", "\x00", "read \u0661 0", "read 1 \xff",
	} {
		checkNoText(t, s)
	}
}

// Each right text is spoilt in every way that the document rules out.
func TestSpoiltTexts(t *testing.T) {
	for _, c := range edgeTexts {
		words := strings.Split(c.text, " ")
		checkNoText(t, " "+c.text)
		checkNoText(t, c.text+" ")
		checkNoText(t, c.text+" 0")
		checkNoText(t, strings.Join(words[:len(words)-1], " "))
		checkNoText(t, strings.Join(words[1:], " "))
		for i := 1; i < len(words); i++ {
			spoil := func(by string) {
				changed := append([]string{}, words...)
				changed[i] = by
				checkNoText(t, strings.Join(changed, " "))
			}
			spoil("")
			spoil(" " + words[i])
			spoil("0" + words[i])
			spoil("+" + words[i])
			spoil("-" + words[i])
			spoil(words[i] + "a")
			spoil(strings.Repeat("0", 9) + words[i])
			spoil("1" + strings.Repeat("0", 9))
			spoil("999999999")
			spoil("18446744073709551617")
			spoil("4294967297")
		}
	}
}

// A text that is read at all is the text of what it is read as, so no message
// has two texts.
func TestNoSecondTexts(t *testing.T) {
	check := func(s string) {
		if m, ok := impl.ReadMsg(s); ok && (!impl.MsgOk(m) || impl.MsgText(m) != s) {
			t.Errorf("%q is read as %v", s, m)
		} else if !ok && m != (impl.Msg{}) {
			t.Errorf("%q is none, but has %v", s, m)
		}
	}
	for _, c := range edgeTexts {
		for i := range len(c.text) + 1 {
			for b := range 256 {
				put := string([]byte{byte(b)})
				check(c.text[:i] + put + c.text[i:])
				if i < len(c.text) {
					check(c.text[:i] + put + c.text[i+1:])
				}
			}
			if i < len(c.text) {
				check(c.text[:i] + c.text[i+1:])
			}
		}
	}
}

func TestLongTexts(t *testing.T) {
	for _, s := range []string{
		strings.Repeat(" ", 100000),
		strings.Repeat("read ", 100000),
		"read " + strings.Repeat("1", 100000) + " 0",
		"put 1 0 " + strings.Repeat("0", 100000),
	} {
		if _, ok := impl.ReadMsg(s); ok {
			t.Error("a text of", len(s), "bytes is read")
		}
	}
}
