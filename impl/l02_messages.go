package impl

import (
	"strconv"
	"strings"
)

const (
	MsRead  = 1
	MsWrite = 2
	MsPut   = 3
	MsInv   = 4
	MsFetch = 5
	MsAck   = 6
	MsData  = 7
	MsGrant = 8
	MsDone  = 9
	Home    = 0
)

const (
	maxDigits = 9
	noMsg     = "this text is no message"
)

type Msg struct {
	Kind int64
	From int64
	To   int64
	Line int64
	Want int64
	Data int64
}

type msgShape struct {
	word    string
	toHome  bool
	hasWant bool
	hasData bool
}

// msgShapes stands at the number of each kind; the row at 0 is no kind's.
var msgShapes = [...]msgShape{
	MsRead:  {word: "read", toHome: true},
	MsWrite: {word: "write", toHome: true},
	MsPut:   {word: "put", toHome: true, hasData: true},
	MsInv:   {word: "inv"},
	MsFetch: {word: "fetch", hasWant: true},
	MsAck:   {word: "ack", toHome: true},
	MsData:  {word: "data", toHome: true, hasData: true},
	MsGrant: {word: "grant", hasWant: true, hasData: true},
	MsDone:  {word: "done"},
}

func MsgOk(m Msg) bool {
	if m.Kind < MsRead || m.Kind > MsDone {
		return false
	}
	shape := msgShapes[m.Kind]
	return endsOk(m, shape) && isLine(m.Line) && wantOk(m, shape) && dataOk(m, shape)
}

func endsOk(m Msg, shape msgShape) bool {
	if shape.toHome {
		return isCore(m.From) && m.To == Home
	}
	return m.From == Home && isCore(m.To)
}

func wantOk(m Msg, shape msgShape) bool {
	if shape.hasWant {
		return m.Want == WtRead || m.Want == WtWrite
	}
	return m.Want == WtNone
}

func dataOk(m Msg, shape msgShape) bool {
	if shape.hasData {
		return isValue(m.Data)
	}
	return m.Data == 0
}

func MsgText(m Msg) string {
	if !MsgOk(m) {
		return ""
	}
	shape := msgShapes[m.Kind]
	core := m.To
	if shape.toHome {
		core = m.From
	}
	words := []string{shape.word, decimal(core), decimal(m.Line)}
	if shape.hasWant {
		words = append(words, decimal(m.Want))
	}
	if shape.hasData {
		words = append(words, decimal(m.Data))
	}
	return strings.Join(words, " ")
}

func ReadMsg(s string) (m Msg, ok bool) {
	defer func() {
		if recover() != nil {
			m, ok = Msg{}, false
		}
	}()
	r := msgReader{words: strings.Split(s, " ")}
	return r.message(), true
}

// msgReader goes through the words of a text. It gives up with a panic, so
// that no step has to ask whether the one ahead of it went well.
type msgReader struct {
	words []string
}

func (r *msgReader) word() string {
	if len(r.words) == 0 {
		panic(noMsg)
	}
	word := r.words[0]
	r.words = r.words[1:]
	return word
}

func (r *msgReader) number() int64 {
	n, ok := readDecimal(r.word())
	if !ok {
		panic(noMsg)
	}
	return n
}

func (r *msgReader) kind() int64 {
	word := r.word()
	for kind := int64(MsRead); kind <= MsDone; kind++ {
		if msgShapes[kind].word == word {
			return kind
		}
	}
	panic(noMsg)
}

func (r *msgReader) message() Msg {
	m := Msg{Kind: r.kind()}
	shape := msgShapes[m.Kind]
	if shape.toHome {
		m.From = r.number()
	} else {
		m.To = r.number()
	}
	m.Line = r.number()
	if shape.hasWant {
		m.Want = r.number()
	}
	if shape.hasData {
		m.Data = r.number()
	}
	if len(r.words) > 0 || !MsgOk(m) {
		panic(noMsg)
	}
	return m
}

func decimal(n int64) string { return strconv.FormatInt(n, 10) }

// readDecimal goes by hand, for strconv takes signs and noughts ahead.
func readDecimal(s string) (int64, bool) {
	if s == "" || len(s) > maxDigits || s[0] == '0' && s != "0" {
		return 0, false
	}
	var n int64
	for i := range len(s) {
		if s[i] < '0' || s[i] > '9' {
			return 0, false
		}
		n = 10*n + int64(s[i]-'0')
	}
	return n, true
}
