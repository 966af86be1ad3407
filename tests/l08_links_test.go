package tests

import (
	"fmt"
	"math"
	"slices"
	"strings"
	"testing"

	"loop.example/g00384/impl"
)

func TestNumbersOfLinks(t *testing.T) {
	got := []int64{
		impl.FlData, impl.FlAck, impl.MaxBody, impl.MaxSeq, impl.Ahead, impl.MaxWaits, impl.MaxTexts,
		impl.LkDone, impl.LkWrong, impl.LkForm, impl.LkNone, impl.LkFull, impl.LkHurt,
		impl.AkOffer, impl.AkSend, impl.AkDown, impl.AkUp, impl.AkLoseD, impl.AkLoseU, impl.AkFlipD, impl.AkFlipU,
	}
	want := []int64{1, 2, 8, 1000000, 3, 8, 12, 0, 1, 2, 3, 4, 5, 1, 2, 3, 4, 5, 6, 7, 8}
	if !slices.Equal(got, want) {
		t.Error(got, "not", want)
	}
}

// crcBy divides the bits by those of the polynomial, as one does on paper: the
// text with 16 noughts behind it, of which the first 16 bits are turned.
func crcBy(s string) int64 {
	var all []byte
	for at := range len(s) + 2 {
		for bit := range 8 {
			if at < len(s) {
				all = append(all, s[at]>>(7-bit)&1)
			} else {
				all = append(all, 0)
			}
		}
	}
	for at := range 16 {
		all[at] ^= 1
	}
	for at := range 8 * len(s) {
		if all[at] == 1 {
			for _, place := range []int{0, 4, 11, 16} {
				all[at+place] ^= 1
			}
		}
	}
	var rest int64
	for _, bit := range all[8*len(s):] {
		rest = 2*rest + int64(bit)
	}
	return rest
}

func TestCrc16(t *testing.T) {
	table := []struct {
		text string
		crc  int64
	}{
		{"", 65535}, {"123456789", 10673}, {"\x00", 57840}, {"\x00\x00", 7439}, {"\xff", 65280}, {"\xff\xff", 0},
		{"a", 40311}, {"A", 47381}, {"ab", 27120}, {"\x80", 28792}, {"\x01", 61905}, {"The links lose nothing", 15706},
	}
	for _, r := range table {
		if got := impl.Crc16(r.text); got != r.crc || crcBy(r.text) != r.crc {
			t.Errorf("the CRC of %q is %d, not %d", r.text, got, r.crc)
		}
	}
	d := draw{state: 81}
	for range 2000 {
		var text []byte
		for range d.upTo(40) {
			text = append(text, byte(d.upTo(256)))
		}
		if got, want := impl.Crc16(string(text)), crcBy(string(text)); got != want {
			t.Fatalf("the CRC of %q is %d, not %d", text, got, want)
		}
	}
	for first := range 256 {
		for second := range 256 {
			text := string([]byte{byte(first), byte(second)})
			if got, want := impl.Crc16(text), crcBy(text); got != want {
				t.Fatalf("the CRC of %q is %d, not %d", text, got, want)
			}
		}
	}
	long := strings.Repeat("0123456789", 10000)
	if got, want := impl.Crc16(long), crcBy(long); got != want {
		t.Error("the CRC of a long text is", got, "not", want)
	}
}

// sealed is a text with its CRC behind it, whatever it says.
func sealed(text string) string {
	crc := crcBy(text)
	return text + string([]byte{byte(crc / 256), byte(crc % 256)})
}

// bytesBy are the bytes of such a flit, right or not.
func bytesBy(f impl.Flit) string {
	head := []byte{byte(f.Kind), byte(f.Seq / 65536), byte(f.Seq / 256 % 256), byte(f.Seq % 256), byte(len(f.Body))}
	return sealed(string(head) + f.Body)
}

func dataFlit(seq int64, body string) impl.Flit {
	return impl.Flit{Kind: impl.FlData, Seq: seq, Body: body}
}

func ackFlit(seq int64) impl.Flit { return impl.Flit{Kind: impl.FlAck, Seq: seq} }

func flitRightBy(f impl.Flit) bool {
	if f.Kind == 2 && len(f.Body) != 0 {
		return false
	}
	return (f.Kind == 1 || f.Kind == 2) && 0 <= f.Seq && f.Seq <= 1000000 && len(f.Body) <= 8
}

func checkFlit(t *testing.T, f impl.Flit) {
	t.Helper()
	want := flitRightBy(f)
	if impl.FlitOk(f) != want {
		t.Fatal(f, "is right:", !want)
	}
	text := impl.FlitText(f)
	if !want {
		if text != "" {
			t.Fatalf("%v is not right, but has the text %q", f, text)
		}
		return
	}
	if text != bytesBy(f) {
		t.Fatalf("the text of %v is %q, not %q", f, text, bytesBy(f))
	}
	if got, ok := impl.ReadFlit(text); !ok || got != f {
		t.Fatal(f, "comes back as", got, ok)
	}
}

func TestTextsOfFlits(t *testing.T) {
	table := []struct {
		f    impl.Flit
		text string
	}{
		{dataFlit(0, ""), "\x01\x00\x00\x00\x00\xbb\x5d"},
		{dataFlit(66051, "a"), "\x01\x01\x02\x03\x01a\x1a\x6f"},
		{dataFlit(1000000, "12345678"), "\x01\x0f\x42\x40\x0812345678\x51\x1a"},
		{dataFlit(255, "\x00\xff"), "\x01\x00\x00\xff\x02\x00\xff\x72\x9c"},
		{dataFlit(256, "ab"), "\x01\x00\x01\x00\x02ab\xf9\x61"},
		{dataFlit(65536, "abcdefgh"), "\x01\x01\x00\x00\x08abcdefgh\xec\x1a"},
		{ackFlit(0), "\x02\x00\x00\x00\x00\x55\x8f"},
		{ackFlit(1), "\x02\x00\x00\x01\x00\x66\xbe"},
		{ackFlit(999999), "\x02\x0f\x42\x3f\x00\xe7\x07"},
		{ackFlit(1000000), "\x02\x0f\x42\x40\x00\xff\x60"},
	}
	for _, r := range table {
		if got := impl.FlitText(r.f); got != r.text {
			t.Errorf("the text of %v is %q, not %q", r.f, got, r.text)
		}
		if got, ok := impl.ReadFlit(r.text); !ok || got != r.f {
			t.Error(r.f, "comes back as", got, ok)
		}
	}
}

func TestFlitsAroundAllLimits(t *testing.T) {
	kinds := []int64{-1, 0, 1, 2, 3, 257, 258, math.MinInt64, math.MaxInt64}
	seqs := []int64{-1, 0, 1, 255, 256, 257, 65535, 65536, 999999, 1000000, 1000001, 16777216, math.MinInt64, math.MaxInt64}
	for _, kind := range kinds {
		for _, seq := range seqs {
			for size := range 11 {
				for _, letter := range []string{"a", "\x00", "\xff"} {
					checkFlit(t, impl.Flit{Kind: kind, Seq: seq, Body: strings.Repeat(letter, size)})
				}
			}
			checkFlit(t, impl.Flit{Kind: kind, Seq: seq, Body: strings.Repeat("x", 256)})
			checkFlit(t, impl.Flit{Kind: kind, Seq: seq, Body: strings.Repeat("x", 264)})
		}
	}
}

func checkNoFlit(t *testing.T, name string, s string) {
	t.Helper()
	if f, ok := impl.ReadFlit(s); ok || f != (impl.Flit{}) {
		t.Errorf("%s: %q is read as %v, %v", name, s, f, ok)
	}
}

func TestTextsOfNoFlit(t *testing.T) {
	right := bytesBy(dataFlit(7, "abc"))
	for size := range len(right) {
		checkNoFlit(t, "too short", right[:size])
		checkNoFlit(t, "its end alone", right[size+1:])
	}
	for size := range 7 {
		checkNoFlit(t, "short, with its CRC", sealed("\x01\x00\x00\x00\x00"[:max(0, size-2)]))
	}
	for _, more := range []string{"x", "\x00", right} {
		checkNoFlit(t, "too long", right+more)
	}
	head := "\x01\x00\x00\x07"
	for said := range 256 {
		if said != 3 {
			checkNoFlit(t, "another length", sealed(head+string([]byte{byte(said)})+"abc"))
		}
	}
	checkNoFlit(t, "nine bytes", sealed(head+"\x09123456789"))
	checkNoFlit(t, "very long", sealed(head+"\x08"+strings.Repeat("x", 264)))
	checkNoFlit(t, "an ack with a body", sealed("\x02\x00\x00\x07\x01a"))
	for kind := range 256 {
		if kind != 1 && kind != 2 {
			checkNoFlit(t, "another kind", sealed(string([]byte{byte(kind), 0, 0, 7, 0})))
		}
	}
	for _, seq := range []int64{1000001, 1000002, 1048576, 16777215} {
		checkNoFlit(t, "its number is too great", bytesBy(dataFlit(seq, "a")))
		checkNoFlit(t, "its number is too great", bytesBy(ackFlit(seq)))
	}
	crc := right[len(right)-2:]
	checkNoFlit(t, "the CRC turned round", right[:len(right)-2]+crc[1:]+crc[:1])
	checkNoFlit(t, "nothing for a CRC", right[:len(right)-2]+"\x00\x00")
}

func turnedAt(text string, bit int) string {
	list := []byte(text)
	list[bit/8] ^= []byte{1, 2, 4, 8, 16, 32, 64, 128}[bit%8]
	return string(list)
}

// Promise 8: right flits come back from their bytes; whichever one bit of one
// is turned, it is none.
func TestFlitsWithATurnedBit(t *testing.T) {
	d := draw{state: 82}
	flits := []impl.Flit{dataFlit(0, ""), dataFlit(1000000, "12345678"), dataFlit(0, "\x00\x00\x00\x00\x00\x00\x00\x00"), ackFlit(0), ackFlit(1), ackFlit(1000000)}
	for range 500 {
		var body []byte
		for range d.upTo(9) {
			body = append(body, byte(d.upTo(256)))
		}
		flits = append(flits, dataFlit(d.upTo(1000001), string(body)), ackFlit(d.upTo(1000001)))
	}
	for _, f := range flits {
		checkFlit(t, f)
		text := impl.FlitText(f)
		for bit := range 8 * len(text) {
			checkNoFlit(t, "a turned bit", turnedAt(text, bit))
		}
	}
}

func dataWire(seq int64, body string) impl.Wire {
	return impl.Wire{Text: bytesBy(dataFlit(seq, body))}
}

func ackWire(seq int64) impl.Wire { return impl.Wire{Text: bytesBy(ackFlit(seq))} }

func hurtWire(w impl.Wire, bit int) impl.Wire {
	return impl.Wire{Text: turnedAt(w.Text, bit), Hurt: true}
}

func acks(seqs ...int64) []impl.Wire {
	var wires []impl.Wire
	for _, seq := range seqs {
		wires = append(wires, ackWire(seq))
	}
	return wires
}

// lettersOf are so many texts, a and so on.
func lettersOf(count int) []string { return strings.Split("abcdefghijklmnop"[:count], "") }

// datasOf are the first letters on their way, from that number on.
func datasOf(from int64, letters string) []impl.Wire {
	var wires []impl.Wire
	for at, letter := range strings.Split(letters, "") {
		wires = append(wires, dataWire(from+int64(at), letter))
	}
	return wires
}

func sameLink(a impl.Link, b impl.Link) bool {
	return a.Base == b.Base && a.Want == b.Want && slices.Equal(a.Waits, b.Waits) && slices.Equal(a.Got, b.Got) && slices.Equal(a.Down, b.Down) && slices.Equal(a.Up, b.Up)
}

func copyLink(l impl.Link) impl.Link {
	l.Waits, l.Got = slices.Clone(l.Waits), slices.Clone(l.Got)
	l.Down, l.Up = slices.Clone(l.Down), slices.Clone(l.Up)
	return l
}

// show leaves out most of a long list of texts.
func show(l impl.Link) string {
	text := fmt.Sprintf("{Base %d Waits %q Want %d Got %d, the last of them %q", l.Base, l.Waits, l.Want, len(l.Got), l.Got[max(0, len(l.Got)-12):])
	for _, w := range l.Down {
		text += fmt.Sprintf(" Down %q %v", w.Text, w.Hurt)
	}
	for _, w := range l.Up {
		text += fmt.Sprintf(" Up %q %v", w.Text, w.Hurt)
	}
	return text + "}"
}

func isNoLink(l impl.Link) bool { return sameLink(l, impl.Link{}) }

func linkWith(l impl.Link, change func(*impl.Link)) impl.Link {
	n := copyLink(l)
	change(&n)
	return n
}

// fourOnTheWay has got the first two of four texts, of which one is known to
// be got; much is under way, of which some was hurt.
func fourOnTheWay() impl.Link {
	return impl.Link{
		Base:  1,
		Waits: []string{"b", "c", "d"},
		Want:  2,
		Got:   []string{"a", "b"},
		Down:  []impl.Wire{dataWire(1, "b"), dataWire(2, "c"), hurtWire(dataWire(3, "d"), 44), dataWire(0, "a")},
		Up:    []impl.Wire{ackWire(1), ackWire(2), hurtWire(ackWire(2), 3)},
	}
}

// farLink is one that so many texts have gone over, and so many wait; none of
// these is got.
func farLink(base int64, waits int) impl.Link {
	return impl.Link{Base: base, Want: base, Got: make([]string, base), Waits: lettersOf(waits)}
}

const lastBase = 999900

func sizedWire(size int) impl.Wire { return impl.Wire{Text: strings.Repeat("w", size)} }

func TestRightLinks(t *testing.T) {
	eight := lettersOf(8)
	right := []impl.Link{
		{},
		{Waits: []string{}, Got: []string{}, Down: []impl.Wire{}, Up: []impl.Wire{}},
		fourOnTheWay(),
		{Waits: eight},
		{Waits: eight, Want: 1, Got: eight[:1]},
		{Waits: eight, Want: 8, Got: eight},
		{Base: 2, Want: 2, Got: []string{"", "x"}},
		{Base: 2, Want: 2, Got: []string{"p", "q"}, Waits: eight},
		{Base: 2, Want: 10, Got: append([]string{"p", "q"}, eight...), Waits: eight},
		{Waits: []string{"12345678", ""}, Want: 2, Got: []string{"12345678", ""}},
		{Down: slices.Repeat([]impl.Wire{sizedWire(7)}, 12), Up: slices.Repeat([]impl.Wire{sizedWire(15)}, 12)},
		{Down: []impl.Wire{{Text: "wwwwwww", Hurt: true}}},
		farLink(lastBase, 0),
		farLink(lastBase, 8),
	}
	for _, l := range right {
		if !impl.LinkOk(l) {
			t.Error("not right:", show(l))
		}
	}
}

func wrongLinks() []impl.Link {
	eight := lettersOf(8)
	wrong := []impl.Link{
		{Base: -1},
		{Base: -1, Waits: eight},
		{Base: 1},
		{Base: 1, Got: []string{"a"}},
		{Base: 1, Want: 1},
		{Base: 1, Waits: eight, Got: []string{"a"}},
		{Want: 1},
		{Want: -1},
		{Want: 1, Got: []string{"a"}},
		{Want: 1, Waits: []string{"a"}},
		{Want: 0, Waits: []string{"a"}, Got: []string{"a"}},
		{Want: 2, Waits: []string{"a"}, Got: []string{"a"}},
		{Want: 2, Waits: []string{"a"}, Got: []string{"a", "b"}},
		{Base: 1, Want: 0, Waits: []string{"a"}},
		{Base: 2, Want: 1, Waits: []string{"a"}, Got: []string{"a"}},
		{Base: 2, Want: 2, Waits: []string{"a"}, Got: []string{"a"}},
		{Want: 1, Waits: []string{"a"}, Got: []string{"b"}},
		{Want: 1, Waits: []string{"a"}, Got: []string{""}},
		{Want: 2, Waits: []string{"a", "b"}, Got: []string{"a", "c"}},
		{Want: 2, Waits: []string{"a", "b"}, Got: []string{"b", "a"}},
		{Base: 1, Want: 2, Waits: []string{"a", "b"}, Got: []string{"a", "b"}},
		{Waits: lettersOf(9)},
		{Waits: []string{"123456789"}},
		{Waits: []string{"a", "123456789"}},
		{Base: 1, Want: 1, Got: []string{"123456789"}},
		{Want: 1, Waits: []string{"123456789"}, Got: []string{"123456789"}},
		{Down: slices.Repeat([]impl.Wire{sizedWire(7)}, 13)},
		{Up: slices.Repeat([]impl.Wire{sizedWire(7)}, 13)},
		{Down: []impl.Wire{{}}},
		{Base: math.MaxInt64, Want: math.MaxInt64, Waits: eight},
		{Base: math.MinInt64, Want: math.MinInt64, Waits: eight},
		{Want: math.MaxInt64},
		{Want: math.MinInt64},
	}
	for _, size := range []int{0, 6, 16, 300} {
		wrong = append(wrong, impl.Link{Down: []impl.Wire{sizedWire(size)}}, impl.Link{Up: []impl.Wire{sizedWire(size)}},
			impl.Link{Down: []impl.Wire{sizedWire(7), sizedWire(size)}}, impl.Link{Up: []impl.Wire{sizedWire(7), sizedWire(size)}})
	}
	return wrong
}

func TestWrongLinks(t *testing.T) {
	for _, l := range append(wrongLinks(), farLink(lastBase+1, 0), farLink(lastBase+1, 8)) {
		if impl.LinkOk(l) {
			t.Error("right:", show(l))
		}
		if got, code := impl.LinkDo(l, impl.LAct{Kind: impl.AkSend}); code != impl.LkWrong || !isNoLink(got) {
			t.Error("a send is", code, show(got))
		}
		if got, code := impl.LinkDo(l, impl.LAct{Kind: 9, At: 1}); code != impl.LkWrong || !isNoLink(got) {
			t.Error("a wrong act is", code, show(got))
		}
		if got, codes := impl.LinkPlay(l, []impl.LAct{{Kind: impl.AkSend}}); len(codes) != 0 || !isNoLink(got) {
			t.Error("it plays", codes, show(got))
		}
		if got, codes := impl.LinkPlay(l, nil); len(codes) != 0 || !isNoLink(got) {
			t.Error("it plays", codes, show(got))
		}
		if got, ok := impl.LinkCalmed(l); ok || !isNoLink(got) {
			t.Error("it calms to", ok, show(got))
		}
	}
}

func offer(body string) impl.LAct { return impl.LAct{Kind: impl.AkOffer, Body: body} }

func linkAt(kind int64, at int64) impl.LAct { return impl.LAct{Kind: kind, At: at} }

func flipAt(kind int64, at int64, bit int64) impl.LAct {
	return impl.LAct{Kind: kind, At: at, Bit: bit}
}

var sendIt = impl.LAct{Kind: impl.AkSend}

// linkCase has no next when the link stays as it is.
type linkCase struct {
	name string
	link impl.Link
	act  impl.LAct
	code int64
	next func(*impl.Link)
}

func checkLinkCases(t *testing.T, list []linkCase) {
	t.Helper()
	for _, c := range list {
		want := copyLink(c.link)
		if c.next != nil {
			c.next(&want)
		}
		got, code := impl.LinkDo(c.link, c.act)
		if code != c.code || !sameLink(got, want) {
			t.Errorf("%s: %v tells %d, not %d, with\n%s, not\n%s", c.name, c.act, code, c.code, show(got), show(want))
		}
	}
}

func TestOffers(t *testing.T) {
	four, seven := fourOnTheWay(), impl.Link{Waits: lettersOf(7)}
	full := impl.Link{Waits: lettersOf(8)}
	allGot := impl.Link{Waits: lettersOf(8), Want: 8, Got: lettersOf(8)}
	checkLinkCases(t, []linkCase{
		{"the first", impl.Link{}, offer("a"), impl.LkDone, func(l *impl.Link) { l.Waits = []string{"a"} }},
		{"nothing", impl.Link{}, offer(""), impl.LkDone, func(l *impl.Link) { l.Waits = []string{""} }},
		{"eight bytes", impl.Link{}, offer("12345678"), impl.LkDone, func(l *impl.Link) { l.Waits = []string{"12345678"} }},
		{"nine bytes", impl.Link{}, offer("123456789"), impl.LkForm, nil},
		{"behind all", four, offer("e"), impl.LkDone, func(l *impl.Link) { l.Waits = []string{"b", "c", "d", "e"} }},
		{"the eighth", seven, offer("h"), impl.LkDone, func(l *impl.Link) { l.Waits = lettersOf(8) }},
		{"the ninth", full, offer("i"), impl.LkFull, nil},
		{"the ninth, all got", allGot, offer("i"), impl.LkFull, nil},
		{"the ninth, of nine bytes", full, offer("123456789"), impl.LkForm, nil},
		{"the ninth, with a place", full, impl.LAct{Kind: impl.AkOffer, At: 1}, impl.LkForm, nil},
	})
}

func TestSends(t *testing.T) {
	nine := slices.Repeat([]impl.Wire{sizedWire(7)}, 9)
	ten := slices.Repeat([]impl.Wire{sizedWire(7)}, 10)
	twelve := slices.Repeat([]impl.Wire{sizedWire(7)}, 12)
	checkLinkCases(t, []linkCase{
		{"none waits", impl.Link{}, sendIt, impl.LkDone, nil},
		{"none waits, full", impl.Link{Down: twelve}, sendIt, impl.LkDone, nil},
		{"one waits", impl.Link{Waits: lettersOf(1)}, sendIt, impl.LkDone, func(l *impl.Link) { l.Down = datasOf(0, "a") }},
		{"two wait", impl.Link{Waits: lettersOf(2)}, sendIt, impl.LkDone, func(l *impl.Link) { l.Down = datasOf(0, "ab") }},
		{"Ahead wait", impl.Link{Waits: lettersOf(3)}, sendIt, impl.LkDone, func(l *impl.Link) { l.Down = datasOf(0, "abc") }},
		{"more wait", impl.Link{Waits: lettersOf(4)}, sendIt, impl.LkDone, func(l *impl.Link) { l.Down = datasOf(0, "abc") }},
		{"eight wait", impl.Link{Waits: lettersOf(8)}, sendIt, impl.LkDone, func(l *impl.Link) { l.Down = datasOf(0, "abc") }},
		{"what is got", impl.Link{Waits: lettersOf(4), Want: 2, Got: lettersOf(2)}, sendIt, impl.LkDone, func(l *impl.Link) { l.Down = datasOf(0, "abc") }},
		{"with its number", fourOnTheWay(), sendIt, impl.LkDone, func(l *impl.Link) { l.Down = append(l.Down, datasOf(1, "bcd")...) }},
		{"twelve then", impl.Link{Waits: lettersOf(3), Down: nine}, sendIt, impl.LkDone, func(l *impl.Link) { l.Down = append(l.Down, datasOf(0, "abc")...) }},
		{"thirteen then", impl.Link{Waits: lettersOf(3), Down: ten}, sendIt, impl.LkFull, nil},
		{"two, twelve then", impl.Link{Waits: lettersOf(2), Down: ten}, sendIt, impl.LkDone, func(l *impl.Link) { l.Down = append(l.Down, datasOf(0, "ab")...) }},
		{"one, thirteen then", impl.Link{Waits: lettersOf(1), Down: twelve}, sendIt, impl.LkFull, nil},
		{"with a body", impl.Link{Waits: lettersOf(1), Down: twelve}, impl.LAct{Kind: impl.AkSend, Body: "a"}, impl.LkForm, nil},
		{"the last numbers", farLink(lastBase, 8), sendIt, impl.LkDone, func(l *impl.Link) { l.Down = datasOf(lastBase, "abc") }},
	})
}

func TestTextsThatComeDown(t *testing.T) {
	four := fourOnTheWay()
	down := func(wires ...impl.Wire) impl.Link {
		return linkWith(four, func(l *impl.Link) { l.Down = wires })
	}
	come, second := linkAt(impl.AkDown, 0), linkAt(impl.AkDown, 1)
	goes := func(l *impl.Link) { l.Down = l.Down[1:] }
	toldTwo := func(l *impl.Link) { l.Down, l.Up = l.Down[1:], append(l.Up, ackWire(2)) }
	toldThree := func(l *impl.Link) {
		l.Down, l.Up, l.Got, l.Want = l.Down[1:], append(l.Up, ackWire(3)), append(l.Got, "c"), 3
	}
	checkLinkCases(t, []linkCase{
		{"what is wanted", down(dataWire(2, "c"), dataWire(3, "d")), come, impl.LkDone, toldThree},
		{"the second", down(dataWire(3, "d"), dataWire(2, "c"), dataWire(3, "d")), second, impl.LkDone, func(l *impl.Link) {
			l.Down, l.Up, l.Got, l.Want = datasOf(3, "d"), append(l.Up, ackWire(3)), append(l.Got, "c"), 3
			l.Down = append(l.Down, dataWire(3, "d"))
		}},
		{"what is got", down(dataWire(1, "b")), come, impl.LkDone, toldTwo},
		{"what waits no more", down(dataWire(0, "a")), come, impl.LkDone, toldTwo},
		{"too early", down(dataWire(3, "d")), come, impl.LkDone, toldTwo},
		{"a number far out", down(dataWire(1000000, "d")), come, impl.LkDone, toldTwo},
		{"a number and a body of none", down(dataWire(1, "zz")), come, impl.LkDone, toldTwo},
		{"one that was hurt", down(hurtWire(dataWire(2, "c"), 7)), come, impl.LkDone, goes},
		{"one that is said to be hurt", down(impl.Wire{Text: dataWire(2, "c").Text, Hurt: true}), come, impl.LkDone, toldThree},
		{"one that is no flit", down(sizedWire(9)), come, impl.LkDone, goes},
		{"an ack", down(ackWire(2)), come, impl.LkDone, goes},
		{"nothing is there", down(), come, impl.LkNone, nil},
		{"nothing is behind the last one", down(dataWire(2, "c")), second, impl.LkNone, nil},
		{"nothing is below 0", down(dataWire(2, "c")), linkAt(impl.AkDown, -1), impl.LkNone, nil},
		// Nothing waits with that number: it is told, but not got.
		{"one that does not wait", impl.Link{Down: datasOf(0, "a")}, come, impl.LkDone, func(l *impl.Link) { l.Down, l.Up = nil, acks(0) }},
		{"one behind all that wait", impl.Link{Waits: lettersOf(1), Want: 1, Got: lettersOf(1), Down: datasOf(1, "b")}, come, impl.LkDone, func(l *impl.Link) { l.Down, l.Up = nil, acks(1) }},
		{"the last one that waits", impl.Link{Waits: lettersOf(2), Want: 1, Got: lettersOf(1), Down: datasOf(1, "b")}, come, impl.LkDone, func(l *impl.Link) {
			l.Down, l.Up, l.Got, l.Want = nil, acks(2), lettersOf(2), 2
		}},
		// What would be got is not what waits: that would be no right link.
		{"another body", down(dataWire(2, "x")), come, impl.LkFull, nil},
		{"no body", down(dataWire(2, "")), come, impl.LkFull, nil},
	})
}

func TestTextsThatComeDownWithMuchUp(t *testing.T) {
	eleven := slices.Repeat(acks(0), 11)
	twelve := slices.Repeat(acks(0), 12)
	at := func(up []impl.Wire, wires ...impl.Wire) impl.Link {
		return impl.Link{Waits: lettersOf(2), Down: wires, Up: up}
	}
	come := linkAt(impl.AkDown, 0)
	checkLinkCases(t, []linkCase{
		{"the twelfth", at(eleven, dataWire(0, "a")), come, impl.LkDone, func(l *impl.Link) {
			l.Down, l.Up, l.Got, l.Want = nil, append(slices.Clone(eleven), ackWire(1)), lettersOf(1), 1
		}},
		{"the thirteenth", at(twelve, dataWire(0, "a")), come, impl.LkFull, nil},
		{"the thirteenth, too early", at(twelve, dataWire(1, "b")), come, impl.LkFull, nil},
		{"no text comes of it", at(twelve, hurtWire(dataWire(0, "a"), 3)), come, impl.LkDone, func(l *impl.Link) { l.Down = nil }},
		{"nothing is there", at(twelve), come, impl.LkNone, nil},
		{"it is lost", at(twelve, dataWire(0, "a")), linkAt(impl.AkLoseD, 0), impl.LkDone, func(l *impl.Link) { l.Down = nil }},
	})
}

func TestTextsThatComeUp(t *testing.T) {
	base := impl.Link{Base: 1, Waits: []string{"b", "c", "d", "e"}, Want: 3, Got: lettersOf(3), Down: datasOf(1, "b")}
	up := func(wires ...impl.Wire) impl.Link {
		return linkWith(base, func(l *impl.Link) { l.Up = wires })
	}
	come, second := linkAt(impl.AkUp, 0), linkAt(impl.AkUp, 1)
	goes := func(l *impl.Link) { l.Up = l.Up[1:] }
	checkLinkCases(t, []linkCase{
		{"one more", up(ackWire(2)), come, impl.LkDone, func(l *impl.Link) { l.Up, l.Base, l.Waits = nil, 2, l.Waits[1:] }},
		{"up to Want", up(ackWire(3), ackWire(2)), come, impl.LkDone, func(l *impl.Link) { l.Up, l.Base, l.Waits = acks(2), 3, l.Waits[2:] }},
		{"the second", up(ackWire(2), ackWire(3), ackWire(1)), second, impl.LkDone, func(l *impl.Link) { l.Up, l.Base, l.Waits = acks(2, 1), 3, l.Waits[2:] }},
		{"Base itself", up(ackWire(1)), come, impl.LkDone, goes},
		{"an old one", up(ackWire(0)), come, impl.LkDone, goes},
		{"above Want", up(ackWire(4)), come, impl.LkDone, goes},
		{"the end of all that wait", up(ackWire(5)), come, impl.LkDone, goes},
		{"far out", up(ackWire(1000000)), come, impl.LkDone, goes},
		{"one that was hurt", up(hurtWire(ackWire(2), 31)), come, impl.LkDone, goes},
		{"one that is said to be hurt", up(impl.Wire{Text: ackWire(2).Text, Hurt: true}), come, impl.LkDone, func(l *impl.Link) { l.Up, l.Base, l.Waits = nil, 2, l.Waits[1:] }},
		{"one that is no flit", up(sizedWire(15)), come, impl.LkDone, goes},
		{"one that is no ack", up(dataWire(2, "c"), ackWire(3)), come, impl.LkDone, goes},
		{"an ack with a body", up(impl.Wire{Text: sealed("\x02\x00\x00\x02\x01x")}), come, impl.LkDone, goes},
		{"nothing is there", up(), come, impl.LkNone, nil},
		{"nothing is behind the last one", up(ackWire(2)), second, impl.LkNone, nil},
		{"nothing is below 0", up(ackWire(2)), linkAt(impl.AkUp, -1), impl.LkNone, nil},
		{"far behind", up(ackWire(2)), linkAt(impl.AkUp, math.MaxInt64), impl.LkNone, nil},
		{"far below", up(ackWire(2)), linkAt(impl.AkUp, math.MinInt64), impl.LkNone, nil},
	})
	all := impl.Link{Waits: lettersOf(8), Want: 8, Got: lettersOf(8), Up: acks(8)}
	checkLinkCases(t, []linkCase{
		{"all", all, come, impl.LkDone, func(l *impl.Link) { l.Up, l.Base, l.Waits = nil, 8, nil }},
	})
}

// The greatest Base is met exactly, and passed by one.
func TestTheLastBase(t *testing.T) {
	l := farLink(lastBase-1, 2)
	l.Got, l.Want = append(l.Got, "a", "b"), lastBase+1
	l.Up = acks(lastBase, lastBase+1)
	first := func(l *impl.Link) { l.Up, l.Base, l.Waits = acks(lastBase+1), lastBase, []string{"b"} }
	checkLinkCases(t, []linkCase{
		{"up to it", l, linkAt(impl.AkUp, 0), impl.LkDone, first},
		{"above it", l, linkAt(impl.AkUp, 1), impl.LkFull, nil},
		{"above it, then", linkWith(l, first), linkAt(impl.AkUp, 0), impl.LkFull, nil},
	})
}

func TestTextsThatAreLost(t *testing.T) {
	four := fourOnTheWay()
	d, u := four.Down, four.Up
	checkLinkCases(t, []linkCase{
		{"the first down", four, linkAt(impl.AkLoseD, 0), impl.LkDone, func(l *impl.Link) { l.Down = d[1:] }},
		{"one down", four, linkAt(impl.AkLoseD, 1), impl.LkDone, func(l *impl.Link) { l.Down = []impl.Wire{d[0], d[2], d[3]} }},
		{"one that was hurt", four, linkAt(impl.AkLoseD, 2), impl.LkDone, func(l *impl.Link) { l.Down = []impl.Wire{d[0], d[1], d[3]} }},
		{"the last down", four, linkAt(impl.AkLoseD, 3), impl.LkDone, func(l *impl.Link) { l.Down = d[:3] }},
		{"none down", four, linkAt(impl.AkLoseD, 4), impl.LkNone, nil},
		{"below 0 down", four, linkAt(impl.AkLoseD, -1), impl.LkNone, nil},
		{"the first up", four, linkAt(impl.AkLoseU, 0), impl.LkDone, func(l *impl.Link) { l.Up = u[1:] }},
		{"the last up", four, linkAt(impl.AkLoseU, 2), impl.LkDone, func(l *impl.Link) { l.Up = u[:2] }},
		{"none up", four, linkAt(impl.AkLoseU, 3), impl.LkNone, nil},
		{"below 0 up", four, linkAt(impl.AkLoseU, -1), impl.LkNone, nil},
		{"nothing down", impl.Link{Up: u}, linkAt(impl.AkLoseD, 0), impl.LkNone, nil},
		{"nothing up", impl.Link{Down: d}, linkAt(impl.AkLoseU, 0), impl.LkNone, nil},
	})
}

func TestTextsThatAreHurt(t *testing.T) {
	four := fourOnTheWay()
	d, u := four.Down, four.Up
	checkLinkCases(t, []linkCase{
		{"the lowest bit", four, flipAt(impl.AkFlipD, 0, 0), impl.LkDone, func(l *impl.Link) { l.Down[0] = hurtWire(d[0], 0) }},
		{"the highest of the first byte", four, flipAt(impl.AkFlipD, 1, 7), impl.LkDone, func(l *impl.Link) { l.Down[1] = hurtWire(d[1], 7) }},
		{"the lowest of the second byte", four, flipAt(impl.AkFlipD, 3, 8), impl.LkDone, func(l *impl.Link) { l.Down[3] = hurtWire(d[3], 8) }},
		{"the last bit", four, flipAt(impl.AkFlipD, 0, 63), impl.LkDone, func(l *impl.Link) { l.Down[0] = hurtWire(d[0], 63) }},
		{"behind the last bit", four, flipAt(impl.AkFlipD, 0, 64), impl.LkForm, nil},
		{"below the first bit", four, flipAt(impl.AkFlipD, 0, -1), impl.LkForm, nil},
		{"it is hurt", four, flipAt(impl.AkFlipD, 2, 44), impl.LkHurt, nil},
		{"it is hurt elsewhere", four, flipAt(impl.AkFlipD, 2, 0), impl.LkHurt, nil},
		{"it is hurt, behind its last bit", four, flipAt(impl.AkFlipD, 2, 64), impl.LkForm, nil},
		{"it is hurt, below its first bit", four, flipAt(impl.AkFlipD, 2, -1), impl.LkForm, nil},
		{"nothing is there", four, flipAt(impl.AkFlipD, 4, 0), impl.LkNone, nil},
		{"nothing is there, below 0", four, flipAt(impl.AkFlipD, -1, 0), impl.LkNone, nil},
		{"nothing is there to have a bit", four, flipAt(impl.AkFlipD, 4, 9999), impl.LkNone, nil},
		{"nothing is there to have a bit below 0", four, flipAt(impl.AkFlipD, -1, -1), impl.LkNone, nil},
		{"up", four, flipAt(impl.AkFlipU, 1, 9), impl.LkDone, func(l *impl.Link) { l.Up[1] = hurtWire(u[1], 9) }},
		{"up, the last bit", four, flipAt(impl.AkFlipU, 0, 55), impl.LkDone, func(l *impl.Link) { l.Up[0] = hurtWire(u[0], 55) }},
		{"up, behind the last bit", four, flipAt(impl.AkFlipU, 0, 56), impl.LkForm, nil},
		{"up, below the first bit", four, flipAt(impl.AkFlipU, 0, -1), impl.LkForm, nil},
		{"up, it is hurt", four, flipAt(impl.AkFlipU, 2, 0), impl.LkHurt, nil},
		{"up, it is hurt, too great", four, flipAt(impl.AkFlipU, 2, 56), impl.LkForm, nil},
		{"up, nothing is there", four, flipAt(impl.AkFlipU, 3, 56), impl.LkNone, nil},
		{"far out", four, flipAt(impl.AkFlipU, 0, math.MaxInt64), impl.LkForm, nil},
		{"far below", four, flipAt(impl.AkFlipU, 0, math.MinInt64), impl.LkForm, nil},
	})
	wide := impl.Link{Down: []impl.Wire{sizedWire(15)}}
	checkLinkCases(t, []linkCase{
		{"wide, the last bit", wide, flipAt(impl.AkFlipD, 0, 119), impl.LkDone, func(l *impl.Link) { l.Down[0] = hurtWire(sizedWire(15), 119) }},
		{"wide, behind the last bit", wide, flipAt(impl.AkFlipD, 0, 120), impl.LkForm, nil},
	})
}

// Each field that a kind does not name is asked for ahead of all else.
func TestFormsOfLinkActs(t *testing.T) {
	names := map[int64]string{1: "Body", 2: "", 3: "At", 4: "At", 5: "At", 6: "At", 7: "At Bit", 8: "At Bit"}
	empty, four := impl.Link{}, fourOnTheWay()
	full := impl.Link{Waits: lettersOf(8), Down: slices.Repeat(datasOf(0, "a"), 12), Up: slices.Repeat(acks(0), 12)}
	for _, l := range []impl.Link{empty, four, full} {
		for kind := int64(-2); kind <= 11; kind++ {
			fields, isKind := names[kind]
			for _, a := range []impl.LAct{{At: 1}, {At: -1}, {Bit: 1}, {Bit: -1}, {Body: "a"}, {At: 1, Bit: 1, Body: "a"}, {Body: "123456789"}} {
				a.Kind = kind
				named := isKind && (a.At == 0 || strings.Contains(fields, "At")) && (a.Bit == 0 || strings.Contains(fields, "Bit")) && (a.Body == "" || fields == "Body") && len(a.Body) <= 8
				got, code := impl.LinkDo(l, a)
				if !named && (code != impl.LkForm || !sameLink(got, l)) {
					t.Error(a, "is", code, show(got), "at", show(l))
				}
				if named && code == impl.LkForm && a.Bit >= 0 {
					t.Error(a, "is", code, "at", show(l))
				}
			}
			if got, code := impl.LinkDo(l, impl.LAct{Kind: kind}); !isKind && (code != impl.LkForm || !sameLink(got, l)) {
				t.Error("kind", kind, "is", code, show(got))
			}
		}
	}
	for _, kind := range []int64{math.MinInt64, math.MaxInt64} {
		if got, code := impl.LinkDo(four, impl.LAct{Kind: kind}); code != impl.LkForm || !sameLink(got, four) {
			t.Error("kind", kind, "is", code, show(got))
		}
	}
}

// A text that comes twice, late, is got once, and each time told by an ack of
// what is wanted then.
func TestATextThatComesTwiceLate(t *testing.T) {
	acts := []impl.LAct{
		offer("a"), offer("b"), sendIt, sendIt,
		linkAt(impl.AkDown, 0), linkAt(impl.AkDown, 0), linkAt(impl.AkDown, 0), linkAt(impl.AkDown, 0),
	}
	l, codes := impl.LinkPlay(impl.Link{}, acts)
	want := impl.Link{Waits: lettersOf(2), Want: 2, Got: lettersOf(2), Up: acks(1, 2, 2, 2)}
	if slices.Max(codes) != impl.LkDone || !sameLink(l, want) {
		t.Errorf("%v %s, not %s", codes, show(l), show(want))
	}
	// The first text is kept back until all else is known to be got.
	acts = []impl.LAct{
		offer("a"), sendIt, sendIt, linkAt(impl.AkDown, 1), linkAt(impl.AkUp, 0), offer("a"), sendIt, linkAt(impl.AkDown, 0),
	}
	l, codes = impl.LinkPlay(impl.Link{}, acts)
	want = impl.Link{Base: 1, Waits: []string{"a"}, Want: 1, Got: lettersOf(1), Down: datasOf(1, "a"), Up: acks(1)}
	if slices.Max(codes) != impl.LkDone || !sameLink(l, want) {
		t.Errorf("%v %s, not %s", codes, show(l), show(want))
	}
	l, codes = impl.LinkPlay(l, []impl.LAct{linkAt(impl.AkDown, 0), linkAt(impl.AkUp, 1), linkAt(impl.AkUp, 0)})
	want = impl.Link{Base: 2, Want: 2, Got: []string{"a", "a"}}
	if slices.Max(codes) != impl.LkDone || !sameLink(l, want) {
		t.Errorf("%v %s, not %s", codes, show(l), show(want))
	}
}

func linkRightBy(l impl.Link) bool {
	waits, got := int64(len(l.Waits)), int64(len(l.Got))
	if l.Base < 0 || l.Base > 1000000-100 || waits > 8 || got != l.Want || l.Want < l.Base || l.Want > l.Base+waits {
		return false
	}
	for number := l.Base; number < l.Want; number++ {
		if l.Got[number] != l.Waits[number-l.Base] {
			return false
		}
	}
	tooLong := func(text string) bool { return len(text) > 8 }
	noSize := func(w impl.Wire) bool { return len(w.Text) < 7 || len(w.Text) > 15 }
	return !slices.ContainsFunc(l.Waits, tooLong) && !slices.ContainsFunc(l.Got, tooLong) &&
		len(l.Down) <= 12 && len(l.Up) <= 12 && !slices.ContainsFunc(l.Down, noSize) && !slices.ContainsFunc(l.Up, noSize)
}

// flitBy takes a text of a right size to pieces.
func flitBy(s string) (impl.Flit, bool) {
	end := len(s) - 2
	f := impl.Flit{Kind: int64(s[0]), Seq: int64(s[1])*65536 + int64(s[2])*256 + int64(s[3]), Body: s[5:end]}
	return f, sealed(s[:end]) == s && int(s[4]) == end-5 && flitRightBy(f)
}

// linkBy is the document's chapter, line by line; n is changed on the way.
func linkBy(l impl.Link, a impl.LAct) (impl.Link, int64) {
	if !linkRightBy(l) {
		return impl.Link{}, impl.LkWrong
	}
	n := copyLink(l)
	if code := changeBy(&n, a); code != impl.LkDone {
		return l, code
	}
	if !linkRightBy(n) {
		return l, impl.LkFull
	}
	return n, impl.LkDone
}

func changeBy(n *impl.Link, a impl.LAct) int64 {
	if a.Kind < 1 || a.Kind > 8 || len(a.Body) > 8 {
		return impl.LkForm
	}
	if a.Kind != 1 && a.Body != "" || a.Kind < 3 && a.At != 0 || a.Kind < 7 && a.Bit != 0 {
		return impl.LkForm
	}
	switch a.Kind {
	case 1:
		n.Waits = append(n.Waits, a.Body)
		return impl.LkDone
	case 2:
		for at, body := range n.Waits {
			if at < 3 {
				n.Down = append(n.Down, dataWire(n.Base+int64(at), body))
			}
		}
		return impl.LkDone
	}
	list := &n.Down
	if a.Kind%2 == 0 {
		list = &n.Up
	}
	if a.At < 0 || a.At >= int64(len(*list)) {
		return impl.LkNone
	}
	w := &(*list)[a.At]
	if a.Kind >= 7 {
		if a.Bit < 0 || a.Bit/8 >= int64(len(w.Text)) {
			return impl.LkForm
		}
		if w.Hurt {
			return impl.LkHurt
		}
		*w = hurtWire(*w, int(a.Bit))
		return impl.LkDone
	}
	f, isFlit := flitBy(w.Text)
	*list = slices.Delete(*list, int(a.At), int(a.At)+1)
	if isFlit {
		arrivedBy(n, a.Kind, f)
	}
	return impl.LkDone
}

func arrivedBy(n *impl.Link, kind int64, f impl.Flit) {
	if kind == impl.AkDown && f.Kind == impl.FlData {
		if f.Seq == n.Want && f.Seq < n.Base+int64(len(n.Waits)) {
			n.Got = append(n.Got, f.Body)
			n.Want++
		}
		n.Up = append(n.Up, ackWire(n.Want))
	}
	if kind == impl.AkUp && f.Kind == impl.FlAck {
		for n.Base < f.Seq && f.Seq <= n.Want {
			n.Waits = n.Waits[1:]
			n.Base++
		}
	}
}

func (d *draw) letter() string { return "abcde"[d.upTo(5):][:1] }

// wire is often one that means something at that link, sometimes a forged or
// a hurt one.
func (d *draw) wire(l impl.Link) impl.Wire {
	number := max(0, l.Base+d.upTo(12)-2)
	w := ackWire(number)
	switch d.upTo(8) {
	case 0, 1, 2:
		body := d.letter()
		if at := number - l.Base; at >= 0 && at < int64(len(l.Waits)) && !d.oneIn(4) {
			body = l.Waits[at]
		}
		w = dataWire(number, body)
	case 3:
		w = dataWire(l.Want, d.letter())
	case 4:
		w = sizedWire(int(7 + d.upTo(9)))
	}
	if d.oneIn(6) {
		w = hurtWire(w, int(d.upTo(8*int64(len(w.Text)))))
	}
	return w
}

// few is a number up to most, which itself is often met.
func (d *draw) few(most int64) int64 {
	if d.oneIn(4) {
		return most
	}
	return d.upTo(most + 1)
}

// link is a right one, of any sizes.
func (d *draw) link() impl.Link {
	l := impl.Link{Base: d.upTo(6)}
	for range l.Base {
		l.Got = append(l.Got, d.letter())
	}
	for range d.few(8) {
		l.Waits = append(l.Waits, d.letter())
	}
	l.Want = l.Base + d.upTo(int64(len(l.Waits))+1)
	l.Got = append(l.Got, l.Waits[:l.Want-l.Base]...)
	for range d.few(12) {
		l.Down = append(l.Down, d.wire(l))
	}
	for range d.few(12) {
		l.Up = append(l.Up, d.wire(l))
	}
	return l
}

// linkAct is sometimes one that is refused for its form.
func (d *draw) linkAct(l impl.Link) impl.LAct {
	a := impl.LAct{Kind: 1 + d.upTo(8)}
	switch {
	case a.Kind == impl.AkOffer:
		a.Body = d.letter()
	case a.Kind > impl.AkSend:
		a.At = d.upTo(int64(max(len(l.Down), len(l.Up))) + 1)
	}
	if a.Kind >= impl.AkFlipD {
		a.Bit = d.upTo(64)
	}
	if d.oneIn(10) {
		fields := []*int64{&a.Kind, &a.At, &a.Bit}
		*fields[d.upTo(3)] += d.upTo(5) - 2
	}
	if d.oneIn(20) {
		a.Body = strings.Repeat("x", int(d.upTo(10)))
	}
	return a
}

func TestDrawnActsAtDrawnLinks(t *testing.T) {
	d := draw{state: 83}
	seen := map[[2]int64]int{}
	for range 60000 {
		l := d.link()
		if !impl.LinkOk(l) || !linkRightBy(l) {
			t.Fatalf("drawn, but not right: %s", show(l))
		}
		a := d.linkAct(l)
		got, code := impl.LinkDo(l, a)
		want, wantCode := linkBy(l, a)
		if code != wantCode || !sameLink(got, want) {
			t.Fatalf("%v at %s tells %d, not %d, with %s, not %s", a, show(l), code, wantCode, show(got), show(want))
		}
		if !impl.LinkOk(got) {
			t.Fatalf("%v at %s leaves %s, which is not right", a, show(l), show(got))
		}
		seen[[2]int64{a.Kind, code}]++
	}
	often := [][2]int64{
		{impl.AkOffer, impl.LkDone}, {impl.AkOffer, impl.LkForm}, {impl.AkOffer, impl.LkFull},
		{impl.AkSend, impl.LkDone}, {impl.AkSend, impl.LkForm}, {impl.AkSend, impl.LkFull},
		{impl.AkDown, impl.LkDone}, {impl.AkDown, impl.LkForm}, {impl.AkDown, impl.LkNone}, {impl.AkDown, impl.LkFull},
		{impl.AkUp, impl.LkDone}, {impl.AkUp, impl.LkForm}, {impl.AkUp, impl.LkNone},
		{impl.AkLoseD, impl.LkDone}, {impl.AkLoseD, impl.LkNone}, {impl.AkLoseU, impl.LkDone}, {impl.AkLoseU, impl.LkNone},
		{impl.AkFlipD, impl.LkDone}, {impl.AkFlipD, impl.LkForm}, {impl.AkFlipD, impl.LkNone}, {impl.AkFlipD, impl.LkHurt},
		{impl.AkFlipU, impl.LkDone}, {impl.AkFlipU, impl.LkForm}, {impl.AkFlipU, impl.LkNone}, {impl.AkFlipU, impl.LkHurt},
	}
	for _, kind := range often {
		if seen[kind] < 50 {
			t.Error("kind and code", kind, "were drawn too seldom:", seen[kind])
		}
	}
}

// Links that are near to right ones.
func TestLinkOkOfSpoiltLinks(t *testing.T) {
	d := draw{state: 84}
	var right, wrong int
	for range 40000 {
		l := d.link()
		switch d.upTo(8) {
		case 0:
			l.Base += d.upTo(3) - 1
		case 1:
			l.Want += d.upTo(3) - 1
		case 2:
			l.Waits = append(l.Waits, strings.Repeat("x", int(d.upTo(10))))
		case 3:
			l.Got = l.Got[:max(0, len(l.Got)-1)]
		case 4:
			if len(l.Got) > 0 {
				l.Got[d.upTo(int64(len(l.Got)))] = d.letter()
			}
		case 5:
			l.Down = append(l.Down, sizedWire(int(5+d.upTo(13))))
		case 6:
			l.Up = append(l.Up, sizedWire(int(5+d.upTo(13))))
		case 7:
			l.Waits = l.Waits[:max(0, len(l.Waits)-1)]
		}
		want := linkRightBy(l)
		if impl.LinkOk(l) != want {
			t.Fatalf("%s is right: %v", show(l), !want)
		}
		if want {
			right++
		} else {
			wrong++
		}
	}
	if right < 5000 || wrong < 5000 {
		t.Error("too few:", right, wrong)
	}
}

// checkOffered: what waits and what is got is what was offered, in its order.
func checkOffered(t *testing.T, l impl.Link, offered []string) {
	t.Helper()
	if !impl.LinkOk(l) {
		t.Fatalf("not right: %s", show(l))
	}
	if len(l.Got) > len(offered) || !slices.Equal(l.Got, offered[:len(l.Got)]) {
		t.Fatalf("got %q of %q", l.Got, offered)
	}
	if l.Base > int64(len(offered)) || !slices.Equal(l.Waits, offered[l.Base:]) {
		t.Fatalf("%q wait of %q", l.Waits, offered)
	}
}

// checkAllCome: when nothing is lost any more all that was offered is got.
func checkAllCome(t *testing.T, l impl.Link, offered []string) {
	t.Helper()
	got, ok := impl.LinkCalmed(l)
	size := int64(len(offered))
	want := impl.Link{Base: size, Want: size, Got: offered}
	if !ok || !sameLink(got, want) {
		t.Fatalf("%s calms to %v %s, not %s", show(l), ok, show(got), show(want))
	}
}

// Promise 8, with drawn acts from a new link on.
func TestWhatIsGotIsWhatWasOffered(t *testing.T) {
	d := draw{state: 85}
	var most int
	for range 60 {
		var l impl.Link
		var offered []string
		for range 400 {
			a := d.linkAct(l)
			if d.oneIn(2) {
				a = linkAt(impl.AkDown+d.upTo(2), 0)
			}
			next, code := impl.LinkDo(l, a)
			if code == impl.LkWrong {
				t.Fatalf("%s is refused as not right", show(l))
			}
			if a.Kind == impl.AkOffer && code == impl.LkDone {
				offered = append(offered, a.Body)
			}
			l = next
			checkOffered(t, l, offered)
		}
		checkAllCome(t, l, offered)
		most = max(most, len(l.Got))
	}
	if most < 20 {
		t.Error("no more were got than", most)
	}
}

// smallActs are all acts that a search does at a link: two texts are offered,
// no more than two are under way in each direction, and of a text the lowest
// bit is turned.
func smallActs(l impl.Link, offered []string) []impl.LAct {
	var acts []impl.LAct
	if len(offered) < 2 {
		acts = append(acts, offer("a"), offer("b"))
	}
	if len(l.Down)+min(3, len(l.Waits)) <= 2 {
		acts = append(acts, sendIt)
	}
	for at := range int64(len(l.Down)) {
		acts = append(acts, linkAt(impl.AkLoseD, at), flipAt(impl.AkFlipD, at, 0))
		if len(l.Up) < 2 {
			acts = append(acts, linkAt(impl.AkDown, at))
		}
	}
	for at := range int64(len(l.Up)) {
		acts = append(acts, linkAt(impl.AkLoseU, at), flipAt(impl.AkFlipU, at, 0), linkAt(impl.AkUp, at))
	}
	return acts
}

// Promise 8, at all links to which such acts lead.
func TestWhatIsGotEverywhere(t *testing.T) {
	type state struct {
		link    impl.Link
		offered []string
	}
	work := []state{{}}
	seen := map[string]int{show(work[0].link): 1}
	for len(work) > 0 {
		s := work[0]
		work = work[1:]
		checkOffered(t, s.link, s.offered)
		checkAllCome(t, s.link, s.offered)
		for _, a := range smallActs(s.link, s.offered) {
			next, code := impl.LinkDo(s.link, a)
			if code != impl.LkDone && code != impl.LkHurt {
				t.Fatalf("%v at %s tells %d", a, show(s.link), code)
			}
			then := state{next, s.offered}
			if a.Kind == impl.AkOffer {
				then.offered = append(slices.Clone(s.offered), a.Body)
			}
			key := show(next) + strings.Join(then.offered, "")
			if seen[key] == 0 {
				seen[key] = 1
				work = append(work, then)
			}
		}
	}
	if len(seen) < 1000 {
		t.Error("only", len(seen), "links were seen")
	}
}

func TestLinkPlay(t *testing.T) {
	acts := []impl.LAct{
		offer("a"), offer("b"), {}, sendIt, linkAt(impl.AkDown, 2), flipAt(impl.AkFlipD, 1, 5), flipAt(impl.AkFlipD, 1, 5),
		linkAt(impl.AkDown, 0), linkAt(impl.AkUp, 0), {Kind: impl.AkSend, Bit: 1},
	}
	want := []int64{impl.LkDone, impl.LkDone, impl.LkForm, impl.LkDone, impl.LkNone, impl.LkDone, impl.LkHurt, impl.LkDone, impl.LkDone, impl.LkForm}
	got, codes := impl.LinkPlay(impl.Link{}, acts)
	left := impl.Link{Base: 1, Waits: []string{"b"}, Want: 1, Got: lettersOf(1), Down: []impl.Wire{hurtWire(dataWire(1, "b"), 5)}}
	if !slices.Equal(codes, want) || !sameLink(got, left) {
		t.Errorf("%v %s, not %v %s", codes, show(got), want, show(left))
	}
	for _, none := range [][]impl.LAct{nil, {}} {
		if got, codes := impl.LinkPlay(left, none); len(codes) != 0 || !sameLink(got, left) {
			t.Errorf("%v %s", codes, show(got))
		}
	}
}

func TestLinkPlayLimits(t *testing.T) {
	acts := slices.Repeat([]impl.LAct{linkAt(impl.AkUp, 0)}, 201)
	acts[199] = offer("z")
	got, codes := impl.LinkPlay(impl.Link{}, acts[:200])
	want := append(slices.Repeat([]int64{impl.LkNone}, 199), impl.LkDone)
	if !slices.Equal(codes, want) || !sameLink(got, impl.Link{Waits: []string{"z"}}) {
		t.Errorf("%v %s", codes, show(got))
	}
	for _, list := range [][]impl.LAct{acts, append(acts, acts...)} {
		if got, codes := impl.LinkPlay(fourOnTheWay(), list); len(codes) != 0 || !isNoLink(got) {
			t.Errorf("%d acts are %v %s", len(list), codes, show(got))
		}
	}
	for _, wrong := range wrongLinks() {
		if got, codes := impl.LinkPlay(wrong, acts); len(codes) != 0 || !isNoLink(got) {
			t.Errorf("%s plays %v %s", show(wrong), codes, show(got))
		}
	}
}

// Acts in two pieces, or one by one, are the same acts.
func TestLinkActsInTwoPieces(t *testing.T) {
	d := draw{state: 86}
	for range 200 {
		l := d.link()
		now, codes := l, []int64(nil)
		var acts []impl.LAct
		for range 200 {
			a := d.linkAct(now)
			next, code := impl.LinkDo(now, a)
			now, codes, acts = next, append(codes, code), append(acts, a)
		}
		got, gotCodes := impl.LinkPlay(l, acts)
		if !sameLink(got, now) || !slices.Equal(gotCodes, codes) {
			t.Fatalf("%s plays %v %s, not %v %s", show(l), gotCodes, show(got), codes, show(now))
		}
		cut := d.upTo(201)
		half, first := impl.LinkPlay(l, acts[:cut])
		whole, second := impl.LinkPlay(half, acts[cut:])
		if !sameLink(whole, now) || !slices.Equal(append(first, second...), codes) {
			t.Fatalf("%s plays in pieces %v %v %s, not %v %s", show(l), first, second, show(whole), codes, show(now))
		}
	}
}

func TestLinkCalmed(t *testing.T) {
	eight, four := lettersOf(8), fourOnTheWay()
	full := impl.Link{Waits: eight, Down: slices.Repeat(datasOf(0, "z"), 12), Up: slices.Repeat(acks(8), 12)}
	table := []struct {
		name string
		link impl.Link
		got  []string
	}{
		{"a new one", impl.Link{}, nil},
		{"none waits", impl.Link{Base: 2, Want: 2, Got: eight[:2]}, eight[:2]},
		{"none waits, but much is under way", impl.Link{Base: 2, Want: 2, Got: eight[:2], Down: four.Down, Up: four.Up}, eight[:2]},
		{"one waits", impl.Link{Waits: eight[:1]}, eight[:1]},
		{"three wait", impl.Link{Waits: eight[:3]}, eight[:3]},
		{"four wait", impl.Link{Waits: eight[:4]}, eight[:4]},
		{"eight wait", impl.Link{Waits: eight}, eight},
		{"all is got, but that is not known", impl.Link{Waits: eight, Want: 8, Got: eight}, eight},
		{"much is under way", four, eight[:4]},
		{"it is full, with forged texts", full, eight},
	}
	for _, r := range table {
		size := int64(len(r.got))
		want := impl.Link{Base: size, Want: size, Got: r.got}
		if got, ok := impl.LinkCalmed(r.link); !ok || !sameLink(got, want) {
			t.Errorf("%s: %v %s, not %s", r.name, ok, show(got), show(want))
		}
	}
	for _, wrong := range wrongLinks() {
		if got, ok := impl.LinkCalmed(wrong); ok || !isNoLink(got) {
			t.Errorf("%s calms to %v %s", show(wrong), ok, show(got))
		}
	}
}

func TestLinkCalmedOfDrawnLinks(t *testing.T) {
	d := draw{state: 87}
	for range 5000 {
		l := d.link()
		checkAllCome(t, l, append(slices.Clone(l.Got[:l.Base]), l.Waits...))
	}
}

// Where Base would be too great an Up is refused, and that ends it: the link
// is what came of all ahead of it.
func TestLinkCalmedIsRefused(t *testing.T) {
	table := []struct {
		base  int64
		waits int
		known int64
		ups   []int64
		ok    bool
	}{
		{lastBase - 8, 8, 8, nil, true},
		{lastBase - 1, 1, 1, nil, true},
		{lastBase, 0, 0, nil, true},
		{lastBase, 1, 0, []int64{lastBase + 1}, false},
		{lastBase, 3, 0, []int64{lastBase + 1, lastBase + 2, lastBase + 3}, false},
		{lastBase - 2, 3, 2, []int64{lastBase + 1}, false},
		{lastBase - 1, 8, 1, []int64{lastBase + 1, lastBase + 2}, false},
		{lastBase - 7, 8, 7, []int64{lastBase + 1}, false},
	}
	for _, r := range table {
		l := farLink(r.base, r.waits)
		l.Down, l.Up = datasOf(0, "q"), acks(5)
		sent := r.known + int64(len(r.ups))
		want := impl.Link{Base: r.base + r.known, Waits: l.Waits[r.known:], Want: r.base + sent, Got: append(make([]string, r.base), l.Waits[:sent]...), Up: acks(r.ups...)}
		got, ok := impl.LinkCalmed(l)
		if ok != r.ok || !sameLink(got, want) {
			t.Errorf("%v: %v %s, not %s", r, ok, show(got), show(want))
		}
	}
}

func linkLists(l impl.Link) []any { return []any{l.Waits, l.Got, l.Down, l.Up} }

func roomyLink(l impl.Link) impl.Link {
	l.Waits, l.Got = roomy(l.Waits, "spare"), roomy(l.Got, "spare")
	l.Down, l.Up = roomy(l.Down, impl.Wire{Text: "spare"}), roomy(l.Up, impl.Wire{Text: "spare"})
	return l
}

func withLinkRoom(l impl.Link) impl.Link {
	l.Waits, l.Got = l.Waits[:cap(l.Waits)], l.Got[:cap(l.Got)]
	l.Down, l.Up = l.Down[:cap(l.Down)], l.Up[:cap(l.Up)]
	return l
}

// checkLinkMemory calls f twice; it answers a link, and what else it answers.
func checkLinkMemory(t *testing.T, name string, l impl.Link, f func(impl.Link) (impl.Link, []int64)) {
	t.Helper()
	given := roomyLink(l)
	before := copyLink(withLinkRoom(given))
	got, codes := f(given)
	if !sameLink(withLinkRoom(given), before) {
		t.Errorf("%s wrote into its argument %s: %s", name, show(l), show(withLinkRoom(given)))
	}
	checkApart(t, name, append(linkLists(got), codes), linkLists(given))
	kept := copyLink(got)
	again, againCodes := f(given)
	if !sameLink(again, kept) || !slices.Equal(againCodes, codes) {
		t.Errorf("%s of %s answers otherwise when asked again: %s", name, show(l), show(again))
	}
	checkApart(t, name, append(linkLists(got), linkLists(again)...), nil)
	if !sameLink(got, kept) {
		t.Errorf("%s of %s changed an answer of its own", name, show(l))
	}
}

func TestLinksMemory(t *testing.T) {
	d := draw{state: 88}
	links := []impl.Link{{}, fourOnTheWay(), {Waits: lettersOf(8)}, {Waits: lettersOf(8), Want: 8, Got: lettersOf(8), Up: acks(8, 5)}}
	for range 300 {
		links = append(links, d.link())
	}
	for _, l := range append(links, wrongLinks()...) {
		acts := []impl.LAct{offer("x"), sendIt, {Kind: 9}, linkAt(impl.AkUp, 99)}
		for kind := int64(impl.AkDown); kind <= impl.AkFlipU; kind++ {
			acts = append(acts, linkAt(kind, 0), linkAt(kind, 1))
		}
		for _, a := range acts {
			checkLinkMemory(t, fmt.Sprint("LinkDo ", a), l, func(l impl.Link) (impl.Link, []int64) {
				n, code := impl.LinkDo(l, a)
				return n, []int64{code}
			})
		}
		checkLinkMemory(t, "LinkOk", l, func(l impl.Link) (impl.Link, []int64) {
			impl.LinkOk(l)
			return impl.Link{}, nil
		})
		checkLinkMemory(t, "LinkCalmed", l, func(l impl.Link) (impl.Link, []int64) {
			n, _ := impl.LinkCalmed(l)
			return n, nil
		})
		given := roomy(append(acts, acts...), impl.LAct{Kind: spareMark})
		before := slices.Clone(given[:cap(given)])
		checkLinkMemory(t, "LinkPlay", l, func(l impl.Link) (impl.Link, []int64) { return impl.LinkPlay(l, given) })
		checkLinkMemory(t, "LinkPlay of nothing", l, func(l impl.Link) (impl.Link, []int64) { return impl.LinkPlay(l, nil) })
		if !slices.Equal(given[:cap(given)], before) {
			t.Error("LinkPlay wrote into its acts")
		}
	}
}
