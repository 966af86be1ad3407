package tests

import (
	"fmt"
	"regexp"
	"runtime"
	"slices"
	"strconv"
	"strings"
	"testing"

	"loop.example/g00384/impl"
)

const tooLong = "too long\n"

// textOf is a script of these lines.
func textOf(lines ...string) string {
	var text strings.Builder
	for _, line := range lines {
		text.WriteString(line + "\n")
	}
	return text.String()
}

func TestNumbersOfScripts(t *testing.T) {
	if impl.MaxScript != 60 || impl.MaxText != 4000 {
		t.Error(impl.MaxScript, impl.MaxText)
	}
}

// saying is a line, and what it says; "" when it says nothing.
type saying struct{ line, said string }

// checkSayings runs the first line, the first two, and so on.
func checkSayings(t *testing.T, list []saying) {
	t.Helper()
	var lines, said []string
	for _, s := range list {
		lines = append(lines, s.line)
		if s.said != "" {
			said = append(said, s.said)
		}
		if got, want := impl.RunScript(textOf(lines...)), textOf(said...); got != want {
			t.Fatalf("%q says %q, not %q", lines, got, want)
		}
	}
}

func TestLinesOfANewMachine(t *testing.T) {
	for _, s := range []saying{
		{"read 1 0", "waits"},
		{"read 3 1", "waits"},
		{"write 1 0 7", "waits"},
		{"write 3 1 0", "waits"},
		{"write 2 1 1000000", "waits"},
		{"write 2 1 1000001", "no 2"},
		{"write 2 1 999999999", "no 2"},
		{"leave 1 0", "no 4"},
		{"leave 3 1", "no 4"},
		{"deliver 0", "no 5"},
		{"deliver 999999999", "no 5"},
		{"calm", "ok 0"},
		{"mail", "mail"},
		{"owner 0", "owner"},
		{"owner 1", "owner"},
		{"sharers 0", "sharers"},
		{"sharers 1", "sharers"},
		{"newest 0", "newest 0"},
		{"newest 1", "newest 0"},
		{"home 0", "home 0 0 0 0 0"},
		{"home 1", "home 0 0 0 0 0"},
		{"quiet", "yes"},
		{"read 0 0", "no 2"},
		{"read 4 0", "no 2"},
		{"read 5 0", "no 2"},
		{"read 1 2", "no 2"},
		{"read 999999999 999999999", "no 2"},
		{"write 0 0 1", "no 2"},
		{"write 4 0 1", "no 2"},
		{"write 1 2 1", "no 2"},
		{"leave 0 0", "no 2"},
		{"leave 4 1", "no 2"},
		{"leave 3 2", "no 2"},
		{"owner 2", "what"},
		{"sharers 2", "what"},
		{"newest 2", "what"},
		{"home 2", "what"},
		{"owner 4", "what"},
		{"sharers 999999999", "what"},
		{"newest 3", "what"},
		{"home 10", "what"},
		{"", ""},
		{"   ", ""},
		{"fly", "what"},
		{"0", "what"},
	} {
		checkSayings(t, []saying{s})
	}
}

// Acts say "no 2" of a core or line that is not there, asks say "what".
func TestCoresAndLinesThatAreNotThere(t *testing.T) {
	for n := 2; n <= 20; n++ {
		for _, verb := range []string{"owner", "sharers", "newest", "home"} {
			checkSayings(t, []saying{{fmt.Sprint(verb, " ", n), "what"}, {"mail", "mail"}})
		}
		for _, verb := range []string{"read", "leave"} {
			checkSayings(t, []saying{
				{fmt.Sprint(verb, " 1 ", n), "no 2"}, {fmt.Sprint(verb, " ", n+2, " 1"), "no 2"}, {fmt.Sprint(verb, " 0 ", n), "no 2"},
				{"mail", "mail"},
			})
		}
		checkSayings(t, []saying{
			{fmt.Sprint("write 1 ", n, " 7"), "no 2"}, {fmt.Sprint("write ", n+2, " 1 7"), "no 2"}, {fmt.Sprint("write 0 ", n, " 1000001"), "no 2"},
			{fmt.Sprint("deliver ", n), "no 5"},
			{"mail", "mail"},
		})
	}
}

func TestCoresTakeTurns(t *testing.T) {
	checkSayings(t, []saying{
		{"write 1 0 7", "waits"},
		{"write 1 0 8", "no 4"},
		{"read 1 0", "no 4"},
		{"quiet", "not"},
		{"mail", "mail, write 1 0"},
		{"home 0", "home 0 0 0 0 0"},
		{"deliver 0", "ok 0"},
		{"mail", "mail, grant 1 0 2 0"},
		{"home 0", "home 0 1 0 0 0"},
		{"deliver 0", "ok 7"},
		{"mail", "mail"},
		{"quiet", "yes"},
		{"owner 0", "owner 1"},
		{"sharers 0", "sharers"},
		{"newest 0", "newest 7"},
		{"newest 1", "newest 0"},
		{"read 1 0", "ok 7"},
		{"write 1 0 9", "ok 0"},
		{"read 1 0", "ok 9"},
		{"read 2 0", "waits"},
		{"write 3 0 11", "waits"},
		{"mail", "mail, read 2 0, write 3 0"},
		{"deliver 0", "ok 0"},
		{"deliver 0", "ok 0"},
		{"mail", "mail, fetch 1 0 1"},
		{"home 0", "home 0 1 2 1 1"},
		{"deliver 1", "no 5"},
		{"deliver 0", "ok 0"},
		{"newest 0", "newest 9"},
		{"owner 0", "owner"},
		{"sharers 0", "sharers 1"},
		{"deliver 0", "ok 0"},
		{"mail", "mail, grant 2 0 1 9, inv 1 0, inv 2 0"},
		{"home 0", "home 9 0 3 2 0 1 2"},
		{"deliver 2", "no 6"},
		{"deliver 1", "ok 0"},
		{"deliver 0", "ok 9"},
		{"mail", "mail, inv 2 0, ack 1 0"},
		{"sharers 0", "sharers 2"},
		{"quiet", "not"},
		{"calm", "ok 4"},
		{"owner 0", "owner 3"},
		{"home 0", "home 9 3 0 0 0"},
		{"newest 0", "newest 11"},
		{"leave 3 0", "ok 0"},
		{"leave 3 0", "no 4"},
		{"owner 0", "owner"},
		{"newest 0", "newest 11"},
		{"mail", "mail, put 3 0 11"},
		{"calm", "ok 2"},
		{"home 0", "home 11 0 0 0 0"},
		{"home 1", "home 0 0 0 0 0"},
	})
}

func TestThreeShareALine(t *testing.T) {
	checkSayings(t, []saying{
		{"read 3 1", "waits"},
		{"read 1 1", "waits"},
		{"read 2 1", "waits"},
		{"calm", "ok 6"},
		{"sharers 1", "sharers 1 2 3"},
		{"home 1", "home 0 0 0 0 0 1 2 3"},
		{"sharers 0", "sharers"},
		{"leave 2 1", "ok 0"},
		{"sharers 1", "sharers 1 3"},
		{"home 1", "home 0 0 0 0 0 1 2 3"},
		{"read 2 1", "waits"},
		{"write 3 1 1000000", "waits"},
		{"read 1 1", "ok 0"},
		{"deliver 1", "ok 0"},
		{"mail", "mail, read 2 1, inv 1 1, inv 2 1"},
		{"home 1", "home 0 0 3 2 0 1 2 3"},
		{"calm", "ok 9"},
		{"home 1", "home 1000000 0 0 0 0 2 3"},
		{"read 2 1", "ok 1000000"},
		{"mail", "mail"},
	})
}

// A line that says nothing, or "what", does nothing.
func TestLinesThatAreWrongDoNothing(t *testing.T) {
	checkSayings(t, []saying{
		{"write 1 0 5", "waits"},
		{"calm 1", "what"},
		{"calmed", "what"},
		{"deliver", "what"},
		{"deliver 0 0", "what"},
		{"deliver 00", "what"},
		{"", ""},
		{"mail", "mail, write 1 0"},
		{"quiet", "not"},
		{"calm", "ok 2"},
		{"write 1 0 06", "what"},
		{"write 1 0 1000001", "no 2"},
		{"write 1 0", "what"},
		{"write 1 0 6 6", "what"},
		{"leave 1", "what"},
		{"leave 1 0 0", "what"},
		{"leave 4 0", "no 2"},
		{"read 1 0", "ok 5"},
		{"owner 0", "owner 1"},
	})
}

// rightLines are one of each row of the table, and what it says first of all.
var rightLines = []saying{
	{"read 1 0", "waits"},
	{"write 1 0 7", "waits"},
	{"leave 1 0", "no 4"},
	{"deliver 0", "no 5"},
	{"calm", "ok 0"},
	{"mail", "mail"},
	{"owner 0", "owner"},
	{"sharers 1", "sharers"},
	{"newest 0", "newest 0"},
	{"home 1", "home 0 0 0 0 0"},
	{"quiet", "yes"},
}

// nearLines are lines in which one thing is not as it ought to be.
func nearLines() []string {
	badNumbers := []string{
		"00", "01", "007", "0000000001", "1000000000", "1234567890", "99999999999999999999", "+1", "-1", "-0", "+0",
		"x", "1x", "x1", "1.0", "1.", ".1", "1e0", "0x1", "1_0", "1,", ",1", "'1'", "\u0661", "\uff11", "1\x00", "\x00", "1\xff", "read", "L", "C",
	}
	var lines []string
	for _, s := range rightLines {
		words := strings.Split(s.line, " ")
		verb, numbers := words[0], words[1:]
		for at := range numbers {
			for _, bad := range badNumbers {
				changed := slices.Clone(words)
				changed[at+1] = bad
				lines = append(lines, strings.Join(changed, " "))
			}
			lines = append(lines, strings.Join(words[:at+1], " "))
		}
		for _, bad := range append([]string{"0", "1", "7"}, badNumbers...) {
			lines = append(lines, s.line+" "+bad, bad+" "+s.line)
		}
		lines = append(lines, s.line+" 0 0 0", s.line+" 1 2 3 4 5 6 7 8 9", strings.Join(slices.Insert(slices.Clone(words), 1, "x"), " "))
		rest := s.line[len(verb):]
		for _, bad := range []string{strings.ToUpper(verb), strings.ToUpper(verb[:1]) + verb[1:], verb[1:], verb[:len(verb)-1], verb + "s", "x" + verb, verb + ":", verb + ",", verb + ".", "\"" + verb + "\"", verb + verb, verb + "\x00", verb + "\xff", "\xff" + verb} {
			lines = append(lines, bad+rest)
		}
		lines = append(lines, strings.Join(numbers, " ")+" "+verb+" x", strings.ReplaceAll(s.line, " ", ",")+",", strings.ReplaceAll(s.line, " ", "_")+"_")
	}
	return append(lines, "fly", "ok", "what", "waits", "no", "yes", "not", "too long", "put 1 0 7", "inv 1 0", "fetch 1 0 1", "ack 1 0", "data 1 0 7", "grant 1 0 1 7", "done 1 0", "home", "#", "# read 1 0", "//", "|", ";", ".")
}

func TestNearLines(t *testing.T) {
	asks := []saying{{"mail", "mail"}, {"home 0", "home 0 0 0 0 0"}, {"quiet", "yes"}}
	for _, line := range nearLines() {
		text, want := textOf(line), textOf("what")
		for _, s := range asks {
			text, want = text+textOf(s.line), want+textOf(s.said)
		}
		if got := impl.RunScript(text); got != want {
			t.Errorf("%q says %q", text, got)
		}
	}
	for _, s := range rightLines {
		if got := impl.RunScript(textOf(s.line)); got != textOf(s.said) {
			t.Errorf("%q says %q", s.line, got)
		}
	}
}

func TestBlanks(t *testing.T) {
	for _, s := range rightLines {
		for _, line := range []string{
			" " + s.line, s.line + " ", "     " + s.line + "   ",
			strings.ReplaceAll(s.line, " ", "  "), "  " + strings.ReplaceAll(s.line, " ", "      ") + " ",
		} {
			if got := impl.RunScript(textOf(line)); got != textOf(s.said) {
				t.Errorf("%q says %q", line, got)
			}
		}
	}
	for _, line := range []string{"", " ", "  ", strings.Repeat(" ", 100)} {
		text := textOf(line, "quiet", line, line, "mail", line)
		if got := impl.RunScript(text); got != "yes\nmail\n" {
			t.Errorf("%q says %q", text, got)
		}
		if got := impl.RunScript(textOf(line)); got != "" {
			t.Errorf("%q says %q", line, got)
		}
	}
}

// All other white space is part of a word.
func TestOtherWhiteSpace(t *testing.T) {
	for _, space := range []string{"\t", "\r", "\v", "\f", "\x00", "\x1f", "\u0085", "\u00a0", "\u2003", "\u2028", "\u3000", "\xa0", "\x85"} {
		lines := []string{space, " " + space, space + " ", space + space, "quiet" + space, space + "quiet", "quiet " + space, space + " quiet", "read" + space + "1 0", "read 1" + space + "0", "read 1 0" + space, "read " + space + " 1 0"}
		for _, line := range lines {
			if got := impl.RunScript(textOf(line, "mail")); got != "what\nmail\n" {
				t.Errorf("%q says %q", line, got)
			}
		}
	}
}

func TestHowManyLines(t *testing.T) {
	quiet, blanks := []string{"quiet"}, []string{"", "  "}
	for _, r := range []struct {
		name  string
		lines []string
		said  string
	}{
		{"none", nil, ""},
		{"one", quiet, "yes\n"},
		{"59", slices.Repeat(quiet, 59), strings.Repeat("yes\n", 59)},
		{"60", slices.Repeat(quiet, 60), strings.Repeat("yes\n", 60)},
		{"61", slices.Repeat(quiet, 61), tooLong},
		{"62", slices.Repeat(quiet, 62), tooLong},
		{"120", slices.Repeat(quiet, 120), tooLong},
		{"60 without words", slices.Repeat(blanks, 30), ""},
		{"61 without words", append(slices.Repeat(blanks, 30), ""), tooLong},
		{"60, some without words", append(slices.Repeat(quiet, 20), slices.Repeat(blanks, 20)...), strings.Repeat("yes\n", 20)},
		{"61, some without words", append(slices.Repeat(quiet, 21), slices.Repeat(blanks, 20)...), tooLong},
		{"61, the last one without words", append(slices.Repeat(quiet, 60), ""), tooLong},
		{"61, the first one without words", append([]string{""}, slices.Repeat(quiet, 60)...), tooLong},
		{"60 that say what", slices.Repeat([]string{"x"}, 60), strings.Repeat("what\n", 60)},
		{"61 that say what", slices.Repeat([]string{"x"}, 61), tooLong},
	} {
		if got := impl.RunScript(textOf(r.lines...)); got != r.said {
			t.Errorf("%s: %q", r.name, got)
		}
	}
}

// longText has so many bytes: lines, and blanks at the place that is asked.
func longText(bytes int, ahead string, behind string) string {
	return ahead + strings.Repeat(" ", bytes-len(ahead)-len(behind)) + behind
}

func TestHowManyBytes(t *testing.T) {
	for _, r := range []struct{ ahead, behind, said string }{
		{"quiet\n", "mail\n", "yes\nmail\n"},
		{"", "\n", ""},
		{"quiet", "\n", "yes\n"},
		{"", "quiet\n", "yes\n"},
		{"read 1", "0\nmail\n", "waits\nmail, read 1 0\n"},
		{strings.Repeat("quiet\n", 59), "mail\n", strings.Repeat("yes\n", 59) + "mail\n"},
		{strings.Repeat("x", 2000), strings.Repeat("y", 1000) + "\n", "what\n"},
		{"quiet\n" + strings.Repeat("\u00e9", 1000), "\n", "yes\nwhat\n"},
	} {
		for _, bytes := range []int{3999, 4000} {
			if got := impl.RunScript(longText(bytes, r.ahead, r.behind)); got != r.said {
				t.Errorf("%.20q .. %q in %d bytes says %q", r.ahead, r.behind, bytes, got)
			}
		}
		for _, bytes := range []int{4001, 4002, 8000, 100000} {
			if got := impl.RunScript(longText(bytes, r.ahead, r.behind)); got != tooLong {
				t.Errorf("%.20q .. %q in %d bytes says %q", r.ahead, r.behind, bytes, got)
			}
		}
	}
	if got := impl.RunScript(strings.Repeat("\n", 4001)); got != tooLong {
		t.Errorf("line feeds alone: %q", got)
	}
}

func TestLastLineIsNotEnded(t *testing.T) {
	for _, text := range []string{
		"mail", "quiet", " ", "x", "\r", "mail\nquiet", "mail\n ", "mail\n\nx", "\n\n ", "mail\nquiet\r", "mail\n\x00",
		strings.Repeat("quiet\n", 59) + "quiet", strings.Repeat("quiet\n", 60) + "q", strings.Repeat("quiet\n", 60) + " ",
		longText(4000, "quiet\n", ""), longText(4000, "quiet\n", "mail"), longText(4001, "quiet\n", "mail"),
	} {
		if got := impl.RunScript(text); got != tooLong {
			t.Errorf("%.40q says %q", text, got)
		}
	}
	if got := impl.RunScript(""); got != "" {
		t.Errorf("an empty text says %q", got)
	}
}

// row is a row of the table: the form of its lines, and what one says and
// leaves.
type row struct {
	form *regexp.Regexp
	says func(m impl.Machine, n []int64) (impl.Machine, string)
}

// formOf reads a form in which N is a number.
func formOf(words string) *regexp.Regexp {
	form := strings.ReplaceAll(words, " ", " +")
	return regexp.MustCompile(`^ *` + strings.ReplaceAll(form, "N", `(0|[1-9][0-9]{0,8})`) + ` *$`)
}

func actSays(m impl.Machine, a impl.Act) (impl.Machine, string) {
	next, code, value := doBy(m, a)
	if code == impl.McDone {
		return next, fmt.Sprint("ok ", value)
	}
	if code == impl.McWait {
		return next, "waits"
	}
	return m, fmt.Sprint("no ", code)
}

// listSays is the word and the numbers as a list is printed, without its
// brackets.
func listSays(word string, numbers []int64) string {
	return strings.TrimRight(word+" "+strings.Trim(fmt.Sprint(numbers), "[]"), " ")
}

// asking is a row that leaves the machine, and that is asked of a line.
func asking(word string, says func(m impl.Machine, line int64) string) row {
	return row{formOf(word + " N"), func(m impl.Machine, n []int64) (impl.Machine, string) {
		if n[0] > 1 {
			return m, "what"
		}
		return m, says(m, n[0])
	}}
}

var tableRows = []row{
	{formOf("read N N"), func(m impl.Machine, n []int64) (impl.Machine, string) { return actSays(m, readAct(n[0], n[1])) }},
	{formOf("write N N N"), func(m impl.Machine, n []int64) (impl.Machine, string) { return actSays(m, writeAct(n[0], n[1], n[2])) }},
	{formOf("leave N N"), func(m impl.Machine, n []int64) (impl.Machine, string) { return actSays(m, leaveAct(n[0], n[1])) }},
	{formOf("deliver N"), func(m impl.Machine, n []int64) (impl.Machine, string) { return actSays(m, deliverAct(n[0])) }},
	{formOf("calm"), func(m impl.Machine, _ []int64) (impl.Machine, string) {
		calm, steps, ok := calmBy(m)
		if !ok {
			return m, "no"
		}
		return calm, fmt.Sprint("ok ", steps)
	}},
	{formOf("mail"), func(m impl.Machine, _ []int64) (impl.Machine, string) {
		said := []string{"mail"}
		for _, msg := range m.Mail {
			said = append(said, impl.MsgText(msg))
		}
		return m, strings.Join(said, ", ")
	}},
	asking("owner", func(m impl.Machine, line int64) string { return listSays("owner", coresBy(m, line, impl.StOwned)) }),
	asking("sharers", func(m impl.Machine, line int64) string {
		return listSays("sharers", coresBy(m, line, impl.StShared))
	}),
	asking("newest", func(m impl.Machine, line int64) string { return fmt.Sprint("newest ", newestBy(m, line)) }),
	asking("home", func(m impl.Machine, line int64) string {
		l := m.Lines[line]
		return listSays(fmt.Sprintf("home %d %d %d %d %d", l.Mem, l.Owner, l.Busy, l.Acks, len(l.Queue)), l.Sharers)
	}),
	{formOf("quiet"), func(m impl.Machine, _ []int64) (impl.Machine, string) {
		if quietBy(m) {
			return m, "yes"
		}
		return m, "not"
	}},
}

// telling says lines one by one, in the document's words.
type telling struct {
	m    impl.Machine
	said string
}

func (l *telling) line(line string) {
	if strings.Trim(line, " ") == "" {
		return
	}
	says := "what"
	for _, r := range tableRows {
		if found := r.form.FindStringSubmatch(line); found != nil {
			l.m, says = r.says(l.m, numbersBy(found[1:]))
		}
	}
	l.said += textOf(says)
}

// scriptBy says the lines of a script that is not too long, and answers the
// machine at its end.
func scriptBy(lines []string) (string, impl.Machine) {
	told := telling{m: blank(3, 2)}
	for _, line := range lines {
		told.line(line)
	}
	return told.said, told.m
}

func numbersBy(words []string) []int64 {
	var numbers []int64
	for _, word := range words {
		n, _ := strconv.ParseInt(word, 10, 64)
		numbers = append(numbers, n)
	}
	return numbers
}

// actLine is a line that acts, mostly one that the machine may do.
func (d *draw) actLine(m impl.Machine) string {
	core, line := d.core(3), d.upTo(2)
	if d.oneIn(30) {
		core, line = d.upTo(6), d.upTo(4)
	}
	switch d.upTo(12) {
	case 0, 1, 2:
		return fmt.Sprint("read ", core, " ", line)
	case 3, 4, 5:
		return fmt.Sprint("write ", core, " ", line, " ", d.upTo(impl.MaxValue+2))
	case 6:
		return fmt.Sprint("leave ", core, " ", line)
	case 7:
		if d.oneIn(3) {
			return "calm"
		}
	}
	return fmt.Sprint("deliver ", d.upTo(int64(len(m.Mail))+1))
}

// askLine is a line that asks.
func (d *draw) askLine() string {
	line := d.upTo(2)
	if d.oneIn(10) {
		line = d.upTo(5)
	}
	return []string{
		"mail", "quiet", fmt.Sprint("owner ", line), fmt.Sprint("sharers ", line), fmt.Sprint("newest ", line), fmt.Sprint("home ", line),
	}[d.upTo(6)]
}

// spoiltLine has a byte more, less or changed.
func (d *draw) spoiltLine(line string) string {
	at := d.upTo(int64(len(line)))
	bytes := "  0123456789-+\tearx"
	drawn := string(bytes[d.upTo(int64(len(bytes)))])
	switch d.upTo(3) {
	case 0:
		return line[:at] + line[at+1:]
	case 1:
		return line[:at] + drawn + line[at+1:]
	}
	return line[:at] + drawn + line[at:]
}

// script draws so many lines, each with what the machine is then.
func (d *draw) script(count int) []string {
	told := telling{m: blank(3, 2)}
	var lines []string
	for range count {
		line := d.actLine(told.m)
		if d.oneIn(3) {
			line = d.askLine()
		}
		if d.oneIn(20) {
			line = d.spoiltLine(line)
		}
		if d.oneIn(20) {
			line = " " + strings.ReplaceAll(line, " ", "   ") + "  "
		}
		if d.oneIn(40) {
			line = strings.Repeat(" ", int(d.upTo(3)))
		}
		told.line(line)
		lines = append(lines, line)
	}
	return lines
}

func TestDrawnScripts(t *testing.T) {
	d := draw{state: 141}
	said := map[string]int{}
	for range 1500 {
		lines := d.script(1 + int(d.upTo(60)))
		got := impl.RunScript(textOf(lines...))
		if want, _ := scriptBy(lines); got != want {
			t.Fatalf("%q says %q, not %q", lines, got, want)
		}
		for line := range strings.SplitSeq(got, "\n") {
			word, rest, _ := strings.Cut(line, " ")
			said[word]++
			if word == "no" {
				said["no "+rest]++
			}
		}
	}
	for _, word := range []string{"ok", "waits", "no 2", "no 4", "no 5", "no 6", "mail", "mail,", "owner", "sharers", "newest", "home", "yes", "not", "what"} {
		if said[word] < 100 {
			t.Error("said too seldom:", word, said)
		}
	}
	// From a new machine on nothing is refused but for its order, so calm is
	// never (promise 6), and so few slots never fill all mail.
	if said["no"] != said["no 2"]+said["no 4"]+said["no 5"]+said["no 6"] {
		t.Error("a no that ought not to be:", said)
	}
}

// Calm goes well wherever acts lead; a script that ends with it is quiet.
func TestCalmIsNeverRefused(t *testing.T) {
	d := draw{state: 143}
	for range 1500 {
		told := telling{m: blank(3, 2)}
		var lines []string
		for range 1 + d.upTo(57) {
			lines = append(lines, d.actLine(told.m))
			told.line(lines[len(lines)-1])
		}
		calm, steps, ok := calmBy(told.m)
		if !ok {
			t.Fatal(lines, "leads to", told.m, "which is not calmed")
		}
		got := impl.RunScript(textOf(append(lines, "calm", "quiet", "mail")...))
		if !strings.HasSuffix(got, fmt.Sprintf("ok %d\nyes\nmail\n", steps)) || !quietBy(calm) {
			t.Fatalf("%q says %q", lines, got)
		}
	}
}

// Promise 14: what a script said stays said when more lines stand behind it.
func TestWhatWasSaidStaysSaid(t *testing.T) {
	d := draw{state: 145}
	for range 60 {
		lines := d.script(60)
		whole := impl.RunScript(textOf(lines...))
		ahead := ""
		for count := range len(lines) + 1 {
			now := impl.RunScript(textOf(lines[:count]...))
			if !strings.HasPrefix(now, ahead) || !strings.HasPrefix(whole, now) {
				t.Fatalf("%q says %q, but the whole %q and what is ahead %q", lines[:count], now, whole, ahead)
			}
			more := strings.Count(now, "\n") - strings.Count(ahead, "\n")
			if hasWords := count > 0 && strings.Trim(lines[count-1], " ") != ""; hasWords != (more == 1) || more > 1 {
				t.Fatalf("%q says %d lines more", lines[:count], more)
			}
			ahead = now
		}
		if got := impl.RunScript(textOf(append(lines, "")...)); got != tooLong {
			t.Fatalf("one line too many says %q", got)
		}
	}
}

// allAsks are all lines that ask something of the machine.
func allAsks() []string {
	return []string{"mail", "quiet", "owner 0", "owner 1", "sharers 0", "sharers 1", "newest 0", "newest 1", "home 0", "home 1", "owner 2", "home x", "fly", "", "  "}
}

// amidAsks puts lines that ask behind each line, and tells which lines were
// there already.
func (d *draw) amidAsks(lines []string) ([]string, []bool) {
	asks := allAsks()
	var all []string
	var own []bool
	for _, line := range lines {
		all, own = append(all, line), append(own, true)
		for range d.upTo(3) {
			all, own = append(all, asks[d.upTo(int64(len(asks)))]), append(own, false)
		}
	}
	return all, own
}

// saidByOwn is what those lines say that were there already.
func saidByOwn(lines []string, own []bool, said string) string {
	var kept []string
	for at, line := range lines {
		if strings.Trim(line, " ") == "" {
			continue
		}
		first, rest, _ := strings.Cut(said, "\n")
		if own[at] {
			kept = append(kept, first)
		}
		said = rest
	}
	return textOf(kept...)
}

// Promise 14: lines that ask, put behind each line, change nothing of what
// the others say, nor of what is asked at the end.
func TestLinesThatAskChangeNothing(t *testing.T) {
	d := draw{state: 147}
	for range 1500 {
		lines := append(d.script(int(d.upTo(15))), allAsks()...)
		alone := impl.RunScript(textOf(lines...))
		all, own := d.amidAsks(lines[:len(lines)-len(allAsks())])
		for _, ask := range allAsks() {
			all, own = append(all, ask), append(own, true)
		}
		amid := impl.RunScript(textOf(all...))
		if got := saidByOwn(all, own, amid); got != alone {
			t.Fatalf("%q amid asks says %q, alone %q", lines, got, alone)
		}
		if want, _ := scriptBy(all); amid != want {
			t.Fatalf("%q says %q, not %q", all, amid, want)
		}
	}
}

// All lines that ask behind each of a few that act.
func TestAllAsksBehindEachLine(t *testing.T) {
	asks := allAsks()
	for _, lines := range [][]string{
		{"write 1 0 7", "read 2 0", "calm"},
		{"read 1 1", "deliver 0", "deliver 0"},
		{"write 3 1 5", "calm", "leave 3 1"},
	} {
		var more []string
		for _, line := range lines {
			more = append(append(more, line), asks...)
		}
		got, want := impl.RunScript(textOf(more...)), ""
		for count := range len(lines) {
			said, _ := scriptBy(append(slices.Clone(lines[:count+1]), asks...))
			ahead, _ := scriptBy(lines[:count])
			want += strings.TrimPrefix(said, ahead)
		}
		if got != want {
			t.Errorf("%q says %q, not %q", more, got, want)
		}
	}
}

// Promise 15: a script says the same again, whatever was run in between.
func TestScriptsAgain(t *testing.T) {
	d := draw{state: 149}
	var texts, said []string
	for range 200 {
		texts = append(texts, textOf(d.script(30)...))
	}
	texts = append(texts, "", "mail", strings.Repeat("\n", 61), strings.Repeat(" ", 4000)+"\n")
	for _, text := range texts {
		said = append(said, impl.RunScript(text))
	}
	for at := len(texts) - 1; at >= 0; at-- {
		if again := impl.RunScript(texts[at]); again != said[at] {
			t.Errorf("%q says %q, then %q", texts[at], said[at], again)
		}
	}
}

// Texts of any bytes are answered, one line for each that has words.
func TestScriptsOfAnyBytes(t *testing.T) {
	d := draw{state: 151}
	for range 3000 {
		var text []byte
		for range d.upTo(200) {
			switch d.upTo(4) {
			case 0:
				text = append(text, '\n')
			case 1:
				text = append(text, ' ')
			case 2:
				text = append(text, byte(d.upTo(256)))
			default:
				text = append(text, d.askLine()...)
			}
		}
		text = append(text, '\n')
		lines := strings.Split(strings.TrimSuffix(string(text), "\n"), "\n")
		want := tooLong
		if len(text) <= 4000 && len(lines) <= 60 {
			want, _ = scriptBy(lines)
		}
		if got := impl.RunScript(string(text)); got != want {
			t.Fatalf("%q says %q, not %q", text, got, want)
		}
	}
}

// The cores of a script's machine end with the call.
func TestNoCoreIsLeftBehindAScript(t *testing.T) {
	before := runtime.NumGoroutine()
	for range 50 {
		impl.RunScript(textOf("write 1 0 7", "calm", "read 2 0", "deliver 0", "deliver 9", "read 9 9", "calm", "fly"))
	}
	for range 100000 {
		if runtime.NumGoroutine() <= before {
			return
		}
		runtime.Gosched()
	}
	t.Error(runtime.NumGoroutine(), "goroutines are there, not", before)
}
