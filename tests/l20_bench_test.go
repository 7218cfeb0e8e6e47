package tests

import (
	"fmt"

	"regexp"
	"slices"
	"strconv"
	"strings"
	"sync"

	"testing"

	"loop.example/g00553/impl"
)

const (
	mostBytes = 8000
	mostLines = 120
)

// chapters are what the lines of the table ask: the functions of the program, or the reckonings of these tests.
type chapters struct {
	opened           func(hall string) (impl.Smithy, bool)
	happen           func(m impl.Smithy, a impl.Act) (impl.Smithy, int64)
	who, work        func(m impl.Smithy) []int64
	at               func(m impl.Smithy, bench int64) []impl.Entry
	used, want, pick func(m impl.Smithy, n int64) int64
	wanted           func(m impl.Smithy, room int64) int64
	coal             func(m impl.Smithy) int64
	full             func(m impl.Smithy) bool
}

var (
	asBuilt = chapters{
		opened: func(hall string) (impl.Smithy, bool) {
			h, _ := impl.ReadHall(hall)
			return impl.NewSmithy(h)
		},
		happen: impl.Happen, who: impl.Working, work: impl.WorkOf, at: impl.At, used: impl.UsedAt, want: impl.WantOf, pick: impl.Chosen,
		wanted: impl.Wanted, coal: impl.CoalOf, full: impl.Crowded,
	}
	asReckoned = chapters{
		opened: func(hall string) (impl.Smithy, bool) {
			if _, ok := wantRead(hall); !ok {
				return impl.Smithy{}, false
			}
			return emptySmithy(hall), true
		},
		happen: wantHappen, who: wantWorking, work: wantWorkOf, at: wantAt, used: wantUsedAt, want: wantWantOf,
		pick:   func(m impl.Smithy, who int64) int64 { return wantChosen(m, wantUsed(m), who) },
		wanted: wantWanted,
		coal:   func(m impl.Smithy) int64 { return wantCosts(m, wantUsed(m)) },
		full:   func(m impl.Smithy) bool { return wantCrowded(m, wantUsed(m)) },
	}
)

// askedForms holds the lines of the chapter's table but hall and those of an act.
var askedForms = []string{"who", "at N", "used N", "want N", "coal", "pace", "pick N", "full", "work", "now"}

var (
	hallLine  = regexp.MustCompile(`(?s)\Ahall (.*)\z`)
	askedLine = regexp.MustCompile(strings.ReplaceAll(`\A(?:`+strings.Join(askedForms, "|")+`)\z`, "N", numberForm))
)

// tableForms holds all lines of the table; T is the text of a hall.
func tableForms() []string { return slices.Concat(askedForms, []string{"hall T"}, actForms) }

func wordOf(line string) string {
	word, _, _ := strings.Cut(line, " ")
	return word
}

func spaced(list []int64) string {
	if len(list) == 0 {
		return "-"
	}
	return strings.Trim(fmt.Sprint(list), "[]")
}

func orError(n int64) string {
	if n == -1 {
		return "error"
	}
	return fmt.Sprint(n)
}

// begun is what a line hall makes of that text, and what the bench begins with.
func (c chapters) begun(hall string) (impl.Smithy, bool) {
	m, ok := c.opened(hall)
	if ok {
		m.Guilds = []impl.Guild{guild(-1, 0, 500)}
	}
	return m, ok
}

// told is what is answered to a line that asks; n is its number, if it has one.
func (c chapters) told(m impl.Smithy, word string, n int64) string {
	switch word {
	case "who":
		return spaced(c.who(m))
	case "at":
		if !isFrom(n, 0, int64(len(m.Desks))-1) {
			return "error"
		}
		whos := []int64{}
		for _, e := range c.at(m, n) {
			whos = append(whos, e.Who)
		}
		return spaced(whos)
	case "used":
		return orError(c.used(m, n))
	case "want":
		return orError(c.want(m, n))
	case "pick":
		return orError(c.pick(m, n))
	case "coal":
		return fmt.Sprint(c.coal(m))
	case "full":
		return map[bool]string{true: "y", false: "n"}[c.full(m)]
	case "work":
		return spaced(c.work(m))
	case "now":
		return fmt.Sprint(m.Now)
	}
	paces := []string{}
	for room, has := range m.Paces {
		paces = append(paces, fmt.Sprintf("%d/%d", has, c.wanted(m, int64(room))))
	}
	return strings.Join(paces, " ")
}

// answer is that of one line that has a byte, and the smithy behind it.
func (c chapters) answer(m impl.Smithy, line string) (impl.Smithy, string) {
	if found := hallLine.FindStringSubmatch(line); found != nil {
		x, ok := c.begun(found[1])
		if !ok {
			return m, "error"
		}
		return x, fmt.Sprint(len(x.Desks))
	}
	if a, ok := wantReadAct(line); ok {
		x, code := c.happen(m, a)
		return x, fmt.Sprint(code)
	}
	if !askedLine.MatchString(line) {
		return m, "error"
	}
	word, number, _ := strings.Cut(line, " ")
	n, _ := strconv.ParseInt(number, 10, 64)
	return m, c.told(m, word, n)
}

func lineEnds(text string) int { return strings.Count(text, "\n") }

func (c chapters) bench(text string) string {
	lines := lineEnds(text)
	if text != "" && text[len(text)-1] != '\n' {
		lines++
	}
	if len(text) > mostBytes || lines > mostLines {
		return ""
	}
	m, _ := c.begun(benchHall)
	answers := ""
	for _, line := range strings.Split(text, "\n") {
		if line == "" {
			continue
		}
		x, s := c.answer(m, line)
		answers, m = answers+s+"\n", x
	}
	return answers
}

func checkBenchOf(t *testing.T, c chapters, text string) string {
	t.Helper()
	got := impl.Bench(text)
	if want := c.bench(text); got != want {
		t.Fatalf("Bench(%q) = %q, not %q", text, got, want)
	}
	return got
}

func checkText(t *testing.T, text string) string {
	t.Helper()
	return checkBenchOf(t, asBuilt, text)
}

// checkTold asks for just these answers, one for each line.
func checkTold(t *testing.T, text string, answers ...string) {
	t.Helper()
	if got, want := impl.Bench(text), ended(answers...); got != want {
		t.Errorf("Bench(%q) = %q, not %q", text, got, want)
	}
	checkText(t, text)
	checkBenchOf(t, asReckoned, text)
}

// checkLines is given lines and their answers in turn.
func checkLines(t *testing.T, pairs ...string) {
	t.Helper()
	lines, answers := []string{}, []string{}
	for i := 0; i < len(pairs); i += 2 {
		lines, answers = append(lines, pairs[i]), append(answers, pairs[i+1])
	}
	checkTold(t, ended(lines...), answers...)
	checkTold(t, strings.Join(lines, "\n"), answers...)
}

// ended has a byte 10 behind each line.
func ended(lines ...string) string {
	text := ""
	for _, line := range lines {
		text += line + "\n"
	}
	return text
}

// answersOf is the answer of each line, nothing of one without a byte.
func answersOf(t *testing.T, lines []string) []string {
	t.Helper()
	left := strings.SplitAfter(checkText(t, ended(lines...)), "\n")
	answers := []string{}
	for _, line := range lines {
		if line == "" {
			answers = append(answers, "")
			continue
		}
		if len(left[0]) < 2 || !strings.HasSuffix(left[0], "\n") {
			t.Fatalf("%q is not answered by one line: %q", line, lines)
		}
		answers, left = append(answers, strings.TrimSuffix(left[0], "\n")), left[1:]
	}
	if len(left) != 1 || left[0] != "" {
		t.Fatalf("%q is answered where no line is: %q", left, lines)
	}
	return answers
}

func TestBenchConstants(t *testing.T) {
	if impl.MaxBench != mostBytes || impl.MaxLines != mostLines {
		t.Fatal(impl.MaxBench, impl.MaxLines)
	}
}

// Each line of the table, with answers that were reckoned by hand.
func TestBenchCases(t *testing.T) {
	checkLines(t,
		"come 0 7", "0", "come 0 7", "0", "come -1 4", "0", "who", "0 -1 2", "at 0", "0 1", "at 1", "-", "at 2", "2",
		"tick 3", "0", "work", "600 0 1536", "now", "3", "at 0", "1 0", "who", "1 -1 2",
		"limit 0 300 300", "0", "limit 1 20 20", "0", "limit 2 0 0", "0", "want 0", "300", "want 1", "20", "want 2", "0", "used 0", "320", "used 1", "0", "used 2", "0",
		"coal", "2", "pace", "0/1 0/0", "full", "n", "ask", "0", "pace", "1/1 0/0",
		"rank 0 3", "0", "rest 1", "0", "who", "0 -1 2", "pick 1", "0", "wake 1", "0", "grant 1 1", "0", "pace", "1/1 1/0",
		"limit 0 800 800", "0", "full", "y", "pick 0", "2", "rest 2", "0", "level", "0", "who", "1 -1 0", "at 2", "0", "full", "n", "join 0 0", "0", "want 0", "500", "coal", "3",
		"allow 1 2", "0", "who", "-1 1 0", "close 1", "0", "at 1", "-", "who", "1 -1 0", "open 1", "0", "leave 1", "0", "work", "600 0 1536", "at 0", "-", "now", "3",
	)
}

func TestBenchOfNothing(t *testing.T) {
	checkTold(t, "")
	for count := range mostLines + 3 {
		checkTold(t, strings.Repeat("\n", count))
	}
	checkTold(t, strings.Repeat("\n", mostBytes))
	checkTold(t, strings.Repeat("\n", mostBytes+1))
}

// The last line is answered with and without its byte 10; lines without a byte are passed over, wherever they are.
func TestBenchOfLinesWithoutAByte(t *testing.T) {
	for _, form := range tableForms() {
		line := strings.NewReplacer("T", "1 50:5", "N", "0", "W", "0", "A", "1", "B", "7").Replace(form)
		one, two := checkText(t, line), checkText(t, ended("come 0 7", line))
		if lineEnds(one) != 1 || lineEnds(two) != 2 {
			t.Errorf("%q is answered by %q, and behind one who comes by %q", line, one, two)
		}
		for _, text := range []string{line + "\n", "\n" + line, "\n" + line + "\n", line + "\n\n", "\n\n\n" + line + "\n\n\n"} {
			if got := checkText(t, text); got != one {
				t.Errorf("Bench(%q) = %q, not %q", text, got, one)
			}
		}
		for _, text := range []string{"come 0 7\n" + line, "come 0 7\n\n" + line, "\ncome 0 7\n\n\n" + line + "\n\n"} {
			if got := checkText(t, text); got != two {
				t.Errorf("Bench(%q) = %q, not %q", text, got, two)
			}
		}
	}
	for _, blank := range []string{" ", "  ", "\r", "\t", "\x00", "\v", "\f", "\u00a0", "\u2028", "\u0085"} {
		checkTold(t, "now\n"+blank+"\nnow", "0", "error", "0")
		checkTold(t, blank, "error")
		checkTold(t, blank+"\n", "error")
	}
}

// All lines count, those without a byte, too, ahead of the others, between them and behind them.
func TestBenchOfAsManyLinesAsThereMayBe(t *testing.T) {
	for count := range mostLines + 1 {
		answers := slices.Repeat([]string{"0"}, count)
		lines := slices.Repeat([]string{"now"}, count)
		checkTold(t, ended(lines...), answers...)
		checkTold(t, strings.Repeat("\n", mostLines-count)+ended(lines...), answers...)
		checkTold(t, ended(lines...)+strings.Repeat("\n", mostLines-count), answers...)
		checkTold(t, strings.Repeat("\n", mostLines-count+1)+ended(lines...))
		checkTold(t, ended(lines...)+strings.Repeat("\n", mostLines-count+1))
		if count == 0 {
			continue
		}
		bare := strings.Join(lines, "\n")
		checkTold(t, strings.Repeat("\n", mostLines-count)+bare, answers...)
		checkTold(t, strings.Repeat("\n", mostLines-count+1)+bare)
		checkTold(t, bare+strings.Repeat("\n", mostLines-count+1), answers...)
		checkTold(t, bare+strings.Repeat("\n", mostLines-count+2))
	}
	for _, line := range []string{"now", "x", "tick 1", " ", "hall 1 1:1", "who"} {
		whole := ended(slices.Repeat([]string{line}, mostLines)...)
		if got := checkText(t, whole); lineEnds(got) != mostLines {
			t.Errorf("%q as often as may be is answered by %q", line, got)
		}
		for _, text := range []string{whole + "\n", whole + "x", whole + " ", whole + line, "\n" + whole, whole + whole} {
			checkTold(t, text)
		}
	}
}

// cutTo makes a text of lines that long, whose bytes are all told.
func cutTo(bytes int, line string) string { return strings.Repeat(line, bytes/len(line)+1)[:bytes] }

func TestBenchOfAsManyBytesAsThereMayBe(t *testing.T) {
	for _, part := range []string{"x", " ", "0", "now", "now ", "who now ", "hall ", "hall 2 200:1/", "tick 1 ", "at 0", "come 0 7 ", "\x00", "\xff", "\r", "at 00", "-", "é", "now ☃"} {
		checkTold(t, cutTo(mostBytes, part), "error")
		checkTold(t, cutTo(mostBytes-1, part), "error")
		checkTold(t, cutTo(mostBytes-1, part)+"\n", "error")
		checkTold(t, cutTo(mostBytes+1, part))
		checkTold(t, cutTo(mostBytes, part)+"\n")
		checkTold(t, "now\n"+cutTo(mostBytes-4, part), "0", "error")
		checkTold(t, "now\n"+cutTo(mostBytes-3, part))
		checkTold(t, cutTo(mostBytes-4, part)+"\nnow", "error", "0")
		checkTold(t, cutTo(mostBytes-4, part)+"\nnow\n")
		checkTold(t, "come 0 7\n"+cutTo(mostBytes-14, part)+"\nwork", "0", "error", "0")
	}
	for _, word := range []string{"at ", "used ", "want ", "pick ", "tick ", "hall ", "come 0 ", "now ", "who ", "hall 1 1:"} {
		for _, digit := range []string{"0", "1", "9", " 1", "1 ", "-", "/", ":"} {
			checkTold(t, word+cutTo(mostBytes-len(word), digit), "error")
			checkTold(t, word+cutTo(mostBytes-len(word)+1, digit))
		}
	}
	for _, size := range []int{1 << 16, 1 << 20} {
		checkTold(t, cutTo(size, "now\n"))
		checkTold(t, cutTo(size, "x"))
		checkTold(t, cutTo(size, "\n"))
	}
}

// longest lays as many bytes as may be over as many lines as may be, each made by line, which is told how many it has.
func longest(line func(i, bytes int) string) []string {
	lines, left := []string{}, mostBytes
	for i := range mostLines {
		bytes := left/(mostLines-i) - 1
		lines, left = append(lines, line(i, bytes)), left-bytes-1
	}
	return lines
}

// longHall is the text of a right hall, with as many bytes as told, behind the word of its line.
func longHall(l *lots, bytes int) string {
	for {
		paces := func(count int) string {
			text, force := "", 1+l.below(5)
			for range count {
				text += fmt.Sprintf(" %d:%d", force, force+l.below(2))
				force += 2 + l.below(250)
			}
			return text
		}
		rooms := []string{}
		for range 3 {
			rooms = append(rooms, fmt.Sprint(1+l.below(2))+paces(1+int(l.below(4))))
		}
		line := "hall " + strings.Join(rooms, "/")
		if _, ok := wantRead(line[5:]); ok && len(line) == bytes {
			return line
		}
	}
}

func TestBenchOfLinesAsLongAsTheyMayBe(t *testing.T) {
	l := lots(20)
	for _, line := range []func(i, bytes int) string{
		func(_, bytes int) string { return cutTo(bytes, "x") },
		func(_, bytes int) string { return cutTo(bytes, "now ") },
		func(i, bytes int) string { return cutTo(bytes, tableForms()[i%25]+" ") },
		func(i, bytes int) string { return "at " + cutTo(bytes-3, strconv.Itoa(i)) },
		func(_, bytes int) string { return cutTo(bytes, " \x00\xff") },
	} {
		lines := longest(line)
		text := ended(lines...)
		if len(text) != mostBytes || lineEnds(text) != mostLines {
			t.Fatal(len(text), lineEnds(text))
		}
		checkTold(t, text, slices.Repeat([]string{"error"}, mostLines)...)
		checkTold(t, text+"x")
		checkTold(t, text+"\n")
		checkTold(t, "x"+text)
	}
	right := longest(func(_, bytes int) string { return longHall(&l, bytes) })
	text := ended(right...)
	for i, answer := range answersOf(t, right) {
		if !strings.Contains("3 4 5 6", answer) || len(answer) != 1 {
			t.Errorf("%q is answered by %q", right[i], answer)
		}
	}
	if len(text) != mostBytes || len(right) != mostLines {
		t.Fatal(len(text), len(right))
	}
	checkTold(t, text+"\n")
	checkTold(t, text[:mostBytes-1]+"0\n")
}

func TestBenchTellsWhoIsAtABench(t *testing.T) {
	checkLines(t,
		"at 0", "-", "at 1", "-", "at 2", "-", "at 3", "error", "at -1", "error", "at 4", "error", "at 8", "error", "at 999999999", "error", "at -999999999", "error", "at -3", "error",
		"come 0 4", "0", "at 2", "0", "at 0", "-", "come 0 1", "0", "at 0", "1", "come 5 1", "0", "come -5 1", "0", "at 0", "1 2 3",
		"tick 1", "0", "at 0", "2 3 1", "tick 1", "0", "at 0", "3 1 2", "tick 1", "0", "at 0", "3 1 2", "rest 1", "0", "at 0", "3 2", "leave 3", "0", "at 0", "2", "leave 2", "0", "at 0", "-", "at 1", "-",
		"at 2", "0", "close 2", "0", "at 2", "-", "at 0", "0",
		"hall "+eightHall, "8", "at 7", "-", "at 8", "error", "at -1", "error", "come 3 128", "0", "at 7", "0", "at 0", "-", "come 3 255", "0", "at 0", "1", "at 6", "-",
		"hall 1 9:9", "1", "at 0", "-", "at 1", "error", "at 7", "error", "come 0 1", "0", "at 0", "0",
	)
	all := []string{}
	for who := range mostSmiths {
		all = append(all, fmt.Sprint(who))
		lines := append(slices.Repeat([]string{"come 0 7"}, who+1), "at 0", "who")
		checkTold(t, ended(lines...), append(slices.Repeat([]string{"0"}, who+1), strings.Join(all, " "), "0 -1 -1")...)
	}
}

func TestBenchTellsWhoWorksAndHowMuch(t *testing.T) {
	checkLines(t,
		"who", "-1 -1 -1", "work", "-", "tick 20", "0", "work", "-", "who", "-1 -1 -1", "now", "20", "rest 0", "1",
		"come 0 2", "0", "work", "0", "who", "-1 0 -1", "tick 20", "0", "work", "4000", "now", "40", "leave 0", "0", "work", "0", "who", "-1 -1 -1", "tick 1", "0", "work", "0", "now", "41",
		"come 0 7", "0", "come 0 4", "0", "who", "1 -1 2", "work", "0 0 0", "grant 1 1", "0", "tick 2", "0", "work", "0 400 2048", "rest 2", "0", "who", "1 -1 -1", "work", "0 400 2048",
		"hall 1 7:1", "1", "who", "-1", "work", "-", "now", "0", "come 0 1", "0", "tick 3", "0", "who", "0", "work", "21", "now", "3",
		"hall "+eightHall, "8", "who", "-1 -1 -1 -1 -1 -1 -1 -1", "work", "-", "now", "0", "come 0 128", "0", "who", "-1 -1 -1 -1 -1 -1 -1 0",
	)
}

func TestBenchOfASmithyWhoseBenchesAreClosed(t *testing.T) {
	checkLines(t,
		"come 0 7", "0", "come 0 1", "0", "close 0", "0", "close 1", "0", "close 2", "5", "close 1", "2", "close 0", "2", "close 3", "1", "who", "-1 -1 0", "at 0", "-", "at 1", "-", "at 2", "0 1",
		"used 0", "0", "used 1", "0", "used 2", "0", "pick 0", "2", "pick 1", "2", "coal", "0", "pace", "0/0 0/0", "full", "n", "limit 0 600 600", "0", "used 2", "600", "full", "n", "limit 1 220 220", "0", "full", "y",
		"come 0 3", "2", "come 0 4", "0", "who", "-1 -1 0", "at 2", "0 1 2", "work", "0 0 0", "rest 1", "0", "allow 1 1", "0", "pick 1", "error", "wake 1", "2", "tick 4", "0", "work", "2048 0 0",
		"open 0", "0", "pick 1", "0", "wake 1", "0", "close 2", "0", "who", "1 -1 -1", "at 0", "1 2 0",
	)
	pairs := []string{"hall " + eightHall, "8"}
	for bench := range 7 {
		pairs = append(pairs, fmt.Sprint("close ", bench), "0")
	}
	checkLines(t, append(pairs,
		"close 7", "5", "come 0 127", "2", "come 0 128", "0", "who", "-1 -1 -1 -1 -1 -1 -1 0", "at 7", "0", "at 6", "-", "pick 0", "7", "tick 1", "0", "work", "512", "now", "1",
	)...)
}

func TestBenchTellsPaces(t *testing.T) {
	checkLines(t,
		"pace", "0/0 0/0", "come 0 1", "0", "limit 0 160 160", "0", "pace", "0/0 0/0", "limit 0 161 161", "0", "pace", "0/1 0/0", "grant 0 1", "0", "pace", "1/1 0/0", "grant 1 1", "0", "pace", "1/1 1/0",
		"limit 0 320 320", "0", "pace", "1/1 1/0", "limit 0 321 321", "0", "pace", "1/1 1/0", "limit 0 1024 1024", "0", "pace", "1/1 1/0", "limit 0 0 0", "0", "pace", "1/0 1/0", "ask", "0", "pace", "0/0 0/0",
		"hall 1 50:5", "1", "pace", "0/0", "come 0 1", "0", "limit 0 1024 1024", "0", "pace", "0/0", "grant 0 1", "3", "grant 1 0", "1", "pace", "0/0",
		"hall 1 10:1 20:2 30:3 40:4/1 50:5/2 60:6 70:7", "4", "pace", "0/0 0/0 0/0", "come 0 1", "0", "limit 0 32 32", "0", "pace", "0/3 0/0 0/0", "limit 0 33 33", "0", "pace", "0/3 0/0 0/0", "limit 0 24 24", "0",
		"pace", "0/2 0/0 0/0", "limit 0 16 16", "0", "pace", "0/1 0/0 0/0", "grant 0 2", "0", "grant 2 1", "0", "pace", "2/1 0/0 1/0", "come 0 8", "0", "limit 1 900 900", "0", "pace", "2/1 0/0 1/1", "ask", "0", "pace", "1/1 0/0 1/1",
	)
}

func TestBenchTellsUsedWantAndPick(t *testing.T) {
	pairs := []string{}
	for _, word := range []string{"used", "want", "pick"} {
		for _, n := range []string{"-1", "-2", "3", "4", "8", "12", "999999999", "-999999999"} {
			pairs = append(pairs, word+" "+n, "error")
		}
	}
	checkLines(t, append(pairs,
		"used 0", "0", "used 1", "0", "used 2", "0", "want 0", "error", "pick 0", "error", "come 0 7", "0", "want 0", "0", "pick 0", "0", "want 1", "error", "pick 1", "error", "want -1", "error", "pick -1", "error",
		"limit 0 1 1", "0", "want 0", "1", "used 0", "1", "used 1", "0", "rest 0", "0", "used 0", "0", "want 0", "1", "pick 0", "0", "come 0 2", "0", "limit 1 1024 1024", "0", "used 1", "1024", "used 2", "0", "used 3", "error", "want 2", "error",
	)...)
	checkLines(t,
		"come 0 3", "0", "limit 0 500 500", "0", "pick 0", "0", "allow 0 7", "0", "pick 0", "2", "join 0 0", "0", "want 0", "500", "limit 0 600 1024", "0", "want 0", "500", "join 0 -1", "0", "want 0", "600", "pick 0", "2",
		"leave 0", "0", "want 0", "error", "pick 0", "error", "used 0", "0", "come 0 1", "0", "pick 1", "0", "rest 1", "0", "close 0", "0", "pick 1", "error", "want 1", "0", "used 0", "0", "open 0", "0", "pick 1", "0",
		"hall 1 200:1/1 400:1", "2", "want 0", "error", "pick 0", "error", "want 1", "error", "come 0 3", "0", "limit 0 320 320", "0", "pick 0", "1", "want 0", "320", "limit 0 0 0", "0", "want 0", "0", "pick 0", "0", "used 1", "0", "used 2", "error",
	)
}

func TestBenchTellsWhetherItIsFull(t *testing.T) {
	checkLines(t,
		"full", "n", "come 0 1", "0", "full", "n", "limit 0 320 320", "0", "full", "n", "limit 0 321 321", "0", "full", "y", "rest 0", "0", "full", "n", "wake 0", "0", "full", "y", "allow 0 4", "0", "full", "n",
		"limit 0 819 819", "0", "full", "n", "limit 0 820 820", "0", "full", "y", "come 0 4", "0", "full", "y", "leave 0", "0", "full", "n", "hall 1 5:5", "1", "full", "n", "come 0 1", "0", "limit 0 4 4", "0", "full", "n", "limit 0 5 5", "0", "full", "y",
		"hall 1 5:5", "1", "full", "n",
	)
}

func TestBenchTellsWhatIsBurnt(t *testing.T) {
	checkLines(t,
		"coal", "0", "come 0 1", "0", "coal", "0", "limit 0 199 199", "0", "coal", "1", "limit 0 160 160", "0", "coal", "0", "limit 0 320 320", "0", "coal", "2", "limit 0 1024 1024", "0", "coal", "7", "come 0 4", "0", "coal", "7",
		"limit 1 819 819", "0", "coal", "13", "rest 0", "0", "coal", "6", "hall 1 1:1024", "1", "coal", "0", "come 0 1", "0", "limit 0 1024 1024", "0", "coal", "1048576",
	)
}

// The guild is there from the first line on, and of each smithy of a line hall; there is no other one.
func TestBenchHasOneGuild(t *testing.T) {
	for _, ahead := range [][]string{{}, {"hall 1 9:9", "1"}, {"hall " + benchHall, "3"}, {"hall x", "error"}, {"hall " + eightHall, "8", "come 0 1", "0", "join 0 -1", "0", "hall 1 9:9", "1"}} {
		checkLines(t, append(slices.Clone(ahead),
			"join 0 0", "1", "come 0 1", "0", "join 0 1", "3", "join 0 -2", "3", "join 0 -1", "0", "limit 0 1024 1024", "0", "want 0", "1024", "join 0 0", "0", "want 0", "500", "limit 0 501 501", "0", "want 0", "500",
			"limit 0 500 500", "0", "want 0", "500", "limit 0 499 499", "0", "want 0", "499", "limit 0 1 1", "0", "want 0", "1", "limit 0 0 0", "0", "want 0", "0", "join 0 2", "3", "want 0", "0", "limit 0 0 1024", "0", "want 0", "0",
		)...)
	}
}

// Each code is an answer, and none of them is a refusal of the line.
func TestBenchTellsCodes(t *testing.T) {
	checkLines(t,
		"rest 0", "1", "wake 0", "1", "leave 0", "1", "rank 0 0", "1", "allow 0 1", "1", "limit 0 1 1", "1", "join 0 0", "1", "close 3", "1", "open 3", "1", "grant 2 0", "1", "open 0", "2", "come 0 8", "2", "come 6 1", "3", "come 0 0", "3", "come 0 256", "3",
		"tick 0", "3", "tick 21", "3", "tick -1", "3", "tick 999999999", "3", "grant 0 2", "3", "grant 0 -1", "3", "ask", "0", "level", "0",
		"come 0 7", "0", "rank 0 6", "3", "rank 0 -6", "3", "allow 0 256", "3", "allow 0 8", "2", "limit 0 2 1", "3", "limit 0 0 1025", "3", "limit 0 -1 1", "3", "wake 0", "2", "rest 0", "0", "rest 0", "2", "wake 0", "0", "who", "0 -1 -1", "work", "0", "now", "0",
		"leave 0", "0", "leave 0", "1",
	)
	full := slices.Repeat([]string{"come 0 7", "0"}, mostSmiths)
	checkLines(t, append(full, "come 0 7", "4", "come 6 7", "3", "come 0 8", "4", "leave 3", "0", "come 0 7", "4", "work", "0 0 0 0 0 0 0 0 0 0 0 0", "at 0", "0 1 2 4 5 6 7 8 9 10 11")...)
}

// A line hall whose text is none leaves all as it was, and one whose text is a hall leaves nothing of it.
func TestBenchOfHalls(t *testing.T) {
	ahead := []string{"come 0 7", "0", "come 2 4", "0", "grant 1 1", "0", "tick 7", "0", "close 1", "0", "limit 0 100 200", "0", "join 1 0", "0", "rest 1", "0"}
	asked := []string{"who", "at 0", "at 2", "at 3", "used 0", "used 3", "want 0", "want 1", "coal", "pace", "pick 0", "pick 1", "pick 2", "full", "work", "now", "open 1", "wake 1", "tick 1", "who", "work", "now"}
	as := []string{"0 -1 -1", "0", "-", "error", "100", "error", "100", "203", "0", "0/0 1/0", "0", "2", "error", "n", "1400 7168", "7", "0", "0", "0", "0 -1 1", "1600 8192", "8"}
	behind := []string{}
	for i, line := range asked {
		behind = append(behind, line, as[i])
	}
	checkLines(t, slices.Concat(ahead, behind)...)
	for _, wrong := range []string{
		"hall ", "hall", "hall x", "hall 0", "hall 1", "hall 1 ", "hall 1 1", "hall 1 1:", "hall 1 :1", "hall 5 1:1", "hall 0 1:1", "hall -1 1:1", "hall 1 1:1/", "hall /1 1:1", "hall 1 1:1//1 1:1", "hall  1 1:1", "hall 1 1:1 ", "hall 1  1:1",
		"hall 1 2:1 1:2", "hall 1 1:2 2:1", "hall 1 1:1 1:2", "hall 1 1:1 2:1", "hall 1 0:1", "hall 1 1:0", "hall 1 1025:1", "hall 1 1:1025", "hall 01 1:1", "hall 1 01:1", "hall 1 1:01", "hall +1 1:1", "hall 1 1:1/1 1:1/1 1:1/1 1:1",
		"hall 4 1:1/4 1:1/1 1:1", "hall 3 1:1/3 1:1/3 1:1", "hall 1 1:1 2:2 3:3 4:4 5:5", "hall hall 1 1:1", "hall hall", "hall who", "hall 1 1:1 who", "hall 1 1:1\r", "hall\t1 1:1", "hall 1\t1:1", "hall 1 1:1\x00", "hall \x001 1:1", "hall \xff",
		"Hall 1 1:1", "HALL 1 1:1", "halls 1 1:1", "hal 1 1:1", " hall 1 1:1", "hall1 1:1", "hall:1 1:1", "1 1:1", "hall 1000000000 1:1", "hall 1 1:1, 2:2", "hall 1 1:1|1 1:1", "hall " + benchHall + "/", "hall " + benchHall + " ", "hall  " + benchHall,
	} {
		checkLines(t, slices.Concat(ahead, []string{wrong, "error"}, behind)...)
		checkLines(t, slices.Concat([]string{wrong, "error", wrong, "error"}, ahead, []string{wrong, "error"}, behind[:32], []string{wrong, "error"}, behind[32:])...)
	}
	for _, text := range []string{"1 1:1", benchHall, eightHall, dearHall, "1 1024:1024", "4 1:1/4 1:1", "1 1:1/1 1:1/1 1:1", "1 1:1 2:2 3:3 4:4", "4 5:5 6:6"} {
		fresh := checkText(t, ended(append([]string{"hall " + text}, asked...)...))
		first := checkText(t, ended(append([]string{"come 0 7", "tick 7", "close 1", "join 0 0", "grant 0 1", "hall " + text}, asked...)...))
		if !strings.HasPrefix(fresh, fmt.Sprintf("%d\n", len(emptySmithy(text).Desks))) || !strings.HasSuffix(first, "\n"+fresh) || lineEnds(first) != lineEnds(fresh)+5 {
			t.Errorf("of %s %q, and behind others %q", text, fresh, first)
		}
		if text == benchHall {
			checkTold(t, ended(asked...), strings.Split(strings.TrimSuffix(strings.TrimPrefix(fresh, "3\n"), "\n"), "\n")...)
		}
	}
}

// fewHalls have one room to three, one bench to eight, one Pace to four.
var fewHalls = []string{
	"1 50:5", "2 1024:9", "3 7:1 9:2", "4 300:1 600:4 1024:9", "1 90:9 200:20/1 50:1 700:2 1024:3", benchHall, dearHall, "4 5:5/4 1:1 2:2", eightHall, "1 1024:1/1 1024:2/1 1:1", "3 100:1 200:3 400:9 800:27/3 500:5/2 250:2 1000:9",
}

func drawnHallText(l *lots) string {
	text := oneOf(l, fewHalls...)
	if l.below(5) == 0 {
		return spoiledText(l, text)
	}
	return text
}

// spoiledText has a byte more, one less or another one, so that it may be right all the same.
func spoiledText(l *lots, text string) string {
	i, c := int(l.below(len(text)+1)), string([]byte{oneOf(l, []byte("0123456789 -/:\x00\t\r\xffahklowx")...)})
	switch l.below(3) {
	case 0:
		return text[:i] + c + text[i:]
	case 1:
		return text[:i] + c + text[min(i+1, len(text)):]
	}
	return text[:i] + text[min(i+1, len(text)):]
}

// drawnLine is one of the table more often than not, with numbers that are right in that smithy more often than not.
func drawnLine(l *lots, m impl.Smithy) string {
	switch l.below(30) {
	case 0:
		return ""
	case 1, 2:
		return spoiledText(l, drawnLine(l, m))
	case 3:
		return oneOf(l, "what", "Who", " now", "now ", "at", "at 0 0", "come 0", "tick", "tick 01", "used -0", "hall", "-", "want x", "pick +1", "ask 1")
	case 4:
		if l.below(5) == 0 {
			return "hall " + drawnHallText(l)
		}
		return fmt.Sprintf("come %d %d", l.below(11)-5, 1<<len(m.Desks)-1)
	case 5, 6, 7, 8, 9, 10, 11, 12:
		form := oneOf(l, askedForms...)
		most := len(m.Smiths)
		if wordOf(form) == "at" || wordOf(form) == "used" {
			most = len(m.Desks)
		}
		return strings.Replace(form, "N", fmt.Sprint(l.below(most+2)-1), 1)
	}
	a := drawnAct(l, m, busyKinds()...)
	if l.below(5) == 0 {
		*oneOf(l, &a.Who, &a.A, &a.B) = oneOf[int64](l, -999999999, -6, -1, 0, 1, 6, 12, 21, 255, 256, 1024, 1025, 999999999)
	}
	return wantShowAct(a)
}

// kindOf is the word of a line, and how it was answered: by error, by a code, or in some other way.
func kindOf(line, answer string) string {
	isOf := func(form string) bool { return wordOf(form) == wordOf(line) }
	switch {
	case !slices.ContainsFunc(tableForms(), isOf):
		return "no word " + answer
	case answer == "error" || slices.ContainsFunc(actForms, isOf):
		return wordOf(line) + " " + answer
	}
	return wordOf(line)
}

// drawnLines may begin with a hall and with some who come; it counts what is answered to each word.
func drawnLines(l *lots, count int, counted codes) []string {
	m, _ := asBuilt.begun(benchHall)
	ahead := []string{}
	if l.below(4) > 0 {
		ahead = append(ahead, "hall "+drawnHallText(l))
	}
	ahead = append(ahead, slices.Repeat([]string{"come 0 1"}, int(max(l.below(28)-14, 0)))...)
	lines := []string{}
	for len(lines) < count {
		line := drawnLine(l, m)
		if len(lines) < len(ahead) {
			line = ahead[len(lines)]
		}
		x, s := asBuilt.answer(m, line)
		if line != "" {
			counted[kindOf(line, s)]++
		}
		lines, m = append(lines, line), x
	}
	return lines
}

// checkCounted asks that each line of the table was answered often, and refused, too.
func checkCounted(t *testing.T, least int, counted codes) {
	t.Helper()
	for _, form := range tableForms() {
		if slices.Contains(actForms, form) {
			counted.checkAtLeast(t, least, wordOf(form)+" 0")
		} else {
			counted.checkAtLeast(t, least, wordOf(form))
		}
	}
	counted.checkAtLeast(t, least, "at error", "used error", "want error", "pick error", "hall error", "tick error", "no word error")
	counted.checkAtLeast(t, least, "rest 1", "rest 2", "wake 1", "wake 2", "leave 1", "come 2", "come 3", "come 4", "rank 1", "rank 3", "allow 1", "allow 2", "allow 3", "limit 1", "limit 3", "close 1", "close 2", "close 5", "open 1", "open 2", "tick 3", "grant 1", "grant 3", "join 1", "join 3")
}

// Promise 20: one line to 120, each answered as its chapter answers for the smithy that there is by then.
func TestBenchTellsWhatTheChaptersTell(t *testing.T) {
	l, counted := lots(2020), codes{}
	for count := 1; count <= mostLines; count++ {
		for range 12 {
			lines := drawnLines(&l, count, counted)
			text := ended(lines...)
			if answers := answersOf(t, lines); len(answers) != count {
				t.Fatal(len(answers), count)
			}
			checkText(t, strings.TrimSuffix(text, "\n"))
		}
	}
	checkCounted(t, 30, counted)
}

// The same, held against the reckonings of all chapters, at each hall there is by its number of benches.
func TestBenchHeldAgainstAReckoning(t *testing.T) {
	l, counted := lots(202020), codes{}
	for range 60 {
		checkBenchOf(t, asReckoned, ended(drawnLines(&l, mostLines, counted)...))
	}
	checkCounted(t, 3, counted)
	for i, h := range rightHalls(t) {
		m, _ := asBuilt.begun(wantShown(h))
		lines := []string{"hall " + wantShown(h)}
		for len(lines) < 60+i%60 {
			line := drawnLine(&l, m)
			if wordOf(line) != "hall" {
				lines = append(lines, line)
				m, _ = asBuilt.answer(m, line)
			}
		}
		if answer, _, _ := strings.Cut(checkBenchOf(t, asReckoned, ended(lines...)), "\n"); answer != fmt.Sprint(len(m.Desks)) {
			t.Fatalf("%s is answered by %s", lines[0], answer)
		}
	}
}

// asks tells whether a line only asks, whatever it is answered by.
func asks(line string) bool { return askedLine.MatchString(line) }

// changes tells whether what follows may hang on that line.
func changes(line, answer string) bool {
	if asks(line) || line == "" || answer == "error" {
		return false
	}
	return wordOf(line) == "hall" || answer == "0"
}

// What comes later changes no answer; what is refused, and what only asks, changes none that come later.
func TestBenchAnswersEachLineByItself(t *testing.T) {
	l := lots(22)
	for range 30 {
		lines := drawnLines(&l, 20+int(l.below(101)), codes{})
		answers := answersOf(t, lines)
		whole, ahead := impl.Bench(ended(lines...)), []string{}
		for i, line := range lines {
			if told := impl.Bench(ended(lines[:i]...)); !strings.HasPrefix(whole, told) || lineEnds(told) != i-count(lines[:i], "") {
				t.Fatalf("%q is answered by %q, and as part of more by %q", lines[:i], told, whole)
			}
			told := impl.Bench(ended(append(ahead, line)...))
			if line != "" && !strings.HasSuffix("\n"+told, "\n"+answers[i]+"\n") {
				t.Fatalf("%q is answered by %q behind %q, and by %q without what changes nothing: %q", line, answers[i], lines[:i], told, ahead)
			}
			if changes(line, answers[i]) {
				ahead = append(ahead, line)
			}
		}
		if len(ahead) == 0 || len(ahead) == len(lines) {
			t.Fatalf("of %q these change something: %q", lines, ahead)
		}
	}
}

func count(lines []string, line string) int {
	n := 0
	for _, s := range lines {
		if s == line {
			n++
		}
	}
	return n
}

// Nothing is kept from one text to the next, nor shared by those who ask at once.
func TestBenchBeginsAnew(t *testing.T) {
	l := lots(220)
	texts, answers := []string{"", "now", "x"}, []string{"", "0\n", "error\n"}
	for range 40 {
		texts = append(texts, ended(drawnLines(&l, 40, codes{})...))
		answers = append(answers, asBuilt.bench(texts[len(texts)-1]))
	}
	for range 300 {
		if i := l.below(len(texts)); impl.Bench(texts[i]) != answers[i] {
			t.Fatalf("asked again, Bench(%q) is not %q", texts[i], answers[i])
		}
	}
	var all sync.WaitGroup
	wrong := make([]bool, 8)
	for i := range wrong {
		all.Go(func() {
			for j, text := range texts {
				wrong[i] = wrong[i] || impl.Bench(text) != answers[j]
			}
		})
	}
	all.Wait()
	if slices.Contains(wrong, true) {
		t.Fatal("asked at once, Bench answers otherwise")
	}
}

// checkNoLine asks that the line is answered by error, and that all that follows is as if it weren't there.
func checkNoLine(t *testing.T, line string) {
	t.Helper()
	ahead := "come 0 7\ncome 0 4\nlimit 0 200 300\njoin 1 0\ntick 3\ngrant 1 1\n"
	behind := "who\nat 0\nat 2\nused 0\nwant 0\nwant 1\ncoal\npace\npick 0\nfull\nwork\nnow\ncome 0 1\ntick 2\nwork\nnow\nhall 1 9:9\nwho\n"
	codes := "0\n0\n0\n0\n0\n0\n"
	told := "0 -1 1\n0\n1\n200\n200\n46\n1\n0/1 1/0\n2\nn\n600 1536\n3\n0\n0\n1000 3584 0\n5\n1\n-1\n"
	for text, want := range map[string]string{
		line:                              "error\n",
		line + "\n":                       "error\n",
		ahead + line + "\n" + behind:      codes + "error\n" + told,
		"\n" + line + "\n" + ahead:        "error\n" + codes,
		ahead + behind + line:             codes + told + "error\n",
		line + "\n" + line + "\n" + "now": "error\nerror\n0\n",
	} {
		if got := checkText(t, text); got != want {
			t.Fatalf("Bench(%q) = %q, not %q", text, got, want)
		}
	}
}

func TestBenchOfUnknownWords(t *testing.T) {
	lines := []string{
		"x", "-", "0", "1 1", "help", "quit", "error", "y", "n", "which 0", "hello", "W", "come A B", "hall TEXT", "at N", "benches", "desk 0", "use 0", "mark 0", "smith", "guild", "turn", "idle 0", "put 0 1", "play", "script", "wants 0", "picks 0", "chosen 0",
		"coals", "coa", "paces", "pac", "pic 0", "fulls", "ful", "works", "wor", "nows", "no", "whos", "wh", "w", "a 0", "att 0", "ats 0", "usedd 0", "use", "u 0", "wan 0", "p 0", "c", "f", "com 0 7", "comes 0 7", "co", "r 0", "res 0", "wak 0", "leav 0", "ran 0 0",
		"allo 0 1", "limi 0 0 1", "clos 0", "ope 0", "tic 1", "gran 0 0", "as", "leve", "joi 0 0", "jo", "l", "le", "li", "h", "ha", "hal", "halll 1 1:1", "hallo", "o", "op 0", "t 1", "ti 1", "g 0 0", "j 0 0", "n", "no", "whowho", "nownow", "who;now", "who,now",
		"now\vnow", "#now", "/now", "now.", "now:", "now=", "(now)", "'now'", "\"now\"", "-now", "+now", "at:0", "at0", "at=0", "at-1", "tick1", "come07", "come0 7", "w ho", "no w", "a t 0", "0 at", "0 7 come",
	}
	for _, form := range tableForms() {
		line := strings.NewReplacer("T", "1 50:5", "N", "0", "W", "0", "A", "1", "B", "7").Replace(form)
		word := wordOf(line)
		rest := strings.TrimPrefix(line, word)
		lines = append(lines, strings.ToUpper(line), strings.ToUpper(word[:1])+word[1:]+rest, word[:len(word)-1]+strings.ToUpper(word[len(word)-1:])+rest, word+"s"+rest, word+"x"+rest, "x"+word+rest, word+word+rest, word+"-"+rest, word+"1"+rest, word[1:]+rest)
		if ahead := word[:len(word)-1] + rest; wordOf(ahead) != "" {
			lines = append(lines, ahead)
		}
	}
	for _, line := range lines {
		checkNoLine(t, line)
	}
}

func TestBenchOfBlanks(t *testing.T) {
	for _, form := range tableForms() {
		line := strings.NewReplacer("T", "1 50:5", "N", "0", "W", "0", "A", "1", "B", "7").Replace(form)
		for _, blank := range []string{" ", "  ", "\t", "\r", "\x00", "\v", "\f", "\u00a0", "\xff", "_"} {
			checkNoLine(t, blank+line)
			checkNoLine(t, line+blank)
			checkNoLine(t, blank+line+blank)
			for i, c := range line {
				if c == ' ' {
					checkNoLine(t, line[:i]+blank+line[i:])
					checkNoLine(t, line[:i+1]+blank+line[i+1:])
					if blank != " " {
						checkNoLine(t, line[:i]+blank+line[i+1:])
					}
				}
			}
		}
	}
}

// Each word of the table with none to five words behind it.
func TestBenchOfWordsTooManyOrTooFew(t *testing.T) {
	behind := []string{"0", "1", "7", "-1", "999999999", "x", "", "now", "1 50:5", "1:1"}
	right := 0
	for _, form := range tableForms() {
		numbers := strings.Count(form, " ")
		for words := range 6 {
			for _, word := range behind {
				line := wordOf(form) + strings.Repeat(" "+word, words)
				text := ended("come 0 7", "tick 3", line, "who", "work", "now", "at 0")
				if got := checkText(t, text); lineEnds(got) != 7 {
					t.Fatalf("Bench(%q) = %q", text, got)
				}
				isHall := wordOf(form) == "hall" && line == "hall 1 50:5"
				isRight := wordOf(form) != "hall" && words == numbers && (words == 0 || slices.Contains(behind[:5], word))
				if isHall || isRight {
					right++
					continue
				}
				checkNoLine(t, line)
				checkNoLine(t, line+" ")
			}
		}
	}
	// Eight words that stand alone are asked for ten times each, sixteen have numbers; the hall is right once.
	if right != 8*10+16*5+1 {
		t.Fatal(right)
	}
}

func TestBenchOfNumbers(t *testing.T) {
	wrong := []string{
		"+0", "+1", "-0", "--1", "-", "+", "-01", "00", "01", "007", "0000000000", "000000001", "1000000000", "-1000000000", "9999999999", "1234567890", "-1234567890", "4294967296", "4294967297", "9223372036854775807", "-9223372036854775808",
		"9223372036854775808", "18446744073709551616", "18446744073709551617", "99999999999999999999999", "", "x", "0x1", "0b1", "0o1", "1e1", "1.0", "1,0", "1_0", "0_1", "1-", "1+", "1-1", "a1", "1a", "٠", "１", "one", "W", "N", "\x00", "1\x00", "\x001", "1\r", "1\t", "\t1", "1\xff", "\xff", "1/1", "1:1", "(1)", "'1'",
	}
	right := []string{"0", "1", "-1", "9", "10", "-10", "100000000", "123456789", "999999999", "-100000000", "-123456789", "-999999999"}
	for _, form := range slices.Concat(askedForms, actForms) {
		words := strings.Split(form, " ")
		for i := range words[1:] {
			at := func(number string) string {
				list := slices.Concat([]string{words[0]}, slices.Repeat([]string{"1"}, len(words)-1))
				list[i+1] = number
				return strings.Join(list, " ")
			}
			for _, number := range wrong {
				checkNoLine(t, at(number))
			}
			for _, number := range right {
				checkTold(t, "come 0 1\ncome 0 1\n"+at(number)+"\n", answersOf(t, []string{"come 0 1", "come 0 1", at(number)})...)
				if got := checkText(t, "come 0 1\ncome 0 1\n"+at(number)); strings.Contains(got, "error") && (slices.Contains(actForms, form) || number == "0") {
					t.Errorf("%q is refused: %q", at(number), got)
				}
			}
		}
	}
}

// Each byte there is, at each place of a line of each form: one more, one less, and one in another's place.
func TestBenchOfLinesThatAreNearlyRight(t *testing.T) {
	for _, form := range tableForms() {
		line := strings.NewReplacer("T", "1 50:5/2 7:7 9:9", "N", "1", "W", "1", "A", "12", "B", "-3").Replace(form)
		for i := range len(line) + 1 {
			lines := []string{line[:i], line[i:]}
			for c := range 256 {
				lines = append(lines, line[:i]+string([]byte{byte(c)})+line[i:])
				if i < len(line) {
					lines = append(lines, line[:i]+string([]byte{byte(c)})+line[i+1:])
				}
			}
			if i < len(line) {
				lines = append(lines, line[:i]+line[i+1:])
			}
			for _, nearly := range lines {
				checkText(t, "come 0 7\n"+nearly+"\nwork\nnow\n")
			}
		}
	}
}

// The same at each place of whole texts, with the bytes that are told of and some others.
func TestBenchOfTextsThatAreNearlyRight(t *testing.T) {
	bytes := []byte("\x00\t\n\r -/0159:ACahknotwz\x7f\x80\xc2\xff")
	for _, text := range []string{
		"come 0 7\nwho\ntick 10\nwant 0\nused 0\ncoal\npace\nfull\nwork\nnow\n",
		"hall 1 100:1/1 100:1\ncome 2 3\nlimit 0 90 1024\npick 0\nclose 0\nat 1\nhall x\nopen 0\nlevel\n\nask\nwho",
		"\n\nrank 0 1\nrest 0\nwake 0\nallow 0 4\nleave 0\njoin 0 0\ngrant 0 1\n\n",
	} {
		for i := range len(text) + 1 {
			for _, c := range bytes {
				checkText(t, text[:i]+string([]byte{c})+text[i:])
				if i < len(text) {
					checkText(t, text[:i]+string([]byte{c})+text[i+1:])
				}
			}
			checkText(t, text[:i])
			checkText(t, text[i:])
			if i < len(text) {
				checkText(t, text[:i]+text[i+1:])
			}
		}
	}
}

func TestBenchOfAnyBytes(t *testing.T) {
	l := lots(200)
	for range 3000 {
		drawn := make([]byte, l.below(200))
		for i := range drawn {
			drawn[i] = byte(l.below(256))
			if l.below(3) == 0 {
				drawn[i] = oneOf(&l, []byte("\n\n 0123456789-/:whonatcmeusdplirkv")...)
			}
		}
		checkText(t, string(drawn))
	}
	for c := range 256 {
		one := string([]byte{byte(c)})
		for _, text := range []string{one, one + "\n", "\n" + one, "now" + one, one + "now", "now\n" + one + "\nnow", "at" + one + "0", "at 0" + one, strings.Repeat(one, 119), strings.Repeat(one, mostLines), strings.Repeat(one, mostLines+1)} {
			checkText(t, text)
		}
	}
}
