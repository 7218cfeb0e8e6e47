package tests

import (
	"fmt"
	"math"
	"reflect"
	"regexp"
	"runtime"
	"slices"
	"strconv"
	"strings"
	"sync"
	"testing"

	"loop.example/g00553/impl"
)

const mostActs = 300

// actForms holds how acts are written, in the words of the chapter, the first Kind first.
var actForms = []string{
	"come A B", "rest W", "wake W", "leave W", "rank W A", "allow W A", "limit W A B", "close A", "open A", "tick A", "grant A B", "ask", "level", "join W A",
}

// actPatterns asks for the form of a whole text, one Kind after the other.
var actPatterns = func() []*regexp.Regexp {
	number := func(name string) string { return fmt.Sprintf(`(?P<%s>0|-?[1-9][0-9]{0,8})`, name) }
	list := []*regexp.Regexp{}
	for _, form := range actForms {
		list = append(list, regexp.MustCompile(`\A`+strings.NewReplacer("W", number("W"), "A", number("A"), "B", number("B")).Replace(form)+`\z`))
	}
	return list
}()

// noKinds holds what is no Kind; what looks like one in its lowest bits alone is among it.
var noKinds = []int64{
	math.MinInt64, math.MinInt64 + 1, math.MinInt64 + 12, -1 << 32, -1<<32 + 13, -256 + 14, -14, -12, -2, -1, 0,
	15, 16, 17, 28, 255, 256, 256 + 12, 1<<16 + 1, 1<<32 + 12, 1<<32 + 14, 1 << 62, math.MaxInt64 - 1, math.MaxInt64,
}

func act(kind, who, a, b int64) impl.Act { return impl.Act{Kind: kind, Who: who, A: a, B: b} }

func formOf(kind int64) string {
	if !isFrom(kind, 1, int64(len(actForms))) {
		return ""
	}
	return actForms[kind-1]
}

// bare is that act with all zero that its Kind does not tell.
func bare(a impl.Act) impl.Act {
	x := impl.Act{Kind: a.Kind}
	for letter, field := range map[string][2]*int64{"W": {&x.Who, &a.Who}, "A": {&x.A, &a.A}, "B": {&x.B, &a.B}} {
		if strings.Contains(formOf(a.Kind), letter) {
			*field[0] = *field[1]
		}
	}
	return x
}

func wantShowAct(a impl.Act) string {
	return strings.NewReplacer("W", fmt.Sprint(a.Who), "A", fmt.Sprint(a.A), "B", fmt.Sprint(a.B)).Replace(formOf(a.Kind))
}

func wantReadAct(s string) (impl.Act, bool) {
	for i, pattern := range actPatterns {
		found := pattern.FindStringSubmatch(s)
		if found == nil {
			continue
		}
		a := impl.Act{Kind: int64(i) + 1}
		for j, name := range pattern.SubexpNames() {
			n, _ := strconv.ParseInt(found[j], 10, 64)
			switch name {
			case "W":
				a.Who = n
			case "A":
				a.A = n
			case "B":
				a.B = n
			}
		}
		return a, true
	}
	return impl.Act{}, false
}

func wantJoined(m impl.Smithy, who, guild int64) (impl.Smithy, int64) {
	x, code := wantChange(m, who, isFrom(guild, -1, int64(len(m.Guilds))-1), func(s *impl.Smith) { s.Guild = guild })
	if code != 0 {
		return x, code
	}
	return wantTurned(x), 0
}

func wantPacesAsked(m impl.Smithy) impl.Smithy {
	x := lendSmithy(m)
	for room := range x.Paces {
		x.Paces[room] = wantWanted(m, int64(room))
	}
	return wantTurned(x)
}

// wantHappen asks the reckonings of the earlier chapters, where the program asks these chapters.
func wantHappen(m impl.Smithy, a impl.Act) (impl.Smithy, int64) {
	if !wantSmithyOk(m) {
		return impl.Smithy{}, 3
	}
	word, _, _ := strings.Cut(formOf(a.Kind), " ")
	switch word {
	case "come":
		return wantCome(m, a.A, a.B, -1)
	case "rest":
		return wantRest(m, a.Who)
	case "wake":
		return wantWake(m, a.Who)
	case "leave":
		return wantLeave(m, a.Who)
	case "rank":
		return wantRanked(m, a.Who, a.A)
	case "allow":
		return wantAllowed(m, a.Who, a.A)
	case "limit":
		return wantLimited(m, a.Who, a.A, a.B)
	case "close":
		return wantClosed(m, a.A)
	case "open":
		return wantOpened(m, a.A)
	case "tick":
		return wantTicked(m, a.A)
	case "grant":
		return wantGranted(m, a.A, a.B)
	case "ask":
		return wantPacesAsked(m), 0
	case "level":
		return wantLevelled(m), 0
	case "join":
		return wantJoined(m, a.Who, a.A)
	}
	return m, 3
}

func wantPlay(m impl.Smithy, list []impl.Act) impl.Smithy {
	if !wantSmithyOk(m) || len(list) > mostActs {
		return impl.Smithy{}
	}
	for _, a := range list {
		m, _ = wantHappen(m, a)
	}
	return m
}

func wantWorkOf(m impl.Smithy) []int64 {
	list := []int64{}
	if wantSmithyOk(m) {
		for _, s := range m.Smiths {
			list = append(list, s.Work)
		}
	}
	return list
}

func happening(a impl.Act) asked {
	return asked{
		fmt.Sprintf("Happen %+v", a),
		func(m impl.Smithy) (impl.Smithy, int64) { return impl.Happen(m, a) },
		func(m impl.Smithy) (impl.Smithy, int64) { return wantHappen(m, a) },
	}
}

func happenings(list ...impl.Act) []asked {
	all := []asked{}
	for _, a := range list {
		all = append(all, happening(a))
	}
	return all
}

// lendActs is a copy of them, with acts behind them that would change nearly anything.
func lendActs(list []impl.Act) []impl.Act {
	return room(list, act(impl.AcTick, 0, 20, 0), act(impl.AcCome, 0, 0, 255), act(impl.AcLeave, 0, 0, 0))
}

// playing is right or not by what is answered alone: it has no code.
func playing(list ...impl.Act) asked {
	lent := lendActs(list)
	return asked{
		fmt.Sprintf("Play %+v", list),
		func(m impl.Smithy) (impl.Smithy, int64) { return impl.Play(m, lent), impl.OpDone },
		func(m impl.Smithy) (impl.Smithy, int64) { return wantPlay(m, list), impl.OpDone },
	}
}

func checkWork(t *testing.T, m impl.Smithy) {
	t.Helper()
	if got, want := impl.WorkOf(m), wantWorkOf(m); !slices.Equal(got, want) {
		t.Fatalf("WorkOf(%+v) = %v, not %v", m, got, want)
	}
}

// byItsChapter is what the functions of the earlier chapters answer for an act; of AcJoin there is none.
func byItsChapter(m impl.Smithy, a impl.Act) (impl.Smithy, int64) {
	switch a.Kind {
	case impl.AcCome:
		return impl.Come(m, a.A, a.B, -1)
	case impl.AcRest:
		return impl.Rest(m, a.Who)
	case impl.AcWake:
		return impl.Wake(m, a.Who)
	case impl.AcLeave:
		return impl.Leave(m, a.Who)
	case impl.AcRank:
		return impl.Ranked(m, a.Who, a.A)
	case impl.AcAllow:
		return impl.Allowed(m, a.Who, a.A)
	case impl.AcLimit:
		return impl.Limited(m, a.Who, a.A, a.B)
	case impl.AcClose:
		return impl.Closed(m, a.A)
	case impl.AcOpen:
		return impl.Opened(m, a.A)
	case impl.AcTick:
		return impl.Ticked(m, a.A)
	case impl.AcGrant:
		return impl.Granted(m, a.A, a.B)
	case impl.AcAsk:
		x := m
		for room := range m.Paces {
			x, _ = impl.Granted(x, int64(room), impl.Wanted(m, int64(room)))
		}
		return x, impl.OpDone
	case impl.AcLevel:
		return impl.Levelled(m), impl.OpDone
	}
	return m, impl.OpRange
}

// checkAsking asks it of what is behind AcAsk, by the words of the chapter.
func checkAsking(t *testing.T, m, x impl.Smithy, code int64) {
	t.Helper()
	was := lendSmithy(m)
	for room := range m.Paces {
		was.Paces[room] = impl.Wanted(m, int64(room))
		if x.Paces[room] != was.Paces[room] {
			t.Fatalf("room %d has %d, and %d was Wanted: %+v became %+v", room, x.Paces[room], was.Paces[room], m, x)
		}
	}
	if code != impl.OpDone {
		t.Fatalf("AcAsk is answered by %d: %+v", code, m)
	}
	checkNobodyLost(t, was, x)
	checkOthersStay(t, was, x)
}

// checkJoining asks it of what is behind AcJoin, by the words of the chapter.
func checkJoining(t *testing.T, m, x impl.Smithy, a impl.Act, code int64) {
	t.Helper()
	want := int64(impl.OpDone)
	switch {
	case stateOf(m, a.Who) == impl.SmGone:
		want = impl.OpNone
	case !isFrom(a.A, -1, int64(len(m.Guilds))-1):
		want = impl.OpRange
	}
	if code != want {
		t.Fatalf("%+v is answered by %d, not %d: %+v", a, code, want, m)
	}
	checkSmithChanged(t, m, x, a.Who, code, func() impl.Smith {
		s := m.Smiths[a.Who]
		s.Guild = a.A
		return s
	})
}

// checkHappening is what the chapter says of an act, of a smithy that is right.
func checkHappening(t *testing.T, m impl.Smithy, a impl.Act) (impl.Smithy, int64) {
	t.Helper()
	x, code := impl.Happen(m, a)
	switch a.Kind {
	case impl.AcJoin:
		checkJoining(t, m, x, a, code)
	case impl.AcAsk:
		checkAsking(t, m, x, code)
	}
	if want, k := byItsChapter(m, a); a.Kind != impl.AcJoin && (code != k || !sameSmithy(x, want)) {
		t.Fatalf("Happen(%+v, %+v) = %+v, %d, not %+v, %d", m, a, x, code, want, k)
	}
	if code != impl.OpDone {
		checkNothingChanged(t, m, x, code)
	}
	if told, k := impl.Happen(m, bare(a)); k != code || !sameSmithy(told, x) {
		t.Fatalf("what is not told of %+v is of matter: %+v, %d, not %+v, %d", a, told, k, x, code)
	}
	checkAllInTheBand(t, x)
	return x, code
}

// checkAllInTheBand is the first half of the promise, of a smithy that came about from a right one.
func checkAllInTheBand(t *testing.T, x impl.Smithy) {
	t.Helper()
	if !impl.SmithyOk(x) {
		t.Fatalf("not SmithyOk: %+v", x)
	}
	for who, s := range x.Smiths {
		if !isThere(s) {
			continue
		}
		mark := x.Desks[s.Bench].Mark
		if !impl.InBand(s.Had, mark) || s.Had < mark-impl.Credit || s.Had > mark+impl.Lead {
			t.Fatalf("%d had %d, and the mark there is %d: %+v", who, s.Had, mark, x)
		}
	}
}

// drawnAct is of one of those Kinds, with numbers that are right in that smithy more often than not, and with any where
// nothing is told.
func drawnAct(l *lots, m impl.Smithy, kinds ...int64) impl.Act {
	a := act(oneOf(l, kinds...), l.below(len(m.Smiths)+2)-1, l.below(300)-20, l.below(300)-20)
	switch a.Kind {
	case impl.AcCome:
		a.A, a.B = l.below(12)-5, l.below(257)
	case impl.AcRank:
		a.A = l.below(13) - 6
	case impl.AcAllow:
		a.A = l.below(257)
	case impl.AcLimit:
		a.A, a.B = l.below(900), 200+l.below(826)
	case impl.AcClose, impl.AcOpen:
		a.A = l.below(len(m.Desks)+2) - 1
	case impl.AcTick:
		a.A = l.below(23)
	case impl.AcGrant:
		a.A, a.B = l.below(len(m.Paces)+2)-1, l.below(5)-1
	case impl.AcJoin:
		a.A = l.below(len(m.Guilds)+4) - 2
	}
	return a
}

func allKinds() []int64 { return upTo(len(actForms))[2:] }

// fewActs has each Kind and others, done and refused in most smithies.
func fewActs() []impl.Act {
	list := []impl.Act{act(impl.AcAsk, 0, 0, 0), act(impl.AcAsk, -7, 99, 5), act(impl.AcLevel, 0, 0, 0), act(impl.AcLevel, 3, -1, 300)}
	for _, who := range []int64{-1, 0, 1, 2, 3, 12} {
		list = append(list, act(impl.AcRest, who, 1, 2), act(impl.AcWake, who, 0, -5), act(impl.AcLeave, who, 3, 0), act(impl.AcRank, who, 5, 6),
			act(impl.AcAllow, who, 3, 0), act(impl.AcLimit, who, 100, 300), act(impl.AcJoin, who, -1, 9), act(impl.AcJoin, who, 0, 0), act(impl.AcJoin, who, 6, 0))
	}
	for _, n := range []int64{-1, 0, 1, 2, 8, 20} {
		list = append(list, act(impl.AcClose, 4, n, 1), act(impl.AcOpen, 2, n, 5), act(impl.AcTick, 1, n, 0), act(impl.AcGrant, 0, n, 1), act(impl.AcCome, 9, n, 255), act(n-1, 0, 0, 0), act(n+14, 0, 1, 255))
	}
	return list
}

// checkActs asks all of the chapter, as the smithy is and as it is lent, and watches all memory.
func checkActs(t *testing.T, m impl.Smithy, list ...impl.Act) {
	t.Helper()
	checkAsked(t, m, append(happenings(list...), playing(list...))...)
	for _, a := range list {
		checkHappening(t, m, a)
	}
	checkWorkMemory(t, m)
}

// checkWorkMemory watches what is answered to WorkOf, and what is given.
func checkWorkMemory(t *testing.T, m impl.Smithy) {
	t.Helper()
	for _, given := range []impl.Smithy{m, lendSmithy(m)} {
		before := toTheBrim(given)
		work, again := impl.WorkOf(given), impl.WorkOf(given)
		checkNoneShared(t, given, work, again)
		all := work[:cap(work)]
		for i := range all {
			all[i] = -79
		}
		if !slices.Equal(again, wantWorkOf(m)) || !reflect.DeepEqual(toTheBrim(given), before) {
			t.Fatalf("WorkOf(%+v) = %v, and it became %+v", before, again, given)
		}
		checkWork(t, given)
	}
}

// checkPlayed asks that a play is its acts one by one, and what comes of each one.
func checkPlayed(t *testing.T, m impl.Smithy, list []impl.Act, want impl.Smithy) {
	t.Helper()
	lent, given := lendActs(list), lendSmithy(m)
	acts, before := slices.Clone(lent[:cap(lent)]), toTheBrim(given)
	x := impl.Play(given, lent)
	if !sameSmithy(x, want) {
		t.Fatalf("Play(%+v, %+v) = %+v, not %+v", m, list, x, want)
	}
	if !slices.Equal(lent[:cap(lent)], acts) || !reflect.DeepEqual(toTheBrim(given), before) {
		t.Fatalf("%+v became %+v, or %+v became %+v", acts, lent[:cap(lent)], before, given)
	}
	checkNoneShared(t, given, lent, x)
}

func TestActConstants(t *testing.T) {
	kinds := []int64{
		impl.AcCome, impl.AcRest, impl.AcWake, impl.AcLeave, impl.AcRank, impl.AcAllow, impl.AcLimit, impl.AcClose, impl.AcOpen, impl.AcTick,
		impl.AcGrant, impl.AcAsk, impl.AcLevel, impl.AcJoin,
	}
	if !slices.Equal(kinds, allKinds()) || len(kinds) != 14 {
		t.Fatal(kinds)
	}
}

func TestHappenCases(t *testing.T) {
	guilds := []impl.Guild{guild(-1, 0, 500), guild(-1, 0, 80)}
	m := smithyWith(benchHall, guilds, works(0, 300), waits(0, 100), works(1, 50), away(2, 9), gone())
	for _, k := range []struct {
		a     impl.Act
		code  int64
		asked func(x impl.Smithy) bool
	}{
		{act(impl.AcCome, 7, -3, 4), impl.OpDone, func(x impl.Smithy) bool {
			return len(x.Smiths) == 6 && x.Smiths[5].Rank == -3 && x.Smiths[5].May == 4 && x.Smiths[5].Guild == -1 && x.Desks[2].Who == 5
		}},
		{act(impl.AcRest, 0, 7, 7), impl.OpDone, func(x impl.Smithy) bool { return x.Smiths[0].State == impl.SmAway && x.Desks[0].Who == 1 }},
		{act(impl.AcWake, 3, 7, 7), impl.OpDone, func(x impl.Smithy) bool { return isThere(x.Smiths[3]) }},
		{act(impl.AcLeave, 2, 7, 7), impl.OpDone, func(x impl.Smithy) bool { return x.Smiths[2] == gone() && x.Desks[1].Who == -1 }},
		{act(impl.AcRank, 1, 4, 7), impl.OpDone, func(x impl.Smithy) bool { return x.Smiths[1].Rank == 4 }},
		{act(impl.AcAllow, 1, 4, 7), impl.OpDone, func(x impl.Smithy) bool { return x.Smiths[1].May == 4 && x.Desks[2].Who == 1 }},
		{act(impl.AcLimit, 1, 4, 7), impl.OpDone, func(x impl.Smithy) bool { return x.Smiths[1].Low == 4 && x.Smiths[1].High == 7 }},
		{act(impl.AcClose, 7, 1, 7), impl.OpDone, func(x impl.Smithy) bool { return !x.Desks[1].Open && x.Smiths[2].Bench != 1 }},
		{act(impl.AcOpen, 7, 1, 7), impl.OpState, nil},
		{act(impl.AcTick, 7, 3, 7), impl.OpDone, func(x impl.Smithy) bool {
			return x.Now == 3 && slices.Equal(impl.WorkOf(x), []int64{600, 0, 600, 0, 0}) && x.Desks[0].Who == 1
		}},
		{act(impl.AcGrant, 7, 1, 1), impl.OpDone, func(x impl.Smithy) bool { return slices.Equal(x.Paces, []int64{0, 1}) }},
		{act(impl.AcAsk, 7, 7, 7), impl.OpDone, func(x impl.Smithy) bool { return slices.Equal(x.Paces, []int64{1, 0}) }},
		{act(impl.AcLevel, 7, 7, 7), impl.OpDone, func(x impl.Smithy) bool { return x.Smiths[1].Bench == 2 && x.Desks[2].Who == 1 }},
		{act(impl.AcJoin, 0, 1, 7), impl.OpDone, func(x impl.Smithy) bool { return x.Smiths[0].Guild == 1 && impl.WantOf(x, 0) == 80 }},
		{act(0, 0, 1, 255), impl.OpRange, nil},
		{act(-1, 0, 1, 255), impl.OpRange, nil},
		{act(15, 0, 1, 255), impl.OpRange, nil},
	} {
		x := checkCode(t, "each Kind", m, happening(k.a), k.code)
		if k.asked != nil && !k.asked(x) {
			t.Errorf("Happen %+v = %+v", k.a, x)
		}
		checkHappening(t, m, k.a)
	}
}

func TestNoKinds(t *testing.T) {
	for _, m := range append(rightSmithies(), dearSmithy()) {
		for _, kind := range noKinds {
			for _, a := range []impl.Act{act(kind, 0, 0, 0), act(kind, 0, 1, 255), act(kind, 1, 1, 1), act(kind, kind, kind, kind)} {
				if x, code := impl.Happen(m, a); code != impl.OpRange || !sameSmithy(x, m) {
					t.Fatalf("Happen(%+v, %+v) = %+v, %d", m, a, x, code)
				}
				if s := impl.ShowAct(a); s != "" {
					t.Fatalf("ShowAct(%+v) = %q", a, s)
				}
			}
		}
	}
}

// What each room has behind AcAsk, where no Pace is enough, and where nobody works, whatever it had ahead of it.
func TestAskCases(t *testing.T) {
	for i, k := range []struct {
		m    impl.Smithy
		want []int64
	}{
		{emptySmithy(benchHall), []int64{0, 0}},
		{emptySmithy(eightHall), []int64{0, 0, 0}},
		{smithyWith(benchHall, nil, away(0, 1024), away(2, 1024), gone()), []int64{0, 0}},
		{smithyWith(benchHall, nil, works(0, 1024), waits(0, 1024), works(2, 1024)), []int64{1, 1}},
		{smithyWith("1 9:9", nil, works(0, 1024)), []int64{0}},
		{smithyWith("1 10:1 20:2 30:3 40:4", nil, works(0, 1024)), []int64{3}},
		{smithyWith("1 10:1 20:2 30:3 40:4", nil, works(0, 32)), []int64{3}},
		{smithyWith("1 10:1 20:2 30:3 40:4", nil, works(0, 24)), []int64{2}},
		{smithyWith("1 10:1 20:2 30:3 40:4", nil, works(0, 8)), []int64{0}},
		{smithyWith("1 10:1 20:2 30:3 40:4", nil, works(0, 5), waits(0, 4)), []int64{1}},
		{smithyWith(benchHall, nil, works(0, 160), works(1, 161), works(2, 409)), []int64{1, 0}},
		{smithyWith(benchHall, nil, works(0, 160), works(1, 160), works(2, 410)), []int64{0, 1}},
		{middleSmithy(), []int64{1, 1}},
		{fullSmithy(), []int64{0, 3, 1}},
	} {
		for room, r := range k.m.Hall.Rooms {
			for pace := range int64(len(r.Paces)) {
				m := withPace(k.m, int64(room), pace)
				x := checkCode(t, fmt.Sprint("case ", i), m, happening(act(impl.AcAsk, 0, 0, 0)), impl.OpDone)
				if !slices.Equal(x.Paces, k.want) {
					t.Errorf("case %d: behind AcAsk the paces are %v, not %v", i, x.Paces, k.want)
				}
				checkHappening(t, m, act(impl.AcAsk, 0, 0, 0))
				if again, _ := impl.Happen(x, act(impl.AcAsk, 0, 0, 0)); !sameSmithy(again, x) {
					t.Errorf("case %d: asked twice, %+v became %+v", i, x, again)
				}
			}
		}
	}
}

// Who is gone, away, waits and works, and who is not there, to no guild, to each one there is and to those there are not.
func TestJoinOfEveryStateAndEveryGuild(t *testing.T) {
	for count := range 7 {
		m := smithyWith(benchHall, someGuilds()[:count], works(0, 700), waits(0, 300), away(2, 9), gone(), works(1, 1024))
		for _, who := range slices.Concat(wrongPlaces, upTo(len(m.Smiths))) {
			for g := int64(-3); g <= 8; g++ {
				code := int64(impl.OpDone)
				switch {
				case !isFrom(who, 0, 4) || who == 3:
					code = impl.OpNone
				case g < -1 || g >= int64(count):
					code = impl.OpRange
				}
				a := act(impl.AcJoin, who, g, 0)
				x := checkCode(t, "each guild", m, happening(a), code)
				checkHappening(t, m, a)
				if code != impl.OpDone {
					continue
				}
				want := m.Smiths[who]
				want.Guild = g
				if x.Smiths[who] != want || impl.WantOf(x, who) != wantWant(m, want) {
					t.Errorf("%+v = %+v", a, x)
				}
				back, _ := impl.Happen(x, act(impl.AcJoin, who, -1, 0))
				if !sameSmithy(back, m) {
					t.Errorf("%+v and back, %+v became %+v", a, m, back)
				}
			}
		}
		for _, g := range slices.Concat(extremes, wrongInAnyField) {
			if g < -1 || g >= int64(count) {
				checkCode(t, "no guild", m, happening(act(impl.AcJoin, 1, g, 0)), impl.OpRange)
				checkCode(t, "no guild, and nobody", m, happening(act(impl.AcJoin, 3, g, 0)), impl.OpNone)
			}
		}
	}
}

// Behind AcAsk and AcJoin each bench is Turned; AcLevel where nobody is put, and what is refused, leave it as it is.
func TestAllBenchesAreTurnedBehindAnAct(t *testing.T) {
	m := smithyWith("2 300:9/1 300:9 600:20", []impl.Guild{guild(-1, 0, 9)},
		smith(impl.SmWorks, 0, 900, 5), smith(impl.SmWaits, 0, 4, 5), smith(impl.SmWorks, 1, 7, 5), smith(impl.SmAway, 2, 0, 5), gone(), smith(impl.SmWorks, 2, 0, 5))
	for _, a := range []impl.Act{act(impl.AcAsk, 0, 0, 0), act(impl.AcJoin, 0, 0, 0), act(impl.AcJoin, 2, 0, 0), act(impl.AcJoin, 3, -1, 0), act(impl.AcJoin, 5, -1, 0), act(impl.AcGrant, 0, 0, 0)} {
		x := checkCode(t, "all are Turned", m, happening(a), impl.OpDone)
		if x.Desks[0] != (impl.Desk{Open: true, Who: 1, Mark: 4}) || x.Smiths[0].State != impl.SmWaits || x.Smiths[1].State != impl.SmWorks || x.Desks[1].Mark != 7 {
			t.Errorf("%+v = %+v", a, x)
		}
	}
	checkCode(t, "nobody is put", m, happening(act(impl.AcLevel, 0, 0, 0)), impl.OpDone)
	for _, a := range []impl.Act{
		act(impl.AcLevel, 0, 0, 0), act(0, 0, 0, 0), act(15, 0, 0, 0), act(impl.AcJoin, 4, 0, 0), act(impl.AcJoin, 6, 0, 0), act(impl.AcJoin, 0, 1, 0), act(impl.AcJoin, 0, -2, 0),
		act(impl.AcTick, 0, 21, 0), act(impl.AcRest, 3, 0, 0), act(impl.AcGrant, 0, 2, 0), act(impl.AcCome, 0, 6, 255),
	} {
		if x, _ := impl.Happen(m, a); !sameSmithy(x, m) || sameSmithy(x, impl.Turned(m)) {
			t.Errorf("%+v = %+v", a, x)
		}
		if x := impl.Play(m, []impl.Act{a}); !sameSmithy(x, m) {
			t.Errorf("Play of %+v = %+v", a, x)
		}
	}
	if x := impl.Play(m, nil); !sameSmithy(x, m) || sameSmithy(x, impl.Turned(m)) {
		t.Errorf("Play of nothing = %+v", x)
	}
}

// Every hall from one bench to eight, with none to twelve smiths of all states, ranks, guilds, bounds, Utils and Mays, and
// rooms at each of their Paces: an act of each Kind, and a play of some.
func TestManySmithiesAndActs(t *testing.T) {
	l, counted := lots(19), codes{}
	for _, h := range rightHalls(t) {
		for count := range mostSmiths + 1 {
			m := withTurns(&l, drawnSmithy(&l, h, count))
			for i, x := range []impl.Smithy{m, strained(&l, calm(&l, m)), gathered(&l, eased(&l, m, 400)), eased(&l, impl.Turned(m), 90)} {
				list := []impl.Act{drawnAct(&l, x, -1, 0, 15)}
				for _, kind := range allKinds() {
					list = append(list, drawnAct(&l, x, kind))
				}
				for _, a := range list {
					_, code := checkHappening(t, x, a)
					counted.add(fmt.Sprint(a.Kind), code)
				}
				if (count+i)%3 == 0 {
					checkActs(t, x, list...)
				} else {
					checkAnswers(t, x, happenings(list...)...)
				}
				checkWork(t, x)
			}
		}
	}
	counted.checkAtLeast(t, 100, "1 0", "1 2", "1 3", "1 4", "2 0", "2 1", "2 2", "3 0", "3 1", "3 2", "3 4", "4 0", "4 1", "5 0", "5 1", "5 3", "6 0", "6 1", "7 0", "7 1", "7 3",
		"8 0", "8 1", "8 2", "9 0", "9 1", "9 2", "10 0", "10 3", "10 4", "11 0", "11 1", "11 3", "12 0", "13 0", "14 0", "14 1", "14 3", "-1 3", "0 3", "15 3")
	counted.checkAtLeast(t, 10, "6 2", "6 3", "8 5")
}

func TestRightSmithiesAndActs(t *testing.T) {
	for _, m := range append(rightSmithies(), dearSmithy()) {
		checkActs(t, m, fewActs()...)
		checkActs(t, impl.Turned(m), fewActs()...)
	}
	for _, h := range rightHalls(t) {
		m, _ := impl.NewSmithy(h)
		checkActs(t, m, fewActs()...)
	}
}

func TestActsOfWhatMeetsItsLimits(t *testing.T) {
	for _, m := range whatMeetsItsLimits {
		checkActs(t, m, fewActs()...)
	}
}

// busyKinds lets there be a crowd, and time go by.
func busyKinds() []int64 {
	return append(allKinds(), impl.AcCome, impl.AcCome, impl.AcTick, impl.AcTick, impl.AcTick, impl.AcTick, impl.AcTick, impl.AcWake, impl.AcWake, impl.AcOpen, 0, 15)
}

// newSmithy is by the words of the promise; a guild more or less is what the bench of chapter 20 does.
func newSmithy(t *testing.T, text string, guilds ...impl.Guild) impl.Smithy {
	t.Helper()
	m, ok := impl.NewSmithy(mustHall(text))
	if !ok {
		t.Fatal(text)
	}
	m.Guilds = guilds
	return m
}

// played lets acts happen, one drawn after the other, and answers these and what comes of them.
func played(t *testing.T, l *lots, counted codes, m impl.Smithy, count int) ([]impl.Act, impl.Smithy) {
	t.Helper()
	list, x := []impl.Act{}, m
	for range count {
		a := drawnAct(l, x, busyKinds()...)
		next, code := impl.Happen(x, a)
		if code != impl.OpDone {
			checkNothingChanged(t, x, next, code)
		}
		checkAllInTheBand(t, next)
		counted.add(fmt.Sprint(a.Kind), code)
		list, x = append(list, a), next
	}
	return list, x
}

// Promise 19, its first half: of a new smithy, whatever happens, all are in the band.
func TestWhateverHappensAllAreInTheBand(t *testing.T) {
	l, counted := lots(1919), codes{}
	for i, h := range rightHalls(t) {
		m, _ := impl.NewSmithy(h)
		if i%2 == 0 {
			m.Guilds = someGuilds()
		}
		for range 3 {
			list, x := played(t, &l, counted, m, mostActs)
			checkPlayed(t, m, list, x)
		}
		list, x := played(t, &l, counted, m, mostActs)
		checkPlayed(t, m, list, x)
		if most := slices.Max(append(wantWorkOf(x), 0)); most == 0 || x.Now == 0 {
			t.Fatalf("nobody works: %+v", x)
		}
	}
	for _, text := range []string{"1 50:5", "1 1024:9", "1 90:9 200:20/1 50:1 700:2 1024:3", benchHall, dearHall, eightHall, "1 1024:1/1 1024:2/1 1:1"} {
		for count := mostActs; count >= 0; count -= 20 {
			m := newSmithy(t, text, someGuilds()...)
			list, x := played(t, &l, counted, m, count)
			checkPlayed(t, m, list, x)
		}
	}
	counted.checkAtLeast(t, 100, "1 0", "2 0", "3 0", "4 0", "5 0", "6 0", "7 0", "8 0", "9 0", "10 0", "11 0", "12 0", "13 0", "14 0", "0 3", "15 3")
}

// The same, held against the reckoning and against the earlier chapters at each act.
func TestLongPlaysHeldAgainstAReckoning(t *testing.T) {
	l := lots(191919)
	for _, text := range []string{"1 50:5", "1 90:9 200:20/1 50:1 700:2 1024:3", benchHall, dearHall, eightHall} {
		for range 3 {
			m := newSmithy(t, text, someGuilds()...)
			list, x := []impl.Act{}, m
			for len(list) < mostActs {
				a := drawnAct(&l, x, busyKinds()...)
				checkAsked(t, x, happening(a))
				x, _ = checkHappening(t, x, a)
				checkWork(t, x)
				list = append(list, a)
			}
			checkPlayed(t, m, list, x)
			checkAsked(t, m, playing(list...))
			// A play is its parts, one behind the other.
			for _, cut := range []int{0, 1, 150, 299, 300} {
				checkPlayed(t, impl.Play(m, list[:cut]), list[cut:], x)
			}
		}
	}
}

// pair is two that stay at one bench with their ranks, from a smithy on.
type pair struct {
	first, second int64
	from          impl.Smithy
}

func (p pair) stays(x impl.Smithy) bool {
	for _, who := range []int64{p.first, p.second} {
		s, was := x.Smiths[who], p.from.Smiths[who]
		if !isThere(s) || s.Bench != was.Bench || s.Rank != was.Rank {
			return false
		}
	}
	return p.from.Smiths[p.first].Bench == p.from.Smiths[p.second].Bench
}

// checkFair is the second half of the promise, with its own bound; and that what each had grew by its work alone. all is
// the WorkOf x.
func (p pair) checkFair(t *testing.T, x impl.Smithy, all []int64) {
	t.Helper()
	work, weight := [2]int64{}, [2]int64{}
	for i, who := range []int64{p.first, p.second} {
		s, was := x.Smiths[who], p.from.Smiths[who]
		work[i], weight[i] = all[who]-was.Work, impl.WeightOf(s.Rank)
		if (s.Had-was.Had)*weight[i]+s.Carry-was.Carry != 1024*work[i] {
			t.Fatalf("%d worked %d, and %+v became %+v", who, work[i], was, s)
		}
	}
	apart, most := 1024*work[0]*weight[1]-1024*work[1]*weight[0], (2*(impl.Credit+impl.Lead)+2)*weight[0]*weight[1]
	if apart < -most || apart > most {
		t.Fatalf("%d and %d are %d apart, and %d is the most: %+v became %+v", p.first, p.second, apart, most, p.from, x)
	}
}

// isBack asks whether anybody but the pair woke at its bench.
func (p pair) isBack(was, x impl.Smithy) bool {
	for who, s := range was.Smiths {
		if s.State == impl.SmAway && isThere(x.Smiths[who]) && x.Smiths[who].Bench == p.from.Smiths[p.first].Bench {
			return true
		}
	}
	return false
}

// crowdOf is a new smithy to which two came, at one bench, and then others who may be there or anywhere.
func crowdOf(t *testing.T, l *lots, text string, first, second int64, others int) impl.Smithy {
	t.Helper()
	list := []impl.Act{act(impl.AcCome, 0, first, 1), act(impl.AcCome, 0, second, 1)}
	for range others {
		list = append(list, act(impl.AcCome, 0, l.below(11)-5, oneOf[int64](l, 1, 1, 255)))
	}
	m := impl.Play(newSmithy(t, text, someGuilds()...), list)
	if len(m.Smiths) != 2+others || len(impl.At(m, 0)) < 2 {
		t.Fatalf("%+v", m)
	}
	return m
}

// fairSteps lets acts happen, but for those behind which the two would not stay or somebody would be back, and holds them
// to the bound from the begin on, and from later ones on.
func fairSteps(t *testing.T, l *lots, counted codes, m impl.Smithy, count int) {
	t.Helper()
	pairs := []pair{{0, 1, m}}
	// Who leaves is gone for good, so that few may; who rests may wake elsewhere, where another bench is Open.
	kinds := slices.Concat(allKinds(), allKinds(), slices.Repeat([]int64{impl.AcTick}, 20), []int64{impl.AcRest, impl.AcWake, impl.AcWake, impl.AcOpen, impl.AcOpen, impl.AcCome})
	kinds = slices.DeleteFunc(kinds, func(kind int64) bool { return kind == impl.AcLeave && l.below(4) > 0 })
	x := m
	for step := range count {
		a := drawnAct(l, x, kinds...)
		if a.Kind == impl.AcTick && l.below(2) == 0 {
			a.A = 20
		}
		next, code := impl.Happen(x, a)
		checkAllInTheBand(t, next)
		if !pairs[0].stays(next) || pairs[0].isBack(x, next) {
			counted["not let happen"]++
			continue
		}
		counted.add(fmt.Sprint(a.Kind), code)
		all := impl.WorkOf(next)
		for _, p := range pairs {
			p.checkFair(t, next, all)
		}
		if x = next; step%60 == 59 {
			pairs = append(pairs, pair{0, 1, x}, pair{1, 0, x})
		}
	}
	if x.Smiths[0].Work == 0 || x.Smiths[1].Work == 0 {
		t.Fatalf("one never works: %+v", x)
	}
}

// Promise 19, its second half: at each pair of ranks, with none, one and several others at the bench.
func TestWhoStaysHasItsShare(t *testing.T) {
	l, counted := lots(1900), codes{}
	for first := int64(-5); first <= 5; first++ {
		for second := int64(-5); second <= 5; second++ {
			for _, others := range []int{0, 1, 4} {
				text := oneOf(&l, "1 1024:9", "1 50:1 1024:9/1 100:1", "1 200:2 1024:9/2 100:1 900:7", "2 90:1 700:5 1000:8", "4 1024:1")
				fairSteps(t, &l, counted, crowdOf(t, &l, text, first, second, others), mostActs)
			}
		}
	}
	counted.checkAtLeast(t, 200, "1 0", "2 0", "3 0", "4 0", "5 0", "6 0", "7 0", "8 0", "9 0", "10 0", "11 0", "12 0", "13 0", "14 0", "not let happen")
}

// However long it lasts: all of the time there is, in plays of as many acts as there may be.
func TestWhoStaysHasItsShareToTheEnd(t *testing.T) {
	ticks := slices.Repeat([]impl.Act{act(impl.AcTick, 0, 20, 0)}, mostActs)
	for _, k := range []struct{ first, second, third int64 }{{-5, 5, 0}, {5, 5, 5}, {0, 0, -5}, {5, -5, 1}, {-1, 1, 5}} {
		for _, text := range []string{"1 1024:9", "1 3:1"} {
			m := impl.Play(newSmithy(t, text), []impl.Act{act(impl.AcCome, 0, k.first, 1), act(impl.AcCome, 0, k.second, 1), act(impl.AcCome, 0, k.third, 1)})
			x := m
			for x.Now < mostNow {
				was := x.Now
				x = impl.Play(x, ticks)
				checkAllInTheBand(t, x)
				if x.Now != min(was+20*mostActs, mostNow) {
					t.Fatalf("it was %d, and is %d: %+v", was, x.Now, x)
				}
				for first := range int64(3) {
					for second := range first {
						pair{first, second, m}.checkFair(t, x, impl.WorkOf(x))
					}
				}
			}
			if force := forceNow(m, 0); workOfAll(x) != mostNow*force {
				t.Fatalf("%d was worked in all of the time with %d", workOfAll(x), force)
			}
			checkPlayed(t, x, ticks, x)
		}
	}
}

// As long as a Play may be, and one act longer, of acts that are done and of acts that are refused.
func TestHowLongAPlayMayBe(t *testing.T) {
	for _, m := range append(rightSmithies(), dearSmithy(), newSmithy(t, benchHall)) {
		if m.Now > mostNow/2 {
			t.Fatalf("too late: %+v", m)
		}
		for _, a := range []impl.Act{act(impl.AcTick, 0, 1, 0), act(impl.AcTick, 0, 21, 0), act(0, 0, 0, 0), act(impl.AcLevel, 0, 0, 0)} {
			x, acts := m, []impl.Act{}
			for range mostActs {
				x, _ = wantHappen(x, a)
				acts = append(acts, a)
			}
			checkPlayed(t, m, acts, x)
			for _, more := range []int{1, 2, 300, 65236, 65536} {
				checkPlayed(t, m, append(slices.Clone(acts), slices.Repeat([]impl.Act{a}, more)...), impl.Smithy{})
			}
		}
		checkPlayed(t, m, nil, m)
		checkPlayed(t, m, []impl.Act{}, m)
		checkAsked(t, m, playing())
	}
	for _, count := range []int{0, 1, 2, 299, 300} {
		m := newSmithy(t, benchHall)
		if x := impl.Play(m, slices.Repeat([]impl.Act{act(impl.AcTick, 0, 2, 0)}, count)); x.Now != 2*int64(count) {
			t.Errorf("behind a play of %d it is %d", count, x.Now)
		}
	}
}

// An act that is refused, at each place of a play, changes nothing, and what is behind it goes on.
func TestPlaysWithOneActThatIsRefused(t *testing.T) {
	m := newSmithy(t, benchHall, guild(-1, 0, 500))
	acts := []impl.Act{
		act(impl.AcCome, 0, 0, 7), act(impl.AcCome, 0, -2, 1), act(impl.AcTick, 0, 5, 0), act(impl.AcJoin, 1, 0, 0), act(impl.AcAsk, 0, 0, 0), act(impl.AcRest, 0, 0, 0),
		act(impl.AcTick, 0, 20, 0), act(impl.AcWake, 0, 0, 0), act(impl.AcClose, 0, 2, 0), act(impl.AcLevel, 0, 0, 0), act(impl.AcRank, 0, 3, 0), act(impl.AcTick, 0, 9, 0),
	}
	want := impl.Play(m, acts)
	if want.Now != 34 || len(want.Smiths) != 2 || want.Desks[2].Open || want.Smiths[0].Rank != 3 || want.Smiths[1].Guild != 0 {
		t.Fatalf("%+v", want)
	}
	checkAsked(t, m, playing(acts...))
	for _, a := range []impl.Act{
		act(0, 0, 0, 0), act(-1, 0, 0, 0), act(15, 0, 5, 1), act(math.MinInt64, 0, 0, 0), act(math.MaxInt64, 0, 0, 0), act(impl.AcCome, 0, 6, 1), act(impl.AcCome, 0, 0, 248),
		act(impl.AcRest, 7, 0, 0), act(impl.AcWake, 1, 0, 0), act(impl.AcLeave, -1, 0, 0), act(impl.AcRank, 0, 6, 0), act(impl.AcAllow, 0, 0, 0), act(impl.AcLimit, 0, 2, 1),
		act(impl.AcClose, 0, 3, 0), act(impl.AcOpen, 0, 0, 0), act(impl.AcTick, 0, 0, 0), act(impl.AcTick, 0, 21, 0), act(impl.AcGrant, 0, 2, 0), act(impl.AcJoin, 1, 1, 0), act(impl.AcJoin, 2, 0, 0),
	} {
		for place := range len(acts) + 1 {
			checkPlayed(t, m, slices.Insert(slices.Clone(acts), place, a), want)
		}
		checkPlayed(t, want, []impl.Act{a}, want)
	}
}

// Every play of three acts out of a few, of a small smithy.
func TestEveryPlayOfThreeActs(t *testing.T) {
	m := smithyWith("1 100:9 900:90/1 50:1", []impl.Guild{guild(-1, 0, 40)}, works(0, 90), smith(impl.SmAway, 1, 30, 70))
	few := []impl.Act{
		act(impl.AcCome, 0, 1, 3), act(impl.AcCome, 0, -1, 2), act(impl.AcRest, 0, 0, 0), act(impl.AcRest, 2, 0, 0), act(impl.AcWake, 0, 0, 0), act(impl.AcWake, 1, 0, 0), act(impl.AcLeave, 0, 0, 0),
		act(impl.AcRank, 1, 5, 0), act(impl.AcAllow, 0, 2, 0), act(impl.AcAllow, 1, 1, 0), act(impl.AcLimit, 0, 30, 45), act(impl.AcClose, 0, 0, 0), act(impl.AcClose, 0, 1, 0), act(impl.AcOpen, 0, 0, 0),
		act(impl.AcTick, 0, 1, 0), act(impl.AcTick, 0, 20, 0), act(impl.AcGrant, 0, 0, 1), act(impl.AcAsk, 0, 0, 0), act(impl.AcLevel, 0, 0, 0), act(impl.AcJoin, 0, 0, 0), act(impl.AcJoin, 1, 0, 0), act(0, 0, 0, 0),
	}
	for _, first := range few {
		one, _ := wantHappen(m, first)
		for _, second := range few {
			two, _ := wantHappen(one, second)
			for _, third := range few {
				want, _ := wantHappen(two, third)
				if x := impl.Play(m, []impl.Act{first, second, third}); !sameSmithy(x, want) {
					t.Fatalf("Play(%+v, %+v) = %+v, not %+v", m, []impl.Act{first, second, third}, x, want)
				}
			}
		}
	}
}

func checkShown(t *testing.T, a impl.Act) {
	t.Helper()
	s := impl.ShowAct(a)
	if want := wantShowAct(a); s != want || impl.ShowAct(bare(a)) != want {
		t.Fatalf("ShowAct(%+v) = %q, not %q", a, s, want)
	}
	x, ok := impl.ReadAct(s)
	short := formOf(a.Kind) != ""
	for _, n := range []int64{bare(a).Who, bare(a).A, bare(a).B} {
		short = short && isFrom(n, -billion+1, billion-1)
	}
	if ok != short || ok && x != bare(a) || !ok && x != (impl.Act{}) {
		t.Fatalf("ReadAct of ShowAct(%+v) = %+v, %v", a, x, ok)
	}
}

func checkReadAct(t *testing.T, s string) {
	t.Helper()
	want, is := wantReadAct(s)
	a, ok := impl.ReadAct(s)
	if ok != is || a != want {
		t.Fatalf("ReadAct(%q) = %+v, %v, not %+v, %v", s, a, ok, want, is)
	}
	if shown := impl.ShowAct(a); ok && shown != s {
		t.Fatalf("ShowAct of ReadAct(%q) = %q", s, shown)
	}
}

func TestShowActAndReadActCases(t *testing.T) {
	for _, k := range []struct {
		a    impl.Act
		text string
	}{
		{act(impl.AcCome, 9, -5, 255), "come -5 255"}, {act(impl.AcRest, 11, 8, 8), "rest 11"}, {act(impl.AcWake, 0, 8, 8), "wake 0"}, {act(impl.AcLeave, -1, 8, 8), "leave -1"},
		{act(impl.AcRank, 3, -4, 8), "rank 3 -4"}, {act(impl.AcAllow, 2, 7, 8), "allow 2 7"}, {act(impl.AcLimit, 1, 200, 300), "limit 1 200 300"}, {act(impl.AcClose, 8, 2, 8), "close 2"},
		{act(impl.AcOpen, 8, 7, 8), "open 7"}, {act(impl.AcTick, 8, 20, 8), "tick 20"}, {act(impl.AcGrant, 8, 0, 1), "grant 0 1"}, {act(impl.AcAsk, 8, 8, 8), "ask"}, {act(impl.AcLevel, 8, 8, 8), "level"},
		{act(impl.AcJoin, 5, -1, 8), "join 5 -1"},
	} {
		if s := impl.ShowAct(k.a); s != k.text {
			t.Errorf("ShowAct(%+v) = %q, not %q", k.a, s, k.text)
		}
		if a, ok := impl.ReadAct(k.text); !ok || a != bare(k.a) {
			t.Errorf("ReadAct(%q) = %+v, %v", k.text, a, ok)
		}
		checkShown(t, k.a)
		checkReadAct(t, k.text)
	}
}

// someNumbers are near each limit of a number, and of an int64.
var someNumbers = slices.Concat(extremes, wrongInAnyField, []int64{
	-billion - 1, -billion, -billion + 1, -99999999, -10, -9, -5, 3, 5, 7, 9, 10, 11, 99, 100, 255, 256, 99999999, 100000000, billion - 1, billion, billion + 1, 9999999999,
})

// What is shown is read as that act, of every Kind with all such numbers; of more than nine digits it is shown, not read.
func TestReadActOfShowActIsTheAct(t *testing.T) {
	for _, kind := range slices.Concat(allKinds(), noKinds) {
		for _, n := range someNumbers {
			for _, a := range []impl.Act{act(kind, n, 1, 2), act(kind, 1, n, 2), act(kind, 1, 2, n), act(kind, n, n, n), act(kind, n, -n, n/2), act(kind, 0, 0, n), act(kind, n, 0, 0)} {
				checkShown(t, a)
			}
		}
		for n := int64(-1100); n <= 1100; n++ {
			checkShown(t, act(kind, n, n+1, n*7))
		}
	}
	l := lots(190)
	for range 20000 {
		drawn := func() int64 { return (l.below(2*billion) - billion) >> l.below(31) }
		checkShown(t, act(1+l.below(14), drawn(), drawn(), drawn()))
	}
}

func TestReadActCases(t *testing.T) {
	right := []string{
		"come 0 0", "rest 5", "wake 9", "leave 10", "rank 999999999 -999999999", "allow 1 123456789", "limit -1 -1 -1", "close 0", "open -5", "tick 1", "grant 100000000 99999999", "ask", "level", "join 3 -1",
	}
	for _, s := range right {
		if _, ok := impl.ReadAct(s); !ok {
			t.Errorf("ReadAct(%q) is refused", s)
		}
		checkReadAct(t, s)
	}
	wrong := []string{
		"", " ", "  ", "-", "0", "1 2", "come", "come 0", "come 0 1 2", "rest", "rest 0 1", "wake", "wake 1 1", "leave", "leave 1 1", "rank", "rank 1", "rank 1 2 3", "allow", "allow 1", "allow 1 2 3",
		"limit", "limit 1", "limit 1 2", "limit 1 2 3 4", "close", "close 1 2", "open", "open 1 2", "tick", "tick 1 2", "grant", "grant 1", "grant 1 2 3", "ask 0", "ask ask", "level 0", "level 1 2", "join", "join 1", "join 1 2 3",
		" ask", "ask ", " level", "level ", " tick 1", "tick 1 ", "tick  1", "tick 1  ", "come 0  1", "come  0 1", " come 0 1", "come 0 1 ", "limit 1 2 ", "limit 1  2", "rest ", "come 1 ", "come  1",
		"Ask", "ASK", "aSK", "Tick 1", "TICK 1", "tICK 1", "Come 0 1", "LEVEL", "asks", "as", "a", "tickk 1", "tic 1", "tick1", "ask0", "come0 1", "comes 0 1", "rests 0", "hall 1", "who", "now", "at 0", "x", "x 1", "tock 1", "none 0",
		"tick 01", "tick 00", "tick -0", "tick +1", "tick +0", "tick --1", "tick -", "tick +", "tick -01", "tick 1-", "tick 1000000000", "tick -1000000000", "tick 0000000001", "tick 000000001", "tick 9999999999",
		"tick 9223372036854775807", "tick -9223372036854775808", "tick 9223372036854775808", "tick 18446744073709551617", "tick 4294967297", "tick 1.0", "tick 1e1", "tick 0x1", "tick 1_0", "tick 1,0", "tick a", "tick one",
		"come 0 01", "come 01 0", "come -0 1", "come 1 -0", "come 1 1000000000", "come 1000000000 1", "limit 0 0 00", "limit 0 00 0", "limit 00 0 0", "rest 01", "join 0 +1", "join 0 a", "join a 0", "rank 1 b",
		"ask\n", "\nask", "ask\x00", "\x00ask", "ask\t", "\task", "tick\t1", "tick\n1", "tick 1\n", "tick 1\r", "tick 1\x00", "tick\x001", "tick\u00a01", "tick 1\u00a0", "tick １", "tick ١", "t\u0131ck 1", "tick \xff", "\xff", "\xff 1", "ask\xff", "ask;", "tick:1", "tick/1",
		"ask\nask", "tick 1\ntick 1", "tick 1 tick 1", "level ask",
	}
	for _, s := range wrong {
		if a, ok := impl.ReadAct(s); ok || a != (impl.Act{}) {
			t.Errorf("ReadAct(%q) = %+v, %v", s, a, ok)
		}
		checkReadAct(t, s)
	}
}

// Each word with none to five numbers, and words that are nearly one.
func TestReadActOfEveryWordWithTooManyOrTooFew(t *testing.T) {
	words := []string{"", "-", "who", "at", "used", "hall", "act", "join ", " join", "com", "comes", "Come", "res", "levels", "joinn", "tick\x00"}
	for _, form := range actForms {
		word, _, _ := strings.Cut(form, " ")
		words = append(words, word)
	}
	read := 0
	for _, word := range words {
		for count := range 6 {
			for _, number := range []string{"0", "7", "-1", "12345678", "999999999", "1000000000", "01", "-0", "", "x", word} {
				s := word + strings.Repeat(" "+number, count)
				checkReadAct(t, s)
				checkReadAct(t, s+" 3")
				if _, ok := impl.ReadAct(s); ok {
					read++
				}
			}
		}
	}
	// Twelve words with five numbers that are right, and two with none that are asked for eleven times each.
	if read != 12*5+2*11 {
		t.Fatalf("%d were read", read)
	}
}

// One byte too many, one missing and one in another's place, each byte there is at each place of a text of each Kind.
func TestReadActOfTextsThatAreNearlyRight(t *testing.T) {
	for _, form := range actForms {
		for _, numbers := range [][]string{{"0", "12", "-3"}, {"11", "-10", "999999999"}} {
			s := strings.NewReplacer("W", numbers[0], "A", numbers[1], "B", numbers[2]).Replace(form)
			for i := range len(s) + 1 {
				checkReadAct(t, s[:i])
				checkReadAct(t, s[i:])
				for c := range 256 {
					checkReadAct(t, s[:i]+string([]byte{byte(c)})+s[i:])
					if i < len(s) {
						checkReadAct(t, s[:i]+string([]byte{byte(c)})+s[i+1:])
					}
				}
				if i < len(s) {
					checkReadAct(t, s[:i]+s[i+1:])
				}
			}
		}
	}
}

func TestReadActOfLongTexts(t *testing.T) {
	for _, s := range []string{"ask", "ask ", " ", "tick 1 ", "tick 1", "0", "-", "tick", "limit 1 2 3 ", "\n"} {
		if a, ok := impl.ReadAct(strings.Repeat(s, 100000)); ok || a != (impl.Act{}) {
			t.Errorf("%q again and again is read", s)
		}
		if a, ok := impl.ReadAct("tick " + strings.Repeat(s, 100000)); ok || a != (impl.Act{}) {
			t.Errorf("tick and %q again and again is read", s)
		}
	}
}

// The least and the greatest int64, and others, in each field of an act, one at a time and all together.
func TestActsOfWrongNumbersInEveryField(t *testing.T) {
	numbers := slices.Concat(wrongPlaces, wrongInAnyField, noKinds, []int64{-6, 6, 21, 1025, 257})
	for _, m := range []impl.Smithy{middleSmithy(), impl.Turned(fullSmithy()), emptySmithy("1 1:1"), dearSmithy()} {
		for _, kind := range allKinds() {
			right := act(kind, 0, 1, 2)
			for _, n := range numbers {
				list := []impl.Act{act(n, right.Who, right.A, right.B), act(kind, n, right.A, right.B), act(kind, right.Who, n, right.B), act(kind, right.Who, right.A, n), act(kind, n, n, n), act(n, n, n, n)}
				checkAnswers(t, m, append(happenings(list...), playing(list...))...)
				for _, a := range list {
					checkHappening(t, m, a)
				}
			}
		}
		for _, n := range []int64{math.MinInt64, math.MaxInt64} {
			list := []impl.Act{}
			for _, kind := range allKinds() {
				list = append(list, act(kind, n, n, n))
			}
			if x := impl.Play(m, list); !sameSmithy(x, impl.Play(m, []impl.Act{act(impl.AcAsk, 0, 0, 0), act(impl.AcLevel, 0, 0, 0)})) {
				t.Errorf("Play(%+v, %+v) = %+v", m, list, x)
			}
		}
	}
}

// checkNoActs asks for the answers that the chapter names for a smithy that is not right.
func checkNoActs(t *testing.T, what string, m impl.Smithy, list ...impl.Act) {
	t.Helper()
	checkNothingDone(t, what, m, happenings(list...)...)
	lent, acts := lendSmithy(m), lendActs(list)
	before := toTheBrim(lent)
	for _, some := range [][]impl.Act{nil, {}, acts[:1], acts, slices.Repeat(acts[:1], mostActs+1)} {
		if x := impl.Play(lent, some); !sameSmithy(x, impl.Smithy{}) {
			t.Fatalf("Play of %d with %s = %+v: %+v", len(some), what, x, m)
		}
	}
	if work := impl.WorkOf(lent); len(work) != 0 {
		t.Fatalf("WorkOf with %s = %v: %+v", what, work, m)
	}
	if after := toTheBrim(lent); !reflect.DeepEqual(after, before) || !slices.Equal(acts, list) {
		t.Fatalf("%+v became %+v", before, after)
	}
}

// eachKindOnce has one act of every Kind and of none.
func eachKindOnce() []impl.Act {
	list := []impl.Act{act(0, 0, 0, 0), act(15, 0, 0, 0), act(impl.AcJoin, 0, -1, 0), act(impl.AcJoin, 99, 99, 0)}
	for _, kind := range allKinds() {
		list = append(list, act(kind, 0, 1, 2), act(kind, 1, 0, 1))
	}
	return list
}

// Each part that chapter 11 names, wrong one at a time, and all that may be wrong in whose turn it is.
func TestInWhatIsWrongNothingHappens(t *testing.T) {
	for what, m := range wrongSmithies {
		checkNoActs(t, what, m, eachKindOnce()...)
	}
}

// The least and the greatest int64, and others that are right nowhere, in each number of each part and in all of them.
func TestActsOfWrongNumbersInEveryPart(t *testing.T) {
	list := eachKindOnce()
	for _, n := range []int64{math.MinInt64, math.MaxInt64} {
		list = append(list, act(n, n, n, n), act(impl.AcJoin, n, n, n), act(impl.AcAsk, n, n, n), act(impl.AcLevel, n, n, n))
	}
	for what, m := range wrongNumbersInEveryPart {
		checkNoActs(t, what, m, list...)
	}
}

func TestActsOfEveryNumberALittleOff(t *testing.T) {
	list := []impl.Act{
		act(impl.AcAsk, 0, 0, 0), act(impl.AcJoin, 0, -1, 0), act(impl.AcJoin, 1, 0, 0), act(impl.AcJoin, 2, 1, 0), act(impl.AcLevel, 0, 0, 0), act(0, 0, 0, 0), act(impl.AcTick, 0, 20, 0), act(impl.AcWake, 2, 0, 0), act(impl.AcClose, 0, 0, 0),
	}
	for _, right := range []impl.Smithy{middleSmithy(), dearSmithy()} {
		for m := range aLittleOff(right) {
			checkAnswers(t, m, append(happenings(list[:6]...), playing(list...))...)
			checkWork(t, m)
		}
	}
}

func TestActsOfEmptyAndNilLists(t *testing.T) {
	for what, m := range withListsDropped {
		checkNoActs(t, what, m, eachKindOnce()...)
	}
	for _, text := range []string{"1 1:1", benchHall, eightHall} {
		m := emptySmithy(text)
		checkActs(t, m, fewActs()...)
		m.Guilds, m.Smiths = nil, nil
		checkActs(t, m, fewActs()...)
		for _, a := range []impl.Act{act(impl.AcAsk, 0, 0, 0), act(impl.AcLevel, 0, 0, 0)} {
			if x := checkCode(t, "no smiths", m, happening(a), impl.OpDone); !sameSmithy(x, m) {
				t.Errorf("%+v: %+v became %+v", a, m, x)
			}
		}
		checkCode(t, "no smiths and no guilds", m, happening(act(impl.AcJoin, 0, 0, 0)), impl.OpNone)
		if work := impl.WorkOf(m); len(work) != 0 {
			t.Errorf("WorkOf(%+v) = %v", m, work)
		}
	}
}

// What is answered shares no memory with an argument nor with another answer, where it is refused, too.
func TestActsAreNewMemory(t *testing.T) {
	for _, m := range append(rightSmithies(), dearSmithy()) {
		list := append(happenings(fewActs()...), playing(), playing(act(0, 0, 0, 0)), playing(act(impl.AcLevel, 0, 0, 0)), playing(act(impl.AcJoin, 0, 99, 0), act(impl.AcTick, 0, 21, 0)), playing(fewActs()...))
		checkWrittenNowhereElse(t, m, list...)
		checkWorkMemory(t, m)
	}
	checkPacesApart(t, append(happenings(fewActs()...), playing(), playing(act(0, 0, 0, 0)), playing(fewActs()...))...)
}

func TestActsOfSmallSmithies(t *testing.T) {
	list := []impl.Act{act(impl.AcAsk, 0, 0, 0), act(impl.AcJoin, 0, -1, 0), act(impl.AcJoin, 1, 0, 0), act(impl.AcLevel, 0, 0, 0), act(15, 0, 0, 0)}
	script := playing(act(impl.AcLevel, 0, 0, 0), act(impl.AcTick, 0, 20, 0), act(impl.AcClose, 0, 0, 0), act(impl.AcAsk, 0, 0, 0), act(impl.AcTick, 0, 3, 0), act(impl.AcOpen, 0, 0, 0), act(impl.AcWake, 1, 0, 0), act(impl.AcJoin, 0, -1, 0))
	for m := range smallSmithies {
		checkAnswers(t, m, append(happenings(list...), script)...)
		checkWork(t, m)
	}
}

// manyWorks has that many smiths who are gone, away, wait and work, with no two Works alike but of those who are gone.
func manyWorks(count int) impl.Smithy {
	m := emptySmithy(eightHall)
	for who := range int64(count) {
		s := []impl.Smith{works(who%8, 5), waits((who+8-1)%8, 5), away(7, 5), gone()}[(who*7+who/4)%4]
		if s.State == impl.SmWorks && m.Desks[s.Bench].Who != -1 {
			s.State = impl.SmWaits
		}
		if s.State == impl.SmWaits && m.Desks[s.Bench].Who == -1 {
			s.State = impl.SmWorks
		}
		if s.State == impl.SmWorks {
			m.Desks[s.Bench].Who = who
		}
		if s.State != impl.SmGone {
			s.Work = mostWork - who*who*77777777 - who
		}
		m.Smiths = append(m.Smiths, s)
	}
	return m
}

// Of none to twelve smiths, in their order, many times over, and of several who ask at once.
func TestWorkOfManyTimesOver(t *testing.T) {
	for count := range mostSmiths + 1 {
		m := manyWorks(count)
		if !impl.SmithyOk(m) {
			t.Fatalf("not SmithyOk: %+v", m)
		}
		want := wantWorkOf(m)
		for range 400 {
			if got := impl.WorkOf(m); len(got) != count || !slices.Equal(got, want) {
				t.Fatalf("WorkOf(%+v) = %v, not %v", m, got, want)
			}
		}
		var all sync.WaitGroup
		wrong := make([]bool, 8)
		for i := range wrong {
			all.Go(func() {
				for range 100 {
					wrong[i] = wrong[i] || !slices.Equal(impl.WorkOf(m), want)
				}
			})
		}
		all.Wait()
		if slices.Contains(wrong, true) {
			t.Fatalf("asked at once, WorkOf(%+v) is not %v", m, want)
		}
		checkWorkMemory(t, m)
	}
	if work := impl.WorkOf(manyWorks(4)); !slices.Equal(work, []int64{mostWork, 0, mostWork - 4*77777777 - 2, mostWork - 9*77777777 - 3}) {
		t.Error(work)
	}
}

// None of those that were asked goes on behind the answer.
func TestWorkOfLeavesNobodyBehind(t *testing.T) {
	m := manyWorks(mostSmiths)
	before := runtime.NumGoroutine()
	for range 500 {
		impl.WorkOf(m)
	}
	for tries := 0; runtime.NumGoroutine() > before; tries++ {
		if tries > 1000000 {
			t.Fatalf("%d became %d", before, runtime.NumGoroutine())
		}
		runtime.Gosched()
	}
}
